/- The states of a card: the table as a list, and what it tells. -/
import Derived.Handy
namespace Go.Proofs.Ytddmodiogjnhmaa.PhM
abbrev K3 := Int × Int × Bool
def lk : List (K3 × Int) → K3 → Option Int
  | [], _ => none
  | p :: l, k => if p.1 = k then some p.2 else lk l k
def both (s i x : Int) (l : List (K3 × Int)) : List (K3 × Int) := ((s, i, true), x) :: ((s, i, false), x) :: l
def stt : List Int := [0, 1, 2, 3, 4, 6]
def inn : List Int := [6, 8, 17, 18, 23, 28, 29, 30, 35, 36, 38]
def LA : Nat → List (K3 × Int)
  | 0 => []
  | k + 1 => both (stt.getD k 0) 0 0 (LA k)
def L1 : List (K3 × Int) := both 2 3 3 (both 1 2 2 (both 0 1 1 (LA 6)))
def L2 : List (K3 × Int) := ((4, 13, true), 4) :: ((4, 7, false), 3) :: ((3, 13, true), 3) :: ((3, 9, true), 3) :: ((3, 7, false), 3) :: ((3, 7, true), 4) :: L1
def LB : Nat → List (K3 × Int)
  | 0 => L2
  | k + 1 => both 4 (inn.getD k 0) 4 (LB k)
def L4 : List (K3 × Int) := ((6, 13, true), 6) :: both 6 12 4 (both 4 25 6 (both 4 24 6 (LB 11)))

def standN (i : Int) (m : Bool) : Int × Bool := if i = 7 then (if m then (4, true) else (3, true)) else if i = 9 then (3, m) else if i = 13 then (3, m) else (3, false)
def tranN (i : Int) (m : Bool) : Int × Bool :=
  if i = 7 then (if m then (4, false) else (3, true)) else if i = 13 then (4, m)
  else if i = 6 ∨ i = 8 ∨ i = 17 ∨ i = 18 ∨ i = 23 ∨ i = 28 ∨ i = 29 ∨ i = 30 ∨ i = 35 ∨ i = 36 ∨ i = 38 then (4, true)
  else if i = 24 ∨ i = 25 then (6, true) else (4, false)
/-- Where a command goes, and whether it is had. -/
def nx (s i : Int) (m : Bool) : Int × Bool :=
  if (s = 0 ∨ s = 1 ∨ s = 2 ∨ s = 3 ∨ s = 4 ∨ s = 6) ∧ i = 0 then (0, true)
  else if s = 0 then (if i = 1 then (1, true) else (0, false))
  else if s = 1 then (if i = 2 then (2, true) else (1, false))
  else if s = 2 then (if i = 3 then (3, true) else (2, false))
  else if s = 3 then standN i m
  else if s = 4 then tranN i m
  else if s = 6 then (if i = 12 then (4, true) else (6, decide (i = 13) && m))
  else (s, false)
def tellN (s i : Int) (m : Bool) : Int × Bool := match lk L4 (s, i, m) with
  | some x => (x, true)
  | none => (s, false)

theorem lk_mem (l : List (K3 × Int)) (k : K3) (x : Int) (h : lk l k = some x) : (k, x) ∈ l := by
  induction l with
  | nil => cases h
  | cons p l ih =>
    unfold lk at h
    split at h
    · rename_i e
      injection h with h
      subst e h
      simp
    · exact List.mem_cons_of_mem _ (ih h)
theorem bounds : ∀ p ∈ L4, 0 ≤ p.1.1 ∧ p.1.1 ≤ 6 ∧ 0 ≤ p.1.2.1 ∧ p.1.2.1 ≤ 40 ∧ 0 ≤ p.2 ∧ p.2 ≤ 6 := by decide +kernel
theorem inside : ∀ s : Fin 7, ∀ i : Fin 41, ∀ m : Bool, tellN (s.val : Int) (i.val : Int) m = nx (s.val : Int) (i.val : Int) m := by decide +kernel
theorem tell_nx (s i : Int) (m : Bool) : tellN s i m = nx s i m := by
  by_cases h : 0 ≤ s ∧ s ≤ 6 ∧ 0 ≤ i ∧ i ≤ 40
  · have := inside ⟨s.toNat, by omega⟩ ⟨i.toNat, by omega⟩ m
    simp only at this
    rw [Int.toNat_of_nonneg h.1, Int.toNat_of_nonneg h.2.2.1] at this
    exact this
  · have hn : lk L4 (s, i, m) = none := by
      cases hl : lk L4 (s, i, m) with
      | none => rfl
      | some x =>
        have := bounds _ (lk_mem _ _ _ hl)
        simp only at this
        omega
    have e : tellN s i m = (s, false) := by unfold tellN; rw [hn]
    rw [e]
    by_cases hs : 0 ≤ s ∧ s ≤ 6
    · have hi : i < 0 ∨ 40 < i := by omega
      have e0 : ¬ i = 0 := by omega
      have e1 : ¬ i = 1 := by omega
      have e2 : ¬ i = 2 := by omega
      have e3 : ¬ i = 3 := by omega
      have e6 : ¬ i = 6 := by omega
      have e7 : ¬ i = 7 := by omega
      have e8 : ¬ i = 8 := by omega
      have e9 : ¬ i = 9 := by omega
      have e12 : ¬ i = 12 := by omega
      have e13 : ¬ i = 13 := by omega
      have e17 : ¬ i = 17 := by omega
      have e18 : ¬ i = 18 := by omega
      have e23 : ¬ i = 23 := by omega
      have e24 : ¬ i = 24 := by omega
      have e25 : ¬ i = 25 := by omega
      have e28 : ¬ i = 28 := by omega
      have e29 : ¬ i = 29 := by omega
      have e30 : ¬ i = 30 := by omega
      have e35 : ¬ i = 35 := by omega
      have e36 : ¬ i = 36 := by omega
      have e38 : ¬ i = 38 := by omega
      obtain rfl | rfl | rfl | rfl | rfl | rfl | rfl : s = 0 ∨ s = 1 ∨ s = 2 ∨ s = 3 ∨ s = 4 ∨ s = 5 ∨ s = 6 := by omega
      all_goals simp [nx, standN, tranN, e0, e1, e2, e3, e6, e7, e8, e9, e12, e13, e17, e18, e23, e24, e25, e28, e29, e30, e35, e36, e38]
    · have d0 : ¬ s = 0 := by omega
      have d1 : ¬ s = 1 := by omega
      have d2 : ¬ s = 2 := by omega
      have d3 : ¬ s = 3 := by omega
      have d4 : ¬ s = 4 := by omega
      have d6 : ¬ s = 6 := by omega
      simp [nx, d0, d1, d2, d3, d4, d6]
theorem nx_range (s i : Int) (m : Bool) (hs : 0 ≤ s ∧ s ≤ 6) : 0 ≤ (nx s i m).1 ∧ (nx s i m).1 ≤ 6 := by
  rw [← tell_nx]
  unfold tellN
  split
  · rename_i x hx
    have := bounds _ (lk_mem _ _ _ hx)
    simp only at this ⊢
    omega
  · exact hs
end Go.Proofs.Ytddmodiogjnhmaa.PhM
