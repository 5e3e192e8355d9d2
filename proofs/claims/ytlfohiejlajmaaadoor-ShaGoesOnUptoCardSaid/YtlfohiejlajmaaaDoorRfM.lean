/- Long numbers, roots, primes: as mathematics. -/
import Derived.Test.YtlfohiejlajmaaaDoorShM
namespace Go.Proofs.YtlfohiejlajmaaaDoor.RfM
open ShM

/-- A long number of 32 bits a part, the lowest first. -/
def val : List Nat → Nat
  | [] => 0
  | x :: xs => x + 4294967296 * val xs
def pw : Nat → Nat
  | 0 => 1
  | i + 1 => 4294967296 * pw i
theorem pw_pos : ∀ i, 0 < pw i
  | 0 => by decide
  | i + 1 => by
    have := pw_pos i
    show 0 < 4294967296 * pw i
    omega
def Ok (xs : List Nat) : Prop := ∀ i, xs.getD i 0 < 4294967296
theorem Ok.cons {x : Nat} {xs : List Nat} (h : Ok (x :: xs)) : x < 4294967296 ∧ Ok xs := ⟨h 0, fun i => h (i + 1)⟩
theorem Ok.set {xs : List Nat} (h : Ok xs) (i y : Nat) (hy : y < 4294967296) : Ok (xs.set i y) := fun j => by
  rw [List.getD_eq_getElem?_getD, List.getElem?_set]
  by_cases e : i = j
  · rw [if_pos e]
    split
    · exact hy
    · show (0 : Nat) < _; omega
  · rw [if_neg e, ← List.getD_eq_getElem?_getD]; exact h j
theorem val_set : ∀ (xs : List Nat) (i y : Nat), i < xs.length → val (xs.set i y) + xs.getD i 0 * pw i = val xs + y * pw i
  | [], i, y, h => absurd h (by simp)
  | x :: xs, 0, y, _ => by
    show (y + 4294967296 * val xs) + x * 1 = (x + 4294967296 * val xs) + y * 1
    omega
  | x :: xs, i + 1, y, h => by
    have ih := val_set xs i y (by simpa using h)
    show (x + 4294967296 * val (xs.set i y)) + xs.getD i 0 * (4294967296 * pw i) = (x + 4294967296 * val xs) + y * (4294967296 * pw i)
    rw [Nat.mul_left_comm (xs.getD i 0), Nat.mul_left_comm y]
    omega
theorem val_lt : ∀ (xs : List Nat), Ok xs → val xs < pw xs.length
  | [], _ => by decide
  | x :: xs, h => by
    have ih := val_lt xs h.cons.2
    have hx := h.cons.1
    show x + 4294967296 * val xs < 4294967296 * pw xs.length
    omega
theorem val_append : ∀ (a b : List Nat), val (a ++ b) = val a + pw a.length * val b
  | [], b => by show val b = 0 + 1 * val b; omega
  | x :: a, b => by
    have ih := val_append a b
    show x + 4294967296 * val (a ++ b) = (x + 4294967296 * val a) + (4294967296 * pw a.length) * val b
    rw [ih, Nat.mul_assoc]
    omega
theorem val_zeros : ∀ n, val (List.replicate n 0) = 0
  | 0 => rfl
  | n + 1 => by
    show 0 + 4294967296 * val (List.replicate n 0) = 0
    rw [val_zeros n]
theorem val_take (xs : List Nat) (i : Nat) (h : i < xs.length) : val (xs.take (i + 1)) = val (xs.take i) + xs.getD i 0 * pw i := by
  rw [List.take_add_one, val_append, List.length_take, Nat.min_eq_left (by omega), List.getD_eq_getElem?_getD, List.getElem?_eq_getElem h]
  show _ + pw i * (xs[i] + 4294967296 * 0) = _ + xs[i] * pw i
  rw [Nat.mul_zero, Nat.add_zero, Nat.mul_comm]
theorem Ok.take {xs : List Nat} (h : Ok xs) (i : Nat) : Ok (xs.take i) := fun j => by
  rw [List.getD_eq_getElem?_getD, List.getElem?_take]
  split
  · rw [← List.getD_eq_getElem?_getD]; exact h j
  · show (0 : Nat) < _; omega
theorem Ok.append {a b : List Nat} (ha : Ok a) (hb : Ok b) : Ok (a ++ b) := fun j => by
  rw [List.getD_eq_getElem?_getD, List.getElem?_append]
  split
  · rw [← List.getD_eq_getElem?_getD]; exact ha j
  · rw [← List.getD_eq_getElem?_getD]; exact hb _
theorem Ok.zeros (n : Nat) : Ok (List.replicate n 0) := fun j => by
  rw [List.getD_eq_getElem?_getD, List.getElem?_replicate]
  split <;> (show (0 : Nat) < _; omega)
theorem Ok.one {x : Nat} (h : x < 4294967296) : Ok [x] := fun j => by
  match j with
  | 0 => exact h
  | j + 1 => show (0 : Nat) < _; omega
/-- One part less, behind equal ones: a lesser number. -/
theorem val_less : ∀ (a b : List Nat) (i : Nat), a.length = b.length → Ok a → Ok b → a.drop (i + 1) = b.drop (i + 1) → a.getD i 0 < b.getD i 0 → val a < val b
  | [], b, i, hl, ha, hb, hd, hlt => by
    have : b = [] := List.eq_nil_of_length_eq_zero (by simpa using hl.symm)
    subst this
    exact absurd hlt (by simp)
  | x :: a, [], i, hl, _, _, _, _ => absurd hl (by simp)
  | x :: a, y :: b, 0, hl, ha, hb, hd, hlt => by
    have e : a = b := hd
    subst e
    have h2 : x < y := hlt
    show x + 4294967296 * val a < y + 4294967296 * val a
    omega
  | x :: a, y :: b, i + 1, hl, ha, hb, hd, hlt => by
    have ih := val_less a b i (by simpa using hl) ha.cons.2 hb.cons.2 hd hlt
    have h1 := ha.cons.1
    show x + 4294967296 * val a < y + 4294967296 * val b
    omega
/-- The greatest number of 37 bits whose power is not beyond, by bits. -/
def rt (v k : Nat) : Nat → Nat
  | 0 => 0
  | j + 1 => if (rt v k j + 2 ^ (36 - j)) ^ k ≤ v * pw k then rt v k j + 2 ^ (36 - j) else rt v k j
theorem rt_form (v k : Nat) : ∀ j, j ≤ 37 → ∃ q, rt v k j = 2 ^ (37 - j) * q ∧ rt v k j + 2 ^ (37 - j) ≤ 2 ^ 37
  | 0, _ => ⟨0, by simp [rt], by simp [rt]⟩
  | j + 1, h => by
    obtain ⟨q, h1, h2⟩ := rt_form v k j (by omega)
    have e : 2 ^ (37 - j) = 2 * 2 ^ (36 - j) := by rw [show 37 - j = (36 - j) + 1 by omega, Nat.pow_succ, Nat.mul_comm]
    have e2 : 37 - (j + 1) = 36 - j := by omega
    rw [e2]
    rw [e] at h1 h2
    unfold rt
    split
    · refine ⟨2 * q + 1, ?_, by omega⟩
      rw [h1, Nat.mul_add, Nat.mul_one, Nat.mul_assoc, Nat.mul_left_comm]
    · refine ⟨2 * q, ?_, by omega⟩
      rw [h1, Nat.mul_assoc, Nat.mul_left_comm]
theorem rt_or (v k j : Nat) (h : j ≤ 36) : rt v k j ||| 2 ^ (36 - j) = rt v k j + 2 ^ (36 - j) := by
  obtain ⟨q, h1, _⟩ := rt_form v k j (by omega)
  rw [h1]
  refine (Nat.two_pow_add_eq_or_of_lt (Nat.pow_lt_pow_right (by omega) (by omega)) q).symm
theorem rt_lt (v k j : Nat) (h : j ≤ 36) : rt v k j + 2 ^ (36 - j) < 2 ^ 37 := by
  obtain ⟨q, h1, h2⟩ := rt_form v k j (by omega)
  have e : 2 ^ (37 - j) = 2 * 2 ^ (36 - j) := by rw [show 37 - j = (36 - j) + 1 by omega, Nat.pow_succ, Nat.mul_comm]
  have := Nat.two_pow_pos (36 - j)
  omega
/-- The primes below a number. -/
def step (l : List Nat) (v : Nat) : List Nat := if l.any (fun p => v % p == 0) then l else l ++ [v]
def pr : Nat → List Nat
  | 0 => []
  | j + 1 => step (pr j) (j + 2)
theorem pr_len : ∀ j, (pr j).length ≤ (pr (j + 1)).length := fun j => by
  show _ ≤ (step (pr j) (j + 2)).length
  unfold step
  split
  · exact Nat.le_refl _
  · simp
theorem pr_mono (j : Nat) : ∀ d, (pr j).length ≤ (pr (j + d)).length
  | 0 => Nat.le_refl _
  | d + 1 => Nat.le_trans (pr_mono j d) (pr_len (j + d))
theorem pr_310 : (pr 310).length = 64 := by decide +kernel
theorem pr_few (j : Nat) (h : (pr j).length < 64) : j < 310 := by
  rcases Nat.lt_or_ge j 310 with h1 | h1
  · exact h1
  · have := pr_mono 310 (j - 310)
    rw [Nat.add_sub_cancel' h1, pr_310] at this
    omega
theorem pr_pos : ∀ j p, p ∈ pr j → 2 ≤ p ∧ p < j + 2
  | 0, p, h => absurd h (by simp [pr])
  | j + 1, p, h => by
    unfold pr step at h
    split at h
    · have := pr_pos j p h; omega
    · rcases List.mem_append.1 h with h | h
      · have := pr_pos j p h; omega
      · simp at h; omega
theorem pr_le : ∀ j, (pr j).length ≤ j
  | 0 => Nat.le_refl _
  | j + 1 => by
    have := pr_le j
    unfold pr step
    split
    · omega
    · simp; omega
/-- What the roots of the first primes are. -/
theorem roots3 : ∀ i : Fin 64, rt ((pr 310).getD i.val 0) 3 37 % 4294967296 = (kk i.val).toNat := by decide +kernel
theorem roots2 : (List.range 8).map (fun i => rt ((pr 310).getD i 0) 2 37 % 4294967296) = [start.a.toNat, start.b.toNat, start.c.toNat, start.d.toNat, start.e.toNat, start.f.toNat, start.g.toNat, start.h.toNat] := by decide +kernel
end Go.Proofs.YtlfohiejlajmaaaDoor.RfM
