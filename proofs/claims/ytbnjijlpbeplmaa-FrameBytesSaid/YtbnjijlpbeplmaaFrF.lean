/- Where a frame could begin. -/
import Derived.Test.YtbnjijlpbeplmaaFrD
namespace Go.Proofs.Ytbnjijlpbeplmaa.FrF
open Go.ChangeShapes Go.WideShapes Go.ChangeAt Go.RowKit
open CrcM CrcB CrcL CrcQ FrA FrB FrT FrD
set_option linter.unusedVariables false
set_option maxHeartbeats 1000000

/-- A byte that could begin a host's frame. -/
def Beg (x : B8) : Bool := x >>> 6 == 1#8
def fnd : List B8 → Nat
  | [] => 0
  | x :: l => if Beg x then 0 else fnd l + 1
theorem fnd_at (l : List B8) (k : Nat) (hk : k < l.length) (h : ∀ i, i < k → Beg (l.getD i 0) = false) (hb : Beg (l.getD k 0) = true) : fnd l = k := by
  induction l generalizing k with
  | nil => simp at hk
  | cons x l ih =>
    unfold fnd
    cases k with
    | zero => rw [if_pos (by simpa using hb)]
    | succ k =>
      have := h 0 (by omega)
      rw [if_neg (by simpa using this), ih k (by simpa using hk) (fun i hi => by simpa using h (i + 1) (by omega)) (by simpa using hb)]
theorem fnd_none (l : List B8) (h : ∀ i, i < l.length → Beg (l.getD i 0) = false) : fnd l = l.length := by
  induction l with
  | nil => rfl
  | cons x l ih =>
    unfold fnd
    have := h 0 (by simp)
    rw [if_neg (by simpa using this), ih fun i hi => by simpa using h (i + 1) (by simp; omega)]
    rfl
theorem fnd_app (a r : List B8) (y : B8) (ha : ∀ x ∈ a, Beg x = false) (hy : Beg y = true) : fnd (a ++ y :: r) = a.length := by
  induction a with
  | nil => simp [fnd, hy]
  | cons x a ih =>
    rw [List.cons_append]; unfold fnd
    rw [if_neg (by simpa using ha x (by simp)), ih fun x hx => ha x (by simp [hx])]
    rfl
theorem fnd_all (a : List B8) (ha : ∀ x ∈ a, Beg x = false) : fnd a = a.length := fnd_none a fun i hi => ha _ (by simp [List.getD, hi])

/-- The bytes that begin no frame. -/
def rest (l : List B8) : List B8 := l.filter fun x => !Beg x
theorem rest_no (l : List B8) : ∀ x ∈ rest l, Beg x = false := fun x hx => by simpa [rest] using (List.mem_filter.1 hx).2
theorem rest_len (l : List B8) : (rest l).length ≤ l.length := List.length_filter_le _ _
theorem rest_snoc (l : List B8) (k : Nat) (h : k < l.length) : rest (l.take (k + 1)) = rest (l.take k) ++ (if Beg (l.getD k 0) then [] else [l.getD k 0]) := by
  unfold rest
  rw [take_snoc l k h, List.filter_append]
  congr 1
  by_cases hb : Beg (l.getD k 0) = true
  · simp only [hb, List.filter_cons, List.filter_nil]; simp
  · simp only [Bool.not_eq_true] at hb; simp only [hb, List.filter_cons, List.filter_nil]; simp

theorem begs (x : B8) : ((x.toNat : Int) / 64 == 1) = Beg x := by
  unfold Beg
  rw [sr8 x 6 64 rfl]
  rw [Bool.eq_iff_iff, beq_iff_eq, beq_iff_eq]
  constructor
  · intro e
    exact BitVec.eq_of_toNat_eq (by
      have : ((1#8).toNat) = 1 := rfl
      omega)
  · intro e; rw [e]; rfl

theorem find (a : Option Addr) (l : List B8) (n c : Nat) (w : World) (hn : l.length = n) (hr : Rd w a l) :
    Calls Try.prog 37 #[.slice a n c] w fun e w' => e = .returned (.int .i64 (fnd l)) ∧ w = w' := by
  subst hn
  have hm := hr.1
  unfold maxLen at hm
  rcases hr.cells with rfl | ⟨b, off, rfl, hc⟩
  · go_enter Try.func37, Try.ntmps37
    go_wp2
    go_loop [3, 4, 7] (fun s t i => i = .int .i64 0) (fun _ _ i => 0)
    case atStart => exact rfl
    case round =>
      obtain rfl := hrel
      go_wp2
      go_ret
      exact ⟨ret_int rfl, rfl⟩
  · have HC := Lib.hid hc
    clear hc hr
    go_enter Try.func37, Try.ntmps37
    go_wp2
    go_loop [3, 4, 7] (fun s t i => ∃ k : Nat, k ≤ l.length ∧ i = .int .i64 k ∧ ∀ j, j < k → Beg (l.getD j 0) = false) (fun _ _ i => l.length - (intOf i).toNat)
    case atStart => exact ⟨0, by omega, rfl, fun j hj => absurd hj (by omega)⟩
    case round =>
      obtain ⟨k, hk, rfl, hall⟩ := hrel
      have HA := Lib.hid hall
      clear hall
      by_cases hlt : k < l.length
      · have hcell := HC.out k hlt
        obtain ⟨y, hy⟩ : ∃ y, y = l.getD k 0 := ⟨_, rfl⟩
        rw [← hy] at hcell
        have hb := begs y
        have hlt8 := y.isLt
        have HY := Lib.hid hy
        clear hy
        cases hB : Beg y with
        | true =>
          rw [hB] at hb
          go_wp2
          go_ret
          exact ⟨ret_int (by rw [fnd_at l k hlt HA.out (by rw [← HY.out]; exact hB)]), rfl⟩
        | false =>
          rw [hB] at hb
          go_wp2
          go_round
          case rel => exact ⟨k + 1, by omega, by go_num, fun j hj => by
            by_cases h : j < k
            · exact HA.out j h
            · obtain rfl : j = k := by omega
              rw [← HY.out]; exact hB⟩
          case measure => simp [intOf]; omega
      · go_wp2
        go_ret
        exact ⟨ret_int (by rw [fnd_none l fun i hi => HA.out i (by omega)]), rfl⟩
end Go.Proofs.Ytbnjijlpbeplmaa.FrF
