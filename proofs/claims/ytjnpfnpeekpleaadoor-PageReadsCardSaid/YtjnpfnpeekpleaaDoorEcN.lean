/- Mathematics of the words' checks: the document's own columns and checks. -/
import Derived.Test.YtjnpfnpeekpleaaDoorEcM
namespace Go.Proofs.YtjnpfnpeekpleaaDoor.EcN
open Go
open EcM
set_option linter.unusedVariables false
set_option maxHeartbeats 1000000

/-- The numbers below k that have so many bits. -/
def pick (m k : Nat) : List Nat := (List.range k).filter fun c => pc c == m
theorem pick_zero (m : Nat) : pick m 0 = [] := rfl
theorem pick_yes (m k : Nat) (h : pc k = m) : pick m (k + 1) = pick m k ++ [k] := by
  unfold pick
  rw [List.range_succ, List.filter_append]
  simp [h]
theorem pick_no (m k : Nat) (h : pc k ≠ m) : pick m (k + 1) = pick m k := by
  unfold pick
  rw [List.range_succ, List.filter_append]
  simp [h]
theorem pick_len (m k : Nat) : (pick m k).length ≤ k := by
  unfold pick
  have := List.length_filter_le (fun c => pc c == m) (List.range k)
  simpa using this
/-- What has been collected: the bytes of three bits, then those of five. -/
def coll (j k : Nat) : List Nat := if j = 0 then pick 3 k else pick 3 256 ++ pick 5 k
theorem p3len : (pick 3 256).length = 56 := by decide +kernel
theorem pick_mono (m a b : Nat) (h : a ≤ b) : (pick m a).length ≤ (pick m b).length := by
  obtain ⟨d, rfl⟩ : ∃ d, b = a + d := ⟨b - a, by omega⟩
  clear h
  induction d with
  | zero => exact Nat.le_refl _
  | succ d ih =>
    rw [show a + (d + 1) = (a + d) + 1 by omega]
    by_cases h : pc (a + d) = m
    · rw [pick_yes _ _ h, List.length_append]; omega
    · rw [pick_no _ _ h]; exact ih
theorem p5len (k : Nat) (h : k < 88) : (pick 5 k).length < 8 := by
  have h1 := pick_mono 5 k 87 (by omega)
  have h2 : (pick 5 87).length = 7 := by decide +kernel
  omega
theorem p5all : pick 3 256 ++ pick 5 88 = cols := by decide +kernel
theorem coll_len0 (k : Nat) (h : k ≤ 256) : (coll 0 k).length ≤ 56 := by
  have h1 := pick_mono 3 k 256 h
  rw [p3len] at h1
  simpa [coll] using h1
theorem coll_len1 (k : Nat) (h : k < 88) : (coll 1 k).length < 64 := by
  have := p5len k h
  simp only [coll, Nat.one_ne_zero, if_false, List.length_append, p3len]
  omega
theorem coll_end : coll 1 88 = cols := by simpa [coll] using p5all
theorem coll_next : coll 0 256 = coll 1 0 := by simp [coll, pick_zero]
theorem coll_yes (j k : Nat) (h : pc k = 3 + 2 * j) (hj : j < 2) : coll j (k + 1) = coll j k ++ [k] := by
  unfold coll
  obtain rfl | rfl : j = 0 ∨ j = 1 := by omega
  · simp [pick_yes 3 k (by omega)]
  · simp [pick_yes 5 k (by omega)]
theorem coll_no (j k : Nat) (h : pc k ≠ 3 + 2 * j) (hj : j < 2) : coll j (k + 1) = coll j k := by
  unfold coll
  obtain rfl | rfl : j = 0 ∨ j = 1 := by omega
  · simp [pick_no 3 k (by omega)]
  · simp [pick_no 5 k (by omega)]
/-- Where a byte of three, or of five, bits stands among the columns. -/
theorem place3 : ∀ c : Fin 256, pc c.val = 3 → col (pick 3 c.val).length = c.val := by decide +kernel
theorem place5 : ∀ c : Fin 256, pc c.val = 5 → (pick 5 c.val).length < 8 → col (56 + (pick 5 c.val).length) = c.val := by decide +kernel
theorem p5at : (pick 5 256).length = 56 := by decide +kernel

/-- The check, bit by bit. -/
def fold (w : Nat) : Nat → Nat
  | 0 => 0
  | i + 1 => if w / 2 ^ i % 2 = 1 then fold w i ^^^ col i else fold w i
theorem mod_yes (w k : Nat) (h : w / 2 ^ k % 2 = 1) : w % 2 ^ (k + 1) = (w % 2 ^ k) ^^^ 2 ^ k := by
  apply Nat.eq_of_testBit_eq
  intro i
  have hb : w.testBit k = true := by
    rw [Nat.testBit_eq_decide_div_mod_eq]; simp [h]
  rw [Nat.testBit_xor, Nat.testBit_mod_two_pow, Nat.testBit_mod_two_pow, Nat.testBit_two_pow]
  rcases Nat.lt_trichotomy i k with h1 | h1 | h1
  · simp [h1, show i < k + 1 by omega, show ¬ k = i by omega]
  · subst h1; simp [hb]
  · simp [show ¬ i < k + 1 by omega, show ¬ i < k by omega, show ¬ k = i by omega]
theorem mod_no (w k : Nat) (h : ¬ w / 2 ^ k % 2 = 1) : w % 2 ^ (k + 1) = w % 2 ^ k := by
  apply Nat.eq_of_testBit_eq
  intro i
  have hb : w.testBit k = false := by
    rw [Nat.testBit_eq_decide_div_mod_eq]; simp [h]
  rw [Nat.testBit_mod_two_pow, Nat.testBit_mod_two_pow]
  rcases Nat.lt_trichotomy i k with h1 | h1 | h1
  · simp [h1, show i < k + 1 by omega]
  · subst h1; simp [hb]
  · simp [show ¬ i < k + 1 by omega, show ¬ i < k by omega]
theorem chk_zero : chk 0 = 0 := by decide +kernel
theorem fold_mod (w : Nat) : ∀ k, k ≤ 64 → fold w k = chk (w % 2 ^ k)
  | 0, _ => by simp [fold, Nat.mod_one, chk_zero]
  | k + 1, hk => by
    unfold fold
    rw [fold_mod w k (by omega)]
    by_cases h : w / 2 ^ k % 2 = 1
    · rw [if_pos h, mod_yes w k h, chk_xor, show chk (2 ^ k) = col k from col_bit ⟨k, by omega⟩]
    · rw [if_neg h, mod_no w k h]
theorem fold_chk (w : Nat) (h : w < 18446744073709551616) : fold w 64 = chk w := by
  rw [fold_mod w 64 (Nat.le_refl _), Nat.mod_eq_of_lt h]
theorem col_lt (i : Nat) : col i < 256 := by
  by_cases h : i < 64
  · have : ∀ i : Fin 64, col i.val < 256 := by decide +kernel
    exact this ⟨i, h⟩
  · unfold col
    have hl : cols.length = 64 := by decide
    rw [List.getD_eq_getElem?_getD, List.getElem?_eq_none (by omega)]
    simp
theorem fold_lt (w : Nat) : ∀ k, fold w k < 256
  | 0 => by simp [fold]
  | k + 1 => by
    unfold fold
    split
    · exact Nat.xor_lt_two_pow (n := 8) (fold_lt w k) (col_lt k)
    · exact fold_lt w k
/-- A column has not one bit alone. -/
theorem find_bits (s i : Nat) (h : find s = some i) : pc s ≠ 1 := by
  unfold find at h
  obtain ⟨h1, h2⟩ := List.find?_range_eq_some.1 h |>.imp_right And.left
  have h3 : col i = s := by simpa using h1
  have h4 : i < 64 := by simpa using h2
  obtain ⟨_, b, _⟩ := syn_col ⟨i, h4⟩
  simp only [syn, if_pos h4] at b
  rw [← h3]; exact b
end Go.Proofs.YtjnpfnpeekpleaaDoor.EcN
