/- Rows of words, mended: the mathematics. -/
import Derived.Test.YtjnpfnpeekpleaaDoorEcZ
namespace Go.Proofs.YtjnpfnpeekpleaaDoor.EcWM
open Go.ChangeShapes Go.WideShapes Go.ChangeAt Go.RowKit
open EcM EcA EcT EcX EcZ
set_option linter.unusedVariables false
set_option maxHeartbeats 1000000

/-- What the i-th word is mended to. -/
def trip (l ck : List B8) (i : Nat) : Nat × Nat × Nat := mend (wd l (8 * i)) (ck.getD i 0).toNat
/-- The t-th byte of the words that are mended. -/
def Bt (l ck : List B8) (t : Nat) : B8 := BitVec.ofNat 8 ((trip l ck (t / 8)).1 / 2 ^ (8 * (t % 8)))
def outTo (l ck : List B8) (k : Nat) : List B8 := (List.range (8 * k)).map (Bt l ck)
def cntTo (l ck : List B8) : Nat → Nat
  | 0 => 0
  | k + 1 => cntTo l ck k + if (trip l ck k).2.2 = 1 then 1 else 0
theorem cntTo_le (l ck : List B8) : ∀ k, cntTo l ck k ≤ k
  | 0 => Nat.le_refl _
  | k + 1 => by have := cntTo_le l ck k; unfold cntTo; split <;> omega
theorem outTo_len (l ck : List B8) (k : Nat) : (outTo l ck k).length = 8 * k := by simp [outTo]
theorem outTo_zero (l ck : List B8) : outTo l ck 0 = [] := rfl
theorem outTo_get (l ck : List B8) (k t : Nat) (h : t < 8 * k) : (outTo l ck k).getD t 0 = Bt l ck t := by simp [outTo, h]
theorem outTo_succ (l ck : List B8) (k : Nat) : outTo l ck (k + 1) = outTo l ck k ++ apartL (trip l ck k).1 := by
  refine List.ext_getElem (by simp [outTo, apartL]; omega) fun i h1 h2 => ?_
  have hi : i < 8 * (k + 1) := by simpa [outTo] using h1
  by_cases h : i < 8 * k
  · rw [List.getElem_append_left (by simpa [outTo] using h)]
    simp [outTo]
  · rw [List.getElem_append_right (by simp [outTo]; omega)]
    simp only [outTo, List.getElem_map, List.getElem_range, apartL, List.length_map, List.length_range]
    unfold Bt
    rw [show i / 8 = k by omega, show i % 8 = i - 8 * k by omega]
theorem apart_bt (l ck : List B8) (k j : Nat) (h : j < 8) : BitVec.ofNat 8 ((trip l ck k).1 / 2 ^ (8 * j)) = Bt l ck (8 * k + j) := by
  unfold Bt
  rw [show (8 * k + j) / 8 = k by omega, show (8 * k + j) % 8 = j by omega]
/-- Whether a row can be mended. -/
def Good (l ck : List B8) : Prop := ck.length = cnt l.length ∧ (∀ i, i < cnt l.length → (trip l ck i).2.2 ≠ 2) ∧ ∀ t, l.length ≤ t → t < 8 * cnt l.length → Bt l ck t = 0
theorem kinds (w c : Nat) : (mend w c).2.2 = 0 ∨ (mend w c).2.2 = 1 ∨ (mend w c).2.2 = 2 := by
  unfold mend
  simp only
  split
  · exact .inl rfl
  · split
    · exact .inr (.inl rfl)
    · split
      · exact .inr (.inl rfl)
      · exact .inr (.inr rfl)
/-- The last word, with what stands behind the row's end, or without. -/
theorem tail_iff (l ck : List B8) (n m : Nat) (hn : n ≤ 8 * m) (hm : 8 * (m - 1) < n) (h0 : 0 < m) :
    by8 ((outTo l ck m).take n) (8 * m - 8) = by8 (outTo l ck m) (8 * m - 8) ↔ ∀ t, n ≤ t → t < 8 * m → Bt l ck t = 0 := by
  constructor
  · intro h t h1 h2
    have this : (by8 ((outTo l ck m).take n) (8 * m - 8)).getD (t - (8 * m - 8)) 0 = (by8 (outTo l ck m) (8 * m - 8)).getD (t - (8 * m - 8)) 0 := by rw [h]
    rw [by8_get _ _ _ (by omega), by8_get _ _ _ (by omega), show 8 * m - 8 + (t - (8 * m - 8)) = t by omega, outTo_get _ _ _ _ h2] at this
    rw [← this, List.getD_eq_getElem?_getD, List.getElem?_eq_none (by rw [List.length_take, outTo_len]; omega)]
    rfl
  · intro h
    unfold by8
    refine List.map_congr_left fun k hk => ?_
    have hk8 : k < 8 := by simpa using hk
    rw [outTo_get _ _ _ _ (by omega)]
    by_cases hlt : 8 * m - 8 + k < n
    · rw [List.getD_eq_getElem?_getD, List.getElem?_take, if_pos hlt, ← List.getD_eq_getElem?_getD, outTo_get _ _ _ _ (by omega)]
    · rw [h _ (by omega) (by omega), List.getD_eq_getElem?_getD, List.getElem?_eq_none (by rw [List.length_take, outTo_len]; omega)]
      rfl
/-- The row as far as it has been laid. -/
def mixL (l ck : List B8) (n j : Nat) : List B8 := (List.range n).map fun t => if t < j then Bt l ck t else 0
theorem mixL_len (l ck : List B8) (n j : Nat) : (mixL l ck n j).length = n := by simp [mixL]
theorem mixL_zero (l ck : List B8) (n : Nat) : mixL l ck n 0 = List.replicate n 0 := by
  refine List.ext_getElem (by simp [mixL]) fun i h1 h2 => ?_
  simp [mixL]
theorem mixL_step (l ck : List B8) (n j : Nat) (h : j < n) : mixL l ck n (j + 1) = (mixL l ck n j).set j (Bt l ck j) := by
  refine List.ext_getElem (by simp [mixL]) fun i h1 h2 => ?_
  rw [List.getElem_set]
  simp only [mixL, List.getElem_map, List.getElem_range]
  by_cases e : j = i
  · subst e; simp
  · rw [if_neg e]
    by_cases h3 : i < j
    · rw [if_pos (by omega), if_pos h3]
    · rw [if_neg (by omega), if_neg h3]
theorem mixL_stay (l ck : List B8) (n j : Nat) (h : n ≤ j) : mixL l ck n (j + 1) = mixL l ck n j := by
  refine List.map_congr_left fun t ht => ?_
  have : t < n := by simpa using ht
  rw [if_pos (by omega), if_pos (by omega)]
theorem mixL_all (l ck : List B8) (n m : Nat) (h : n ≤ 8 * m) : mixL l ck n (8 * m) = (outTo l ck m).take n := by
  refine List.ext_getElem (by simp [mixL, outTo]; omega) fun i h1 h2 => ?_
  have hi : i < n := by simpa [mixL] using h1
  simp [mixL, outTo]
  omega
theorem trip_lt (l ck : List B8) (i : Nat) : (trip l ck i).1 < 18446744073709551616 := by
  unfold trip mend
  simp only
  have h1 := wd_lt l (8 * i)
  split
  · exact h1
  · split
    · exact h1
    · split
      · rename_i k hk
        have hk64 : k < 64 := by
          unfold find at hk
          simpa using (List.find?_range_eq_some.1 hk).2.1
        exact Nat.xor_lt_two_pow (n := 64) h1 (Nat.pow_lt_pow_right (a := 2) (by omega) (by omega))
      · exact h1
end Go.Proofs.YtjnpfnpeekpleaaDoor.EcWM
