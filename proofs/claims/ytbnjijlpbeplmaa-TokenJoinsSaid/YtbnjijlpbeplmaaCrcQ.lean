/- Bursts behind a row with its sum: what is seen of them. No program. -/
import Derived.Test.YtbnjijlpbeplmaaCrcL
namespace Go.Proofs.Ytbnjijlpbeplmaa.CrcQ
open CrcM CrcB CrcL
set_option linter.unusedVariables false
set_option linter.unusedSimpArgs false

theorem feed_iff {w : Nat} (p : BitVec w) (hp : p.getLsbD 0 = true) (hw : 0 < w) (bs : List Bool) (hb : bs.length ≤ w) (r : BitVec w) : feed p r bs = 0 ↔ ∀ i, r.getMsbD i = bs.getD i false :=
  ⟨feed_back p hp hw bs hb r, feed_forth p bs r⟩

theorem same_of_bits (a b : List B8) (hl : a.length = b.length) (h : ∀ i, i < 8 * a.length → bitAt a i = bitAt b i) : a = b := by
  apply List.ext_getElem hl
  intro k h1 h2
  apply BitVec.eq_of_getMsbD_eq
  intro i hi
  have := h (8 * k + i) (by omega)
  unfold bitAt at this
  rw [show (8 * k + i) / 8 = k by omega, show (8 * k + i) % 8 = i by omega] at this
  simpa [h1, h2] using this

theorem bits_take (y : List B8) (n : Nat) (h : n ≤ y.length) : bits (y.take n) (8 * n) = bits y (8 * n) := by
  apply List.map_congr_left
  intro i hi
  have := List.mem_range.1 hi
  unfold bitAt
  rw [List.getD_eq_getElem?_getD, List.getD_eq_getElem?_getD, List.getElem?_take, if_pos (by omega)]

theorem bits_more (y : List B8) (n m : Nat) (hm : m ≤ 8) : bits y (8 * n + m) = bits y (8 * n) ++ (List.range m).map fun i => (y.getD n 0).getMsbD i := by
  unfold bits
  rw [List.range_add, List.map_append, List.map_map]
  congr 1
  apply List.map_congr_left
  intro i hi
  have := List.mem_range.1 hi
  show bitAt y (8 * n + i) = _
  unfold bitAt
  rw [show (8 * n + i) / 8 = n by omega, show (8 * n + i) % 8 = i by omega]

/-- The two bytes behind a row, as one number. -/
theorem syn16 (y : List B8) (n : Nat) (hl : y.length = n + 2) : feed p16 0 (bits y (8 * (n + 2))) = 0 ↔ sum16 (y.take n) = (y.getD n 0 ++ y.getD (n + 1) 0 : BitVec 16) := by
  have e : bits y (8 * (n + 2)) = bits (y.take n) (8 * (y.take n).length) ++ (bits8 (y.getD n 0) ++ bits8 (y.getD (n + 1) 0)) := by
    rw [show (y.take n).length = n by simp; omega, bits_take y n (by omega), show 8 * (n + 2) = 8 * (n + 1) + 8 by omega, bits_more y (n + 1) 8 (by omega), show 8 * (n + 1) = 8 * n + 8 by omega, bits_more y n 8 (by omega), List.append_assoc]
    rfl
  rw [e, feed_append, ← sum16_bits, feed_iff p16 p16_low (by omega) _ (by simp [bits8])]
  constructor
  · intro h
    apply BitVec.eq_of_getMsbD_eq
    intro i hi
    rw [h i, BitVec.getMsbD_append]
    by_cases h8 : i < 8
    · simp [bits8, List.getElem?_append, h8, show ¬ 8 ≤ i by omega]
    · simp [bits8, List.getElem?_append, h8, show i - 8 < 8 by omega, show 8 ≤ i by omega]
  · intro h i
    rw [h, BitVec.getMsbD_append]
    by_cases h8 : i < 8
    · simp [bits8, List.getElem?_append, h8, show ¬ 8 ≤ i by omega]
    · by_cases h16 : i < 16
      · simp [bits8, List.getElem?_append, h8, show i - 8 < 8 by omega, show 8 ≤ i by omega]
      · have : (y.getD (n + 1) 0).getMsbD (i - 8) = false := by simp [BitVec.getMsbD, show ¬ i - 8 < 8 by omega]
        rw [if_pos (by omega), this]
        simp [bits8, List.getElem?_append, h8, show ¬ i - 8 < 8 by omega]

theorem burst16 (b : List B8) (n bit p k : Nat) (hb : b.length = n) (hk : k ≤ 16) (x y : List B8) (hx : x = b ++ [((sum16 b) >>> 8).setWidth 8, (sum16 b).setWidth 8]) (hbk : bit + k ≤ 8 * (n + 2)) (hy : y = turn x bit p k) :
    sum16 (y.take n) = (y.getD n 0 ++ y.getD (n + 1) 0 : BitVec 16) ↔ x = y := by
  have hlx : x.length = n + 2 := by subst hx; simp [hb]
  have hly : y.length = n + 2 := by subst hy; rw [turn_length, hlx]
  rw [← syn16 y n hly]
  have h0 : feed p16 0 (bits x (8 * (n + 2))) = 0 := by
    have := sum16_bits x
    rw [hlx] at this
    rw [← this, hx, sum16_end]
  constructor
  · intro h
    subst hy
    rw [bits_turn p16 x bit p k _ (by omega), h0, show ∀ z : BitVec 16, 0 ^^^ z = z from fun z => BitVec.zero_xor] at h
    have hz := burst p16 p16_low (by omega) (8 * (n + 2)) bit k hk (by omega) _ (fun i hi hn => by simp [hn]) h
    refine same_of_bits _ _ (by rw [hlx, hly]) fun i hi => ?_
    rw [bitAt_turn x bit p k (by omega)]
    rw [hz i (by omega)]; simp
  · rintro rfl; exact h0

theorem syn7 (y : List B8) (n : Nat) (hl : n < y.length) : feed p7 0 (bits y (8 * n + 7)) = 0 ↔ sum7 (y.take n) = y.getD n 0 >>> 1 := by
  have e : bits y (8 * n + 7) = bits (y.take n) (8 * (y.take n).length) ++ (List.range 7).map fun i => (y.getD n 0).getMsbD i := by
    rw [show (y.take n).length = n by simp; omega, bits_take y n (by omega), bits_more y n 7 (by omega)]
  rw [e, feed_append, feed_iff p7 p7_low (by omega) _ (by simp), sum7_bits]
  show (∀ i, (z7 (y.take n)).getMsbD i = _) ↔ _
  generalize z7 (y.take n) = z
  generalize y.getD n 0 = c
  constructor
  · intro h
    apply BitVec.eq_of_getMsbD_eq
    intro i hi
    rw [BitVec.getMsbD_setWidth, BitVec.getMsbD_ushiftRight]
    cases i with
    | zero => simp
    | succ i =>
      have := h i
      simp [show i < 7 by omega] at this
      simp [show ¬ (i + 1 < 1) by omega, this]; omega
  · intro h i
    by_cases h7 : i < 7
    · have := congrArg (fun v : B8 => v.getMsbD (i + 1)) h
      simp only [BitVec.getMsbD_setWidth, BitVec.getMsbD_ushiftRight] at this
      simp [h7, show i + 1 < 8 by omega] at this
      simp [h7, this]
    · simp [h7, show 7 ≤ i by omega]

theorem burst7 (b : List B8) (n bit p k : Nat) (hb : b.length = n) (hk : k ≤ 7) (x y : List B8) (hx : x = b ++ [sum7 b <<< 1]) (hbit : bit + k ≤ 8 * n + 7) (hy : y = turn x bit p k) :
    sum7 (y.take n) = y.getD n 0 >>> 1 ↔ (x.take n = y.take n ∧ x.getD n 0 >>> 1 = y.getD n 0 >>> 1) := by
  have hlx : x.length = n + 1 := by subst hx; simp [hb]
  have hly : y.length = n + 1 := by subst hy; rw [turn_length, hlx]
  have hx7 : sum7 (x.take n) = x.getD n 0 >>> 1 := by
    have h1 : x.take n = b := by subst hx; rw [← hb]; simp
    have h2 : x.getD n 0 = sum7 b <<< 1 := by subst hx; rw [← hb]; simp
    rw [h1, h2]
    have h3 := sum7_lt b
    apply BitVec.eq_of_toNat_eq
    simp [BitVec.toNat_ushiftRight, BitVec.toNat_shiftLeft, Nat.shiftRight_eq_div_pow, Nat.shiftLeft_eq]
    omega
  have h0 := (syn7 x n (by omega)).2 hx7
  constructor
  · intro h
    have h' := (syn7 y n (by omega)).2 h
    subst hy
    rw [bits_turn p7 x bit p k _ (by omega), h0, show ∀ z : BitVec 7, 0 ^^^ z = z from fun z => BitVec.zero_xor] at h'
    have hz := burst p7 p7_low (by omega) (8 * n + 7) bit k hk (by omega) _ (fun i hi hn => by simp [hn]) h'
    have hbits : ∀ i, i < 8 * n + 7 → bitAt x i = bitAt (turn x bit p k) i := fun i hi => by
      rw [bitAt_turn x bit p k (by omega), hz i hi]; simp
    have ht : x.take n = (turn x bit p k).take n := by
      refine same_of_bits _ _ (by simp [hlx, hly]) fun i hi => ?_
      have hi' : i < 8 * n := by simp at hi; omega
      have := hbits i (by omega)
      unfold bitAt at this ⊢
      rw [List.getD_eq_getElem?_getD, List.getD_eq_getElem?_getD, List.getElem?_take, List.getElem?_take, if_pos (by omega), if_pos (by omega), ← List.getD_eq_getElem?_getD, ← List.getD_eq_getElem?_getD]
      exact this
    refine ⟨ht, ?_⟩
    rw [← hx7, ← h, ht]
  · rintro ⟨h1, h2⟩
    rw [← h1, ← h2, hx7]
end Go.Proofs.Ytbnjijlpbeplmaa.CrcQ
