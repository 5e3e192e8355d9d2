/- The two sums are registers fed with the bits; what is seen of bursts. No program. -/
import Derived.Test.YtbnjijlpbeplmaaCrcB
namespace Go.Proofs.Ytbnjijlpbeplmaa.CrcL
open CrcM CrcB

def p16 : BitVec 16 := 0x1021#16
def p7 : BitVec 7 := 0x09#7
theorem p16_low : p16.getLsbD 0 = true := by decide
theorem p7_low : p7.getLsbD 0 = true := by decide

def bits8 (x : B8) : List Bool := (List.range 8).map fun i => x.getMsbD i
theorem feed8_xor {w : Nat} (p r r' : BitVec w) (x x' : B8) : feed p (r ^^^ r') (bits8 (x ^^^ x')) = feed p r (bits8 x) ^^^ feed p r' (bits8 x') := by
  unfold bits8
  rw [← feed_xor]
  congr 2
  funext i
  exact BitVec.getMsbD_xor

theorem s16_low : ∀ x : B8, s16 0 x = feed p16 0 (bits8 x) := by decide +kernel
theorem s16_a : ∀ x : B8, s16 (x.setWidth 16) 0 = feed p16 (x.setWidth 16) (bits8 0) := by decide +kernel
theorem s16_b : ∀ x : B8, s16 (x.setWidth 16 <<< 8) 0 = feed p16 (x.setWidth 16 <<< 8) (bits8 0) := by decide +kernel
theorem split16 (r : B16) : r = ((r >>> 8).setWidth 8).setWidth 16 <<< 8 ^^^ (r.setWidth 8).setWidth 16 := by
  apply BitVec.eq_of_getLsbD_eq
  intro i hi
  simp only [BitVec.getLsbD_xor, BitVec.getLsbD_shiftLeft, BitVec.getLsbD_setWidth, BitVec.getLsbD_ushiftRight]
  by_cases h : i < 8
  · simp [h, show i < 16 by omega]
  · simp [h, show i < 16 by omega, show i - 8 < 8 by omega, show i - 8 < 16 by omega, show 8 + (i - 8) = i by omega]

theorem s16_feed (r : B16) (x : B8) : s16 r x = feed p16 r (bits8 x) := by
  have h1 : s16 r x = s16 r 0 ^^^ s16 0 x := by rw [← s16_xor]; simp
  have h2 : feed p16 r (bits8 x) = feed p16 r (bits8 0) ^^^ feed p16 0 (bits8 x) := by rw [← feed8_xor]; simp
  have h3 : s16 r 0 = feed p16 r (bits8 0) := by
    conv => lhs; rw [split16 r]
    conv => rhs; rw [split16 r]
    have e1 : ∀ a b : B16, s16 (a ^^^ b) 0 = s16 a 0 ^^^ s16 b 0 := fun a b => by rw [← s16_xor]; simp
    have e2 : ∀ a b : B16, feed p16 (a ^^^ b) (bits8 0) = feed p16 a (bits8 0) ^^^ feed p16 b (bits8 0) := fun a b => by rw [← feed8_xor]; simp
    rw [e1, e2, s16_a, s16_b]
  rw [h1, h2, h3, s16_low]

/-- The register of seven bits, as the upper seven of a byte. -/
def emb (z : BitVec 7) : B8 := z.setWidth 8 <<< 1
theorem emb_xor (a b : BitVec 7) : emb (a ^^^ b) = emb a ^^^ emb b := by
  unfold emb; rw [BitVec.setWidth_xor, BitVec.shiftLeft_xor_distrib]
theorem s7_a : ∀ z : BitVec 7, s7 (emb z) 0 = emb (feed p7 z (bits8 0)) := by decide +kernel
theorem s7_b : ∀ x : B8, s7 0 x = emb (feed p7 0 (bits8 x)) := by decide +kernel
theorem s7_feed (z : BitVec 7) (x : B8) : s7 (emb z) x = emb (feed p7 z (bits8 x)) := by
  have h1 : s7 (emb z) x = s7 (emb z) 0 ^^^ s7 0 x := by rw [← s7_xor]; simp
  have h2 : feed p7 z (bits8 x) = feed p7 z (bits8 0) ^^^ feed p7 0 (bits8 x) := by rw [← feed8_xor]; simp
  rw [h1, h2, emb_xor, s7_a, s7_b]
theorem emb_zero : emb 0 = 0 := by decide
theorem emb_shr : ∀ z : BitVec 7, emb z >>> 1 = z.setWidth 8 := by decide +kernel

/-- A row's bits, the highest of each byte first. -/
def bitAt (l : List B8) (i : Nat) : Bool := (l.getD (i / 8) 0).getMsbD (i % 8)
def bits (l : List B8) (N : Nat) : List Bool := (List.range N).map (bitAt l)

theorem bitAt_append (a b : List B8) (i : Nat) (h : i < 8 * a.length) : bitAt (a ++ b) i = bitAt a i := by
  unfold bitAt
  rw [List.getD_eq_getElem?_getD, List.getD_eq_getElem?_getD, List.getElem?_append_left (by omega)]

theorem bits_snoc (l : List B8) (x : B8) : bits (l ++ [x]) (8 * (l.length + 1)) = bits l (8 * l.length) ++ bits8 x := by
  unfold bits bits8
  rw [show 8 * (l.length + 1) = 8 * l.length + 8 by omega, List.range_add, List.map_append]
  congr 1
  · exact List.map_congr_left fun i hi => bitAt_append l [x] i (List.mem_range.1 hi)
  · rw [List.map_map]
    apply List.map_congr_left
    intro i hi
    have hi8 := List.mem_range.1 hi
    show bitAt (l ++ [x]) (8 * l.length + i) = x.getMsbD i
    unfold bitAt
    rw [show (8 * l.length + i) / 8 = l.length by omega, show (8 * l.length + i) % 8 = i by omega]
    simp

theorem snoc_induction {P : List B8 → Prop} (h0 : P []) (h1 : ∀ l x, P l → P (l ++ [x])) (l : List B8) : P l := by
  have : ∀ n, ∀ l : List B8, l.length = n → P l := by
    intro n
    induction n with
    | zero => intro l hl; rw [List.length_eq_zero_iff.1 hl]; exact h0
    | succ n ih =>
      intro l hl
      have hne : l ≠ [] := by intro e; rw [e] at hl; simp at hl
      rw [← List.dropLast_concat_getLast hne]
      exact h1 _ _ (ih _ (by simp [hl]))
  exact this _ l rfl

theorem sum16_bits (l : List B8) : sum16 l = feed p16 0 (bits l (8 * l.length)) := by
  induction l using snoc_induction with
  | h0 => rfl
  | h1 l x ih =>
    rw [List.length_append, List.length_singleton, bits_snoc, feed_append, ← ih]
    unfold sum16
    rw [foldl_snoc, s16_feed]

def z7 (l : List B8) : BitVec 7 := feed p7 0 (bits l (8 * l.length))
theorem rem7_bits (l : List B8) : rem7 l = emb (z7 l) := by
  induction l using snoc_induction with
  | h0 => rfl
  | h1 l x ih =>
    unfold z7
    rw [List.length_append, List.length_singleton, bits_snoc, feed_append]
    have : rem7 (l ++ [x]) = s7 (rem7 l) x := by unfold rem7; rw [foldl_snoc]
    rw [this, ih, s7_feed]; rfl
theorem sum7_bits (l : List B8) : sum7 l = (z7 l).setWidth 8 := by
  unfold sum7; rw [rem7_bits, emb_shr]

/-! ### A bit that is turned -/
def flip (l : List B8) (j : Nat) : List B8 := l.set (j / 8) (l.getD (j / 8) 0 ^^^ (0x80#8 >>> (j % 8)))
theorem mask (k : Nat) (h : k < 8) (i : Nat) (hi : i < 8) : (0x80#8 >>> k).getMsbD i = decide (i = k) := by
  have : ∀ k, k < 8 → ∀ i, i < 8 → (0x80#8 >>> k).getMsbD i = decide (i = k) := by decide
  exact this k h i hi
theorem flip_length (l : List B8) (j : Nat) : (flip l j).length = l.length := by simp [flip]
theorem bitAt_flip (l : List B8) (j : Nat) (h : j < 8 * l.length) (i : Nat) : bitAt (flip l j) i = (bitAt l i ^^ decide (i = j)) := by
  unfold bitAt flip
  by_cases e : i / 8 = j / 8
  · rw [e]
    have h1 : (l.set (j / 8) (l.getD (j / 8) 0 ^^^ 0x80#8 >>> (j % 8))).getD (j / 8) 0 = l.getD (j / 8) 0 ^^^ 0x80#8 >>> (j % 8) := by
      rw [List.getD_eq_getElem?_getD, List.getElem?_set_self (by omega)]; rfl
    rw [h1, BitVec.getMsbD_xor, mask _ (by omega) _ (by omega)]
    congr 1
    simp only [decide_eq_decide]; omega
  · have h1 : (l.set (j / 8) (l.getD (j / 8) 0 ^^^ 0x80#8 >>> (j % 8))).getD (i / 8) 0 = l.getD (i / 8) 0 := by
      rw [List.getD_eq_getElem?_getD, List.getElem?_set_ne (by omega), ← List.getD_eq_getElem?_getD]
    rw [h1]
    have : ¬ i = j := by intro e'; exact e (by rw [e'])
    simp [this]

/-- Bits of a pattern, from a bit on, turned: so many of them. -/
def turn (l : List B8) (bit p : Nat) : Nat → List B8
  | 0 => l
  | k + 1 => if p.testBit k then flip (turn l bit p k) (bit + k) else turn l bit p k
theorem turn_length (l : List B8) (bit p k : Nat) : (turn l bit p k).length = l.length := by
  induction k with
  | zero => rfl
  | succ k ih => unfold turn; split <;> simp [flip_length, ih]
theorem bitAt_turn (l : List B8) (bit p k : Nat) (h : bit + k ≤ 8 * l.length) (i : Nat) : bitAt (turn l bit p k) i = (bitAt l i ^^ (decide (bit ≤ i ∧ i < bit + k) && p.testBit (i - bit))) := by
  induction k with
  | zero => simp [turn, show ¬ (bit ≤ i ∧ i < bit) by omega]
  | succ k ih =>
    have ih' := ih (by omega)
    unfold turn
    by_cases hp : p.testBit k
    · rw [if_pos hp, bitAt_flip _ _ (by rw [turn_length]; omega), ih']
      by_cases e : i = bit + k
      · subst e; simp [hp]
      · have : decide (bit ≤ i ∧ i < bit + (k + 1)) = decide (bit ≤ i ∧ i < bit + k) := by simp only [decide_eq_decide]; omega
        rw [this]; simp [e]
    · rw [if_neg hp, ih']
      by_cases e : i = bit + k
      · subst e; simp [hp]
      · have : decide (bit ≤ i ∧ i < bit + (k + 1)) = decide (bit ≤ i ∧ i < bit + k) := by simp only [decide_eq_decide]; omega
        rw [this]

theorem bits_turn {w : Nat} (q : BitVec w) (l : List B8) (bit p k N : Nat) (h : bit + k ≤ 8 * l.length) :
    feed q 0 (bits (turn l bit p k) N) = feed q 0 (bits l N) ^^^ feed q 0 ((List.range N).map fun i => decide (bit ≤ i ∧ i < bit + k) && p.testBit (i - bit)) := by
  rw [show bits (turn l bit p k) N = (List.range N).map fun i => bitAt l i ^^ (decide (bit ≤ i ∧ i < bit + k) && p.testBit (i - bit)) from List.map_congr_left fun i _ => bitAt_turn l bit p k h i]
  rw [show bits l N = (List.range N).map (bitAt l) from rfl, ← feed_xor]
  simp

theorem one_bit {w : Nat} (q : BitVec w) (hq : q.getLsbD 0 = true) (hw : 0 < w) (l : List B8) (bit : Nat) (h : bit < 8 * l.length) :
    feed q 0 (bits (turn l bit 1 1) (8 * l.length)) ≠ feed q 0 (bits l (8 * l.length)) := by
  intro e
  rw [bits_turn q l bit 1 1 _ (by omega)] at e
  have e0 : feed q 0 ((List.range (8 * l.length)).map fun i => decide (bit ≤ i ∧ i < bit + 1) && Nat.testBit 1 (i - bit)) = 0 := by
    have := congrArg (fun z => feed q 0 (bits l (8 * l.length)) ^^^ z) e
    simpa [← BitVec.xor_assoc] using this
  have := burst q hq hw (8 * l.length) bit 1 (by omega) (by omega) _ (fun i hi hn => by simp [hn]) e0 bit h
  simp at this

theorem bits16 (l : List B8) (bit : Nat) (h : bit < 8 * l.length) : sum16 l ≠ sum16 (turn l bit 1 1) := by
  rw [sum16_bits, sum16_bits, turn_length]
  exact (one_bit p16 p16_low (by omega) l bit h).symm
theorem bits7 (l : List B8) (bit : Nat) (h : bit < 8 * l.length) : sum7 l ≠ sum7 (turn l bit 1 1) := by
  rw [sum7_bits, sum7_bits]
  intro e
  have e' : z7 l = z7 (turn l bit 1 1) := by
    have := congrArg (BitVec.setWidth 7) e
    simpa using this
  unfold z7 at e'
  rw [turn_length] at e'
  exact (one_bit p7 p7_low (by omega) l bit h) e'.symm
end Go.Proofs.Ytbnjijlpbeplmaa.CrcL
