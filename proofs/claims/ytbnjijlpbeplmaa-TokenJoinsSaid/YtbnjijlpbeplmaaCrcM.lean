/- Plain facts on the two sums: remainders as bit vectors, no program. -/
namespace Go.Proofs.Ytbnjijlpbeplmaa.CrcM

abbrev B8 := BitVec 8
abbrev B16 := BitVec 16

/-- One byte more, of the sum of blocks. -/
def t16 (r : B16) (x : B8) : B16 :=
  ((r >>> 8) ^^^ x.setWidth 16) ^^^ (((r >>> 8) ^^^ x.setWidth 16) >>> 4)
def s16 (r : B16) (x : B8) : B16 :=
  ((r <<< 8) ^^^ (t16 r x <<< 12)) ^^^ (t16 r x <<< 5) ^^^ t16 r x

/-- One bit more, of the sum of frames. -/
def one7 (r : B8) : B8 := (r <<< 1) ^^^ ((r >>> 7) * 18#8)
def many7 : Nat → B8 → B8
  | 0, r => r
  | n + 1, r => one7 (many7 n r)
def s7 (r x : B8) : B8 := many7 8 (r ^^^ x)

def sum16 (l : List B8) : B16 := l.foldl s16 0
def rem7 (l : List B8) : B8 := l.foldl s7 0
def sum7 (l : List B8) : B8 := rem7 l >>> 1

theorem setWidth_xor8 (a b : B8) : (a ^^^ b).setWidth 16 = a.setWidth 16 ^^^ b.setWidth 16 := by
  exact BitVec.setWidth_xor

theorem t16_xor (r r' : B16) (x x' : B8) : t16 (r ^^^ r') (x ^^^ x') = t16 r x ^^^ t16 r' x' := by
  unfold t16
  rw [BitVec.setWidth_xor, BitVec.ushiftRight_xor_distrib]
  simp only [BitVec.ushiftRight_xor_distrib]
  ac_rfl

theorem s16_xor (r r' : B16) (x x' : B8) : s16 (r ^^^ r') (x ^^^ x') = s16 r x ^^^ s16 r' x' := by
  unfold s16
  rw [t16_xor]
  simp only [BitVec.shiftLeft_xor_distrib]
  ac_rfl

theorem one7_alt : ∀ r : B8, one7 r = (r <<< 1) ^^^ ((r >>> 7) <<< 4) ^^^ ((r >>> 7) <<< 1) := by decide +kernel

theorem one7_xor (a b : B8) : one7 (a ^^^ b) = one7 a ^^^ one7 b := by
  simp only [one7_alt, BitVec.ushiftRight_xor_distrib, BitVec.shiftLeft_xor_distrib]
  ac_rfl

theorem many7_xor (n : Nat) (a b : B8) : many7 n (a ^^^ b) = many7 n a ^^^ many7 n b := by
  induction n with
  | zero => rfl
  | succ n ih => simp only [many7, ih, one7_xor]

theorem s7_xor (r r' x x' : B8) : s7 (r ^^^ r') (x ^^^ x') = s7 r x ^^^ s7 r' x' := by
  unfold s7
  rw [← many7_xor]
  congr 1
  ac_rfl

/-- Rows of one length, mixed. -/
def mix (a b : List B8) : List B8 := List.zipWith (· ^^^ ·) a b

theorem fold16_mix (a b : List B8) (h : a.length = b.length) (r r' : B16) :
    (mix a b).foldl s16 (r ^^^ r') = a.foldl s16 r ^^^ b.foldl s16 r' := by
  induction a generalizing b r r' with
  | nil => cases b with
    | nil => rfl
    | cons _ _ => simp at h
  | cons x a ih => cases b with
    | nil => simp at h
    | cons y b => simp only [mix, List.zipWith_cons_cons, List.foldl_cons, s16_xor]; exact ih b (by simpa using h) _ _

theorem fold7_mix (a b : List B8) (h : a.length = b.length) (r r' : B8) :
    (mix a b).foldl s7 (r ^^^ r') = a.foldl s7 r ^^^ b.foldl s7 r' := by
  induction a generalizing b r r' with
  | nil => cases b with
    | nil => rfl
    | cons _ _ => simp at h
  | cons x a ih => cases b with
    | nil => simp at h
    | cons y b => simp only [mix, List.zipWith_cons_cons, List.foldl_cons, s7_xor]; exact ih b (by simpa using h) _ _

theorem sum16_mix (a b : List B8) (h : a.length = b.length) : sum16 (mix a b) = sum16 a ^^^ sum16 b := by
  have := fold16_mix a b h 0 0
  simpa [sum16] using this

theorem rem7_mix (a b : List B8) (h : a.length = b.length) : rem7 (mix a b) = rem7 a ^^^ rem7 b := by
  have := fold7_mix a b h 0 0
  simpa [rem7] using this

theorem sum7_mix (a b : List B8) (h : a.length = b.length) : sum7 (mix a b) = sum7 a ^^^ sum7 b := by
  simp only [sum7, rem7_mix a b h, BitVec.ushiftRight_xor_distrib]

theorem foldl_snoc {α β : Type} (f : α → β → α) (a : α) (l : List β) (x : β) : (l ++ [x]).foldl f a = f (l.foldl f a) x := by simp

theorem take_snoc (l : List B8) (k : Nat) (h : k < l.length) : l.take (k + 1) = l.take k ++ [l.getD k 0] := by
  rw [List.take_succ_eq_append_getElem h]; simp [List.getD, h]

theorem sum16_snoc (l : List B8) (k : Nat) (h : k < l.length) : sum16 (l.take (k + 1)) = s16 (sum16 (l.take k)) (l.getD k 0) := by
  rw [take_snoc l k h]; unfold sum16; rw [foldl_snoc]
theorem rem7_snoc (l : List B8) (k : Nat) (h : k < l.length) : rem7 (l.take (k + 1)) = s7 (rem7 (l.take k)) (l.getD k 0) := by
  rw [take_snoc l k h]; unfold rem7; rw [foldl_snoc]

/-! ### A block with its sum behind; bytes 0 ahead -/
theorem s16_end : ∀ s : B16, s16 (s16 s ((s >>> 8).setWidth 8)) (s.setWidth 8) = 0 := by
  intro s
  have h0 : ∀ (r : B16), t16 r ((r >>> 8).setWidth 8) = 0 := by
    intro r
    unfold t16
    have : (BitVec.setWidth 16 ((r >>> 8).setWidth 8)) = r >>> 8 := by
      apply BitVec.eq_of_toNat_eq
      have := r.isLt
      simp [BitVec.toNat_setWidth, BitVec.toNat_ushiftRight, Nat.shiftRight_eq_div_pow]
      omega
    rw [this]; simp
  have e1 : s16 s ((s >>> 8).setWidth 8) = s <<< 8 := by
    unfold s16; rw [h0]; simp
  rw [e1]
  have e2 : s.setWidth 8 = ((s <<< 8) >>> 8).setWidth 8 := by
    apply BitVec.eq_of_toNat_eq
    have := s.isLt
    simp [BitVec.toNat_setWidth, BitVec.toNat_ushiftRight, Nat.shiftRight_eq_div_pow, Nat.shiftLeft_eq]
    omega
  rw [e2]
  unfold s16; rw [h0]
  apply BitVec.eq_of_toNat_eq
  simp

theorem sum16_end (l : List B8) : sum16 (l ++ [((sum16 l) >>> 8).setWidth 8, (sum16 l).setWidth 8]) = 0 := by
  unfold sum16
  rw [List.foldl_append]
  exact s16_end _

theorem s16_zero : s16 0 0 = 0 := by decide
theorem s7_zero : s7 0 0 = 0 := by decide
theorem sum16_zeros (n : Nat) (l : List B8) : sum16 (List.replicate n 0 ++ l) = sum16 l := by
  induction n with
  | zero => simp
  | succ n ih => rw [List.replicate_succ, List.cons_append]; simp only [sum16, List.foldl_cons, s16_zero]; exact ih
theorem rem7_zeros (n : Nat) (l : List B8) : rem7 (List.replicate n 0 ++ l) = rem7 l := by
  induction n with
  | zero => simp
  | succ n ih => rw [List.replicate_succ, List.cons_append]; simp only [rem7, List.foldl_cons, s7_zero]; exact ih
theorem sum7_lt (l : List B8) : (sum7 l).toNat < 128 := by
  unfold sum7
  have := (rem7 l).isLt
  simp [BitVec.toNat_ushiftRight, Nat.shiftRight_eq_div_pow]; omega

/-! ### The chapter's examples -/
def sevenA : List B8 := [0x40, 0, 0, 0, 0]
def sevenB : List B8 := [0x51, 0, 0, 0, 0]
theorem ex1 : sum7 sevenA = 74 := by decide +kernel
theorem ex2 : sum7 sevenB = 42 := by decide +kernel
theorem ex3 : sum16 (List.replicate 512 255) = 32673 := by decide +kernel
end Go.Proofs.Ytbnjijlpbeplmaa.CrcM
