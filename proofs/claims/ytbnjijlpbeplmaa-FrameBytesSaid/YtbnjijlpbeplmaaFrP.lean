/- Contracts of frames: responses and commands of any index, by the program and by the document. -/
import Derived.Test.YtbnjijlpbeplmaaFrZ
namespace Go.Proofs.Ytbnjijlpbeplmaa.FrP
open Go.ChangeShapes Go.WideShapes Go.ChangeAt Go.RowKit
open CrcM CrcB CrcL CrcQ FrA FrB FrT FrD FrU
set_option linter.unusedVariables false
set_option maxHeartbeats 1000000

/-- A frame as a value. -/
def frmV (f i : B8) (x : B32) : Value := six ((f <<< 6) ||| (i &&& 63#8)) ((x >>> 24).setWidth 8) ((x >>> 16).setWidth 8) ((x >>> 8).setWidth 8) (x.setWidth 8) ((sum7 (five f i x) <<< 1) ||| 1#8)

theorem buildV (f i : B8) (x : B32) (w : World) :
    Calls Try.prog 84 #[.int .u8 f.toNat, .int .u8 i.toNat, .int .u32 x.toNat] w fun e w' => e = .returned (frmV f i x) ∧ Below w.heap.size w w' := by
  refine (build f i x w).mono ?_
  rintro e w' ⟨b0, b1, b2, b3, b4, b5, hf, rfl, hb⟩
  refine ⟨?_, hb⟩
  simp only [frm, five, List.cons_append, List.nil_append, List.cons.injEq, and_true] at hf
  obtain ⟨rfl, rfl, rfl, rfl, rfl, rfl⟩ := hf
  rfl

theorem frmV_agg (f i : B8) (x : B32) : ∃ b0 b1 b2 b3 b4 b5 : B8, frmV f i x = .agg #[.int .u8 b0.toNat, .int .u8 b1.toNat, .int .u8 b2.toNat, .int .u8 b3.toNat, .int .u8 b4.toNat, .int .u8 b5.toNat] := ⟨_, _, _, _, _, _, rfl⟩

theorem i64s : (Try.prog.info? 64).map (·.size) = some 6 := by kernel_rfl

set_option maxRecDepth 100000 in
theorem response (z : Int) (i : B8) (hi : z % 256 = i.toNat) (x : B32) (w : World) :
    Calls Try.prog 43 #[.int .i64 z, .int .u32 x.toNat] w fun e w' => e = .returned (frmV 0 i x) ∧ Below w.heap.size w w' := by
  have h3 := x.isLt
  obtain ⟨w1, hw1⟩ : ∃ w1, w1 = w.alloc (.cells #[.int .u8 0, .int .u8 0, .int .u8 0, .int .u8 0, .int .u8 0, .int .u8 0] 64) := ⟨_, rfl⟩
  have c1 : Mem.Blk w1 w.heap.size 64 #[.int .u8 0, .int .u8 0, .int .u8 0, .int .u8 0, .int .u8 0, .int .u8 0] := by rw [hw1]; exact Mem.Blk.new w 64 _
  have D1 : Below w.heap.size w w1 := by rw [hw1]; exact (Below.refl _ _).alloc (Nat.le_refl _) _
  have H := Lib.hid (buildV 0 i x w1)
  replace c1 := Lib.hid c1
  replace D1 := Lib.hid D1
  obtain ⟨b0, b1, b2, b3, b4, b5, hv⟩ := frmV_agg 0 i x
  generalize frmV 0 i x = V at *
  subst hv
  replace hi := Lib.hid hi
  go_enter Try.func43, Try.ntmps43
  go_wp2_with fail
  rw [← hw1]
  replace hw1 := Lib.hid hw1
  try rw [hi.out]
  refine H.out.mono ?_
  rintro e w' ⟨rfl, hb⟩
  have c2 := Lib.hid (Mem.Blk.below c1.out hb c1.out.lt)
  have D2 := Lib.hid (D1.out.trans (hb.mono D1.out.size))
  clear hb
  go_wp2_with (first | ((with_reducible show wpList _ _ _ (Oper.mk _ (Op.store 64 (.tmp 4) (.tmp 8)) _ _ _ _ :: _) _ _); refine Mem.storeBlk 64 (.tmp 4) (.tmp 8) rfl w.heap.size rfl _ _ rfl 64 c2.out i64s rfl (by kernel_rfl) w.heap.size w D2.out (Nat.le_refl _) rfl ?_; intro w5 hB5 hb5))
  obtain ⟨z0, z1, z2, z3, z4, z5, z6⟩ := sixCells hB5
  exact bodyPost_ret (by simp [results, Try.results43, go_sem, z0, z1, z2, z3, z4, z5]; try rfl) rfl ⟨rfl, hb5⟩

theorem and63 (i : B8) : bits BinOp.and IntKind.u8 (i.toNat : Int) 63 = ((i &&& 63#8).toNat : Int) := by
  rw [show (63 : Int) = ((63#8).toNat : Int) from rfl, u8_and_nat _ _ i.isLt (by decide), BitVec.toNat_and]
theorem or64 (i : B8) : bits BinOp.or IntKind.u8 64 (i.toNat : Int) = ((64#8 ||| i).toNat : Int) := by
  rw [show (64 : Int) = ((64#8).toNat : Int) from rfl, o8]

theorem layV (f i : B8) (x : B32) (w : World) (h : B8) (hh : h = (f <<< 6) ||| (i &&& 63#8)) :
    Calls Try.prog 85 #[.int .u8 h.toNat, .int .u32 x.toNat] w fun e w' => e = .returned (frmV f i x) ∧ Below w.heap.size w w' := by
  subst hh
  refine (FrZ.layR _ x w).mono ?_
  rintro e w' ⟨rfl, hb⟩
  rw [FrZ.five_eq]
  refine ⟨?_, hb⟩
  unfold frmV
  rfl

set_option maxRecDepth 100000 in
theorem responseR (z : Int) (i : B8) (hi : z % 256 = i.toNat) (x : B32) (w : World) :
    Calls Try.prog 44 #[.int .i64 z, .int .u32 x.toNat] w fun e w' => e = .returned (frmV 0 i x) ∧ Below w.heap.size w w' := by
  have h3 := x.isLt
  obtain ⟨w1, hw1⟩ : ∃ w1, w1 = w.alloc (.cells #[.int .u8 0, .int .u8 0, .int .u8 0, .int .u8 0, .int .u8 0, .int .u8 0] 64) := ⟨_, rfl⟩
  have c1 : Mem.Blk w1 w.heap.size 64 #[.int .u8 0, .int .u8 0, .int .u8 0, .int .u8 0, .int .u8 0, .int .u8 0] := by rw [hw1]; exact Mem.Blk.new w 64 _
  have D1 : Below w.heap.size w w1 := by rw [hw1]; exact (Below.refl _ _).alloc (Nat.le_refl _) _
  have H := Lib.hid (layV 0 i x w1 (i &&& 63#8) (by simp))
  replace c1 := Lib.hid c1
  replace D1 := Lib.hid D1
  obtain ⟨b0, b1, b2, b3, b4, b5, hv⟩ := frmV_agg 0 i x
  generalize frmV 0 i x = V at *
  subst hv
  have hn : Hid (z % 64 = ((i &&& 63#8).toNat : Int)) := Lib.hid (by
    have : (i &&& 63#8).toNat = i.toNat % 64 := by rw [BitVec.toNat_and, show (63#8).toNat = 2 ^ 6 - 1 from rfl, Nat.and_two_pow_sub_one_eq_mod]
    rw [this]; omega)
  replace hi := Lib.hid hi
  go_enter Try.func44, Try.ntmps44
  go_wp2_with fail
  rw [← hw1]
  replace hw1 := Lib.hid hw1
  rw [hn.out]
  refine H.out.mono ?_
  rintro e w' ⟨rfl, hb⟩
  have c2 := Lib.hid (Mem.Blk.below c1.out hb c1.out.lt)
  have D2 := Lib.hid (D1.out.trans (hb.mono D1.out.size))
  clear hb
  go_wp2_with (first | ((with_reducible show wpList _ _ _ (Oper.mk _ (Op.store 64 (.tmp 4) (.tmp 9)) _ _ _ _ :: _) _ _); refine Mem.storeBlk 64 (.tmp 4) (.tmp 9) rfl w.heap.size rfl _ _ rfl 64 c2.out i64s rfl (by kernel_rfl) w.heap.size w D2.out (Nat.le_refl _) rfl ?_; intro w5 hB5 hb5))
  obtain ⟨z0, z1, z2, z3, z4, z5, z6⟩ := sixCells hB5
  exact bodyPost_ret (by simp [results, Try.results44, go_sem, z0, z1, z2, z3, z4, z5]; try rfl) rfl ⟨rfl, hb5⟩

/-- What a command's frame is, and the error. -/
def encV (z : Int) (x : B32) : Value := if z < 0 ∨ 63 < z then .tuple #[six 0 0 0 0 0 0, .int .i64 1] else .tuple #[frmV 1 (BitVec.ofInt 8 z) x, .int .i64 0]

theorem encodeBad (z : Int) (v : Value) (w : World) (h : z < 0 ∨ 63 < z) :
    Calls Try.prog 33 #[.agg #[.int .i64 z, v]] w fun e w' => e = .returned (.tuple #[six 0 0 0 0 0 0, .int .i64 1]) ∧ Below w.heap.size w w' := by
  rcases h with h | h
  all_goals
    go_enter Try.func33, Try.ntmps33
    go_wp2
    go_returns
    exact ⟨rfl, ((Below.refl _ w).alloc (Nat.le_refl _) _).alloc (by simp) _⟩
theorem encodeBadR (z : Int) (v : Value) (w : World) (h : z < 0 ∨ 63 < z) :
    Calls Try.prog 34 #[.agg #[.int .i64 z, v]] w fun e w' => e = .returned (.tuple #[six 0 0 0 0 0 0, .int .i64 1]) ∧ Below w.heap.size w w' := by
  rcases h with h | h
  all_goals
    go_enter Try.func34, Try.ntmps34
    go_wp2
    go_returns
    exact ⟨rfl, ((Below.refl _ w).alloc (Nat.le_refl _) _).alloc (by simp) _⟩
theorem encodeGood (i : B8) (hi : i.toNat ≤ 63) (x : B32) (w : World) :
    Calls Try.prog 33 #[.agg #[.int .i64 i.toNat, .int .u32 x.toNat]] w fun e w' => e = .returned (.tuple #[frmV 1 i x, .int .i64 0]) ∧ Below w.heap.size w w' := by
  refine (encode i hi x w).mono ?_
  rintro e w' ⟨b0, b1, b2, b3, b4, b5, hf, rfl, hb⟩
  refine ⟨?_, hb⟩
  simp only [frm, five, List.cons_append, List.nil_append, List.cons.injEq, and_true] at hf
  obtain ⟨rfl, rfl, rfl, rfl, rfl, rfl⟩ := hf
  rfl

theorem top64 (i : B8) (hi : i.toNat ≤ 63) : (64#8 ||| i) = ((1#8 <<< 6) ||| (i &&& 63#8)) := by
  have h : ∀ i : B8, i.toNat ≤ 63 → (64#8 ||| i) = ((1#8 <<< 6) ||| (i &&& 63#8)) := by decide +kernel
  exact h i hi

set_option maxRecDepth 100000 in
theorem encodeGoodR (i : B8) (hi : i.toNat ≤ 63) (x : B32) (w : World) :
    Calls Try.prog 34 #[.agg #[.int .i64 i.toNat, .int .u32 x.toNat]] w fun e w' => e = .returned (.tuple #[frmV 1 i x, .int .i64 0]) ∧ Below w.heap.size w w' := by
  have h3 := x.isLt
  obtain ⟨w1, hw1⟩ : ∃ w1, w1 = (w.alloc (.cells #[.int .i64 i.toNat, .int .u32 x.toNat] 69)).alloc (.cells #[.int .u8 0, .int .u8 0, .int .u8 0, .int .u8 0, .int .u8 0, .int .u8 0] 64) := ⟨_, rfl⟩
  have c1 : Mem.Blk w1 (w.heap.size + 1) 64 #[.int .u8 0, .int .u8 0, .int .u8 0, .int .u8 0, .int .u8 0, .int .u8 0] := by
    have := Mem.Blk.new (w.alloc (.cells #[.int .i64 i.toNat, .int .u32 x.toNat] 69)) 64 #[.int .u8 0, .int .u8 0, .int .u8 0, .int .u8 0, .int .u8 0, .int .u8 0]
    rw [hw1]; simpa only [World.size_alloc] using this
  have D1 : Below w.heap.size w w1 := by rw [hw1]; exact ((Below.refl _ _).alloc (Nat.le_refl _) _).alloc (by simp) _
  have H := Lib.hid (fun w2 => layV 1 i x w2 (64#8 ||| i) (top64 i hi))
  replace c1 := Lib.hid c1
  replace D1 := Lib.hid D1
  obtain ⟨b0, b1, b2, b3, b4, b5, hv⟩ := frmV_agg 1 i x
  generalize frmV 1 i x = V at *
  subst hv
  have hn := Lib.hid (or64 i)
  go_enter Try.func34, Try.ntmps34
  go_wp2_with fail
  rw [← hw1]
  replace hw1 := Lib.hid hw1
  try rw [hn.out]
  refine (H.out _).mono ?_
  rintro e w' ⟨rfl, hb⟩
  have c2 := Lib.hid (Mem.Blk.below c1.out hb c1.out.lt)
  have D2 := Lib.hid (D1.out.trans (hb.mono D1.out.size))
  clear hb
  go_wp2_with (first | ((with_reducible show wpList _ _ _ (Oper.mk _ (Op.store 64 (.tmp 2) (.tmp 19)) _ _ _ _ :: _) _ _); refine Mem.storeBlk 64 (.tmp 2) (.tmp 19) rfl (w.heap.size + 1) rfl _ _ rfl 64 c2.out i64s rfl (by kernel_rfl) w.heap.size w D2.out (by omega) rfl ?_; intro w5 hB5 hb5))
  obtain ⟨z0, z1, z2, z3, z4, z5, z6⟩ := sixCells hB5
  exact bodyPost_ret (by simp [results, Try.results34, go_sem, z0, z1, z2, z3, z4, z5]; try rfl) rfl ⟨rfl, hb5⟩

/-- The index as a byte. -/
theorem asByte (z : Int) (h : ¬ (z < 0 ∨ 63 < z)) : z = ((BitVec.ofInt 8 z).toNat : Int) ∧ (BitVec.ofInt 8 z).toNat ≤ 63 := by
  have : (BitVec.ofInt 8 z).toNat = (z % 256).toNat := by simp [BitVec.toNat_ofInt]
  rw [this]; omega
theorem asByte' (z : Int) : z % 256 = ((BitVec.ofInt 8 z).toNat : Int) := by
  have : (BitVec.ofInt 8 z).toNat = (z % 256).toNat := by simp [BitVec.toNat_ofInt]
  rw [this]; omega

theorem enc (z : Int) (x : B32) (w : World) :
    Calls Try.prog 33 #[.agg #[.int .i64 z, .int .u32 x.toNat]] w fun e w' => e = .returned (encV z x) ∧ Below w.heap.size w w' := by
  unfold encV
  by_cases h : z < 0 ∨ 63 < z
  · rw [if_pos h]; exact encodeBad z _ w h
  · rw [if_neg h]
    have ⟨a, b⟩ := asByte z h
    generalize BitVec.ofInt 8 z = i at *
    subst a
    exact encodeGood i b x w
theorem encR (z : Int) (x : B32) (w : World) :
    Calls Try.prog 34 #[.agg #[.int .i64 z, .int .u32 x.toNat]] w fun e w' => e = .returned (encV z x) ∧ Below w.heap.size w w' := by
  unfold encV
  by_cases h : z < 0 ∨ 63 < z
  · rw [if_pos h]; exact encodeBadR z _ w h
  · rw [if_neg h]
    have ⟨a, b⟩ := asByte z h
    generalize BitVec.ofInt 8 z = i at *
    subst a
    exact encodeGoodR i b x w
end Go.Proofs.Ytbnjijlpbeplmaa.FrP
