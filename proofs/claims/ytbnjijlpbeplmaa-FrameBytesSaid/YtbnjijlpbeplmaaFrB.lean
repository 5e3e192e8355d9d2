/- Contracts of frames: how one is made. -/
import Derived.Test.YtbnjijlpbeplmaaFrA
import Derived.Handy
import Derived.Stop.BytesEq
namespace Go.Proofs.Ytbnjijlpbeplmaa.FrB
open Go.ChangeShapes Go.WideShapes Go.ChangeAt Go.RowKit
open CrcM CrcB CrcL CrcQ FrA
set_option linter.unusedVariables false
set_option maxHeartbeats 1000000
abbrev B32 := BitVec 32

/-- The bytes of a frame ahead of its sum. -/
def five (f i : B8) (x : B32) : List B8 := [(f <<< 6) ||| (i &&& 63#8), (x >>> 24).setWidth 8, (x >>> 16).setWidth 8, (x >>> 8).setWidth 8, x.setWidth 8]
/-- A frame. -/
def frm (f i : B8) (x : B32) : List B8 := five f i x ++ [(sum7 (five f i x) <<< 1) ||| 1#8]

theorem o8 (a b : B8) : bits .or .u8 (a.toNat : Int) (b.toNat : Int) = ((a ||| b).toNat : Int) := by
  rw [u8_or_nat _ _ a.isLt b.isLt, BitVec.toNat_or]
theorem num0 (f i : B8) : bits BinOp.or IntKind.u8 ((f.toNat : Int) * 64 % 256) ((i.toNat : Int) % 64) = (((f <<< 6) ||| (i &&& 63#8)).toNat : Int) := by
  rw [← o8]
  congr 1
  · simp [BitVec.toNat_shiftLeft, Nat.shiftLeft_eq]
  · rw [BitVec.toNat_and, show (63#8).toNat = 2 ^ 6 - 1 from rfl, Nat.and_two_pow_sub_one_eq_mod]; rfl
theorem num1 (x : B32) : (x.toNat : Int) / (16777216 : Int) = (((x >>> 24).setWidth 8 : B8).toNat : Int) := by
  have := x.isLt
  simp [BitVec.toNat_setWidth, BitVec.toNat_ushiftRight, Nat.shiftRight_eq_div_pow]; omega
theorem num2 (x : B32) : (x.toNat : Int) / (65536 : Int) % (256 : Int) = (((x >>> 16).setWidth 8 : B8).toNat : Int) := by
  simp [BitVec.toNat_setWidth, BitVec.toNat_ushiftRight, Nat.shiftRight_eq_div_pow]
theorem num3 (x : B32) : (x.toNat : Int) / (256 : Int) % (256 : Int) = (((x >>> 8).setWidth 8 : B8).toNat : Int) := by
  simp [BitVec.toNat_setWidth, BitVec.toNat_ushiftRight, Nat.shiftRight_eq_div_pow]
theorem num4 (x : B32) : (x.toNat : Int) % 256 = ((x.setWidth 8 : B8).toNat : Int) := by
  simp [BitVec.toNat_setWidth]
theorem num5 (s : B8) : bits BinOp.or IntKind.u8 ((s.toNat : Int) * 2 % 256) 1 = (((s <<< 1) ||| 1#8).toNat : Int) := by
  rw [← o8]
  congr 1
  simp [BitVec.toNat_shiftLeft, Nat.shiftLeft_eq]

/-- Six bytes as a value. -/
def six (b0 b1 b2 b3 b4 b5 : B8) : Value := .agg #[.int .u8 b0.toNat, .int .u8 b1.toNat, .int .u8 b2.toNat, .int .u8 b3.toNat, .int .u8 b4.toNat, .int .u8 b5.toNat]

theorem Rd.of_cells {w : World} {g : Nat} {cs : Array Value} {ty : TypeId} {p : Nat × Nat} {l : List B8} (h : w.heap[g]? = some (.cells cs ty p)) (hl : l.length ≤ maxLen)
    (hc : ∀ i, i < l.length → cs[i]? = some (.int .u8 (l.getD i 0).toNat)) : Rd w (some ⟨g, 0, none⟩) l :=
  ⟨hl, fun i hi => ⟨g, 0, rfl, by rw [Nat.zero_add, cell_of_row w g i cs ty p h, hc i hi]⟩⟩

theorem Rd.fresh (w : World) (n0 n1 n2 n3 n4 : Int) (more : List Value) (ty : TypeId) (b0 b1 b2 b3 b4 : B8) (h0 : n0 = b0.toNat) (h1 : n1 = b1.toNat) (h2 : n2 = b2.toNat) (h3 : n3 = b3.toNat) (h4 : n4 = b4.toNat) (g : Nat) (hg : g = w.heap.size) (v5 : Value) :
    Rd (w.alloc (.cells #[.int .u8 n0, .int .u8 n1, .int .u8 n2, .int .u8 n3, .int .u8 n4, v5] ty)) (some ⟨g, 0, none⟩) [b0, b1, b2, b3, b4] := by
  subst h0 h1 h2 h3 h4 hg
  refine Rd.of_cells (heap_alloc_new w _) (by simp [maxLen]) fun i hi => ?_
  have hi5 : i < 5 := hi
  match i, hi5 with
  | 0, _ => rfl
  | 1, _ => rfl
  | 2, _ => rfl
  | 3, _ => rfl
  | 4, _ => rfl

theorem build (f i : B8) (x : B32) (w : World) :
    Calls Try.prog 84 #[.int .u8 f.toNat, .int .u8 i.toNat, .int .u32 x.toNat] w fun e w' => ∃ b0 b1 b2 b3 b4 b5, frm f i x = [b0, b1, b2, b3, b4, b5] ∧ e = .returned (six b0 b1 b2 b3 b4 b5) ∧ Below w.heap.size w w' := by
  have h1 := f.isLt
  have h2 := i.isLt
  have h3 := x.isLt
  have HL := Lib.hid (show five f i x = _ from rfl)
  have N0 := Lib.hid (num0 f i)
  have N1 := Lib.hid (num1 x)
  have N2 := Lib.hid (num2 x)
  have N3 := Lib.hid (num3 x)
  have N4 := Lib.hid (num4 x)
  have hs := (sum7 (five f i x)).isLt
  go_enter Try.func84, Try.ntmps84
  go_wp2_with fail
  refine Calls.mono (seven' _ (five f i x) 5 5 _ rfl (Rd.fresh _ _ _ _ _ _ [] _ _ _ _ _ _ N0.out N1.out N2.out N3.out N4.out _ (by simp) _)) ?_
  rintro e w' ⟨rfl, rfl⟩
  go_wp2
  go_returns
  refine ⟨_, _, _, _, _, _, rfl, ?_, ((Below.refl _ w).alloc (Nat.le_refl _) _).alloc (by simp) _⟩
  unfold six
  rw [N0.out, num1, num2, num3, num4, num5]

/-- Six cells of a block that is known whole. -/
theorem sixCells {w : World} {g : Nat} {ty : TypeId} {v0 v1 v2 v3 v4 v5 : Value} (h : w.heap[g]? = some (.cells #[v0, v1, v2, v3, v4, v5] ty (0, 0))) :
    w.cell? ⟨g, 0, none⟩ = some v0 ∧ w.cell? ⟨g, 1, none⟩ = some v1 ∧ w.cell? ⟨g, 2, none⟩ = some v2 ∧ w.cell? ⟨g, 3, none⟩ = some v3 ∧ w.cell? ⟨g, 4, none⟩ = some v4 ∧ w.cell? ⟨g, 5, none⟩ = some v5 ∧ ∀ j, w.frozen? ⟨g, j, none⟩ = false :=
  ⟨cell_of_row w g 0 _ ty _ h, cell_of_row w g 1 _ ty _ h, cell_of_row w g 2 _ ty _ h, cell_of_row w g 3 _ ty _ h, cell_of_row w g 4 _ ty _ h, cell_of_row w g 5 _ ty _ h, fun j => by simp [World.frozen?, h]⟩

theorem size5 (w : World) : (sizeOf 5).run Try.prog w = .ok 1 w := by
  obtain ⟨i, hi, _, hs, _⟩ := i5
  simp [sizeOf, typeInfo, hi, hs]

set_option maxRecDepth 100000 in
/-- Two arrays of six bytes: the same, or not. -/
theorem eq6 (w : World) (a0 a1 a2 a3 a4 a5 b0 b1 b2 b3 b4 b5 : B8) (B : Bool) (h : [a0, a1, a2, a3, a4, a5] = [b0, b1, b2, b3, b4, b5] ↔ B = true) :
    (Op.equalIn 10000 64 (six a0 a1 a2 a3 a4 a5) (six b0 b1 b2 b3 b4 b5)).run Try.prog w = .ok B w := by
  have h1 := run_equalIn_bytes (P := Try.prog) w 9998 64 5 6 Try.underlying64 Try.underlying5 size5 [⟨a0⟩, ⟨a1⟩, ⟨a2⟩, ⟨a3⟩, ⟨a4⟩, ⟨a5⟩] [⟨b0⟩, ⟨b1⟩, ⟨b2⟩, ⟨b3⟩, ⟨b4⟩, ⟨b5⟩] rfl rfl
  have h2 : (([⟨a0⟩, ⟨a1⟩, ⟨a2⟩, ⟨a3⟩, ⟨a4⟩, ⟨a5⟩] : List UInt8) == [⟨b0⟩, ⟨b1⟩, ⟨b2⟩, ⟨b3⟩, ⟨b4⟩, ⟨b5⟩]) = B := by
    rw [Bool.eq_iff_iff, ← h]
    constructor
    · intro e
      simpa using e
    · intro e
      simpa using e
  rw [h2] at h1
  unfold six
  rw [show (10000 : Nat) = 9998 + 2 from rfl]
  exact h1

/-- An index that may not be. -/
theorem encodeBad (z : Int) (v : Value) (w : World) (h : z < 0 ∨ 63 < z) :
    Calls Try.prog 33 #[.agg #[.int .i64 z, v]] w fun e w' => (∃ u, e = .returned (.tuple #[u, .int .i64 1])) ∧ Below w.heap.size w w' := by
  rcases h with h | h
  all_goals
    go_enter Try.func33, Try.ntmps33
    go_wp2
    go_returns
    exact ⟨⟨_, rfl⟩, ((Below.refl _ w).alloc (Nat.le_refl _) _).alloc (by simp) _⟩

/-- An index that may be. -/
theorem encode (i : B8) (hi : i.toNat ≤ 63) (x : B32) (w : World) :
    Calls Try.prog 33 #[.agg #[.int .i64 i.toNat, .int .u32 x.toNat]] w fun e w' => ∃ b0 b1 b2 b3 b4 b5, frm 1 i x = [b0, b1, b2, b3, b4, b5] ∧ e = .returned (.tuple #[six b0 b1 b2 b3 b4 b5, .int .i64 0]) ∧ Below w.heap.size w w' := by
  have h3 := x.isLt
  go_enter Try.func33, Try.ntmps33
  go_wp2_with fail
  refine Calls.mono (build 1 i x _) ?_
  rintro e w' ⟨b0, b1, b2, b3, b4, b5, hf, rfl, hb⟩
  have hw := hb.block (w.heap.size + 1) (by simp)
  rw [show w.heap.size + 1 = (w.alloc (Obj.cells #[Value.int IntKind.i64 ↑(BitVec.toNat i), Value.int IntKind.u32 ↑(BitVec.toNat x)] 63)).heap.size by simp, heap_alloc_new] at hw
  simp only [World.size_alloc] at hw
  obtain ⟨c0, c1, c2, c3, c4, c5, hz⟩ := sixCells hw
  have z0 := hz 0
  have z1 := hz 1
  have z2 := hz 2
  have z3 := hz 3
  have z4 := hz 4
  have z5 := hz 5
  have hb0 := (((Below.refl w.heap.size w).alloc (Nat.le_refl _) _).alloc (by simp) _).trans (hb.mono (by simp; omega))
  clear hw hz hb
  have d0 : (w'.setCell ⟨w.heap.size + 1, 0, none⟩ (.int .u8 b0.toNat)).cell? ⟨w.heap.size + 1, 0, none⟩ = some (.int .u8 b0.toNat) := World.cell?_setCell_same _ _ _ (u := .int .u8 0) (by go_simp)
  have d1 : ((w'.setCell ⟨w.heap.size + 1, 0, none⟩ (.int .u8 b0.toNat)).setCell ⟨w.heap.size + 1, 1, none⟩ (.int .u8 b1.toNat)).cell? ⟨w.heap.size + 1, 1, none⟩ = some (.int .u8 b1.toNat) := World.cell?_setCell_same _ _ _ (u := .int .u8 0) (by go_simp)
  have d2 : (((w'.setCell ⟨w.heap.size + 1, 0, none⟩ (.int .u8 b0.toNat)).setCell ⟨w.heap.size + 1, 1, none⟩ (.int .u8 b1.toNat)).setCell ⟨w.heap.size + 1, 2, none⟩ (.int .u8 b2.toNat)).cell? ⟨w.heap.size + 1, 2, none⟩ = some (.int .u8 b2.toNat) := World.cell?_setCell_same _ _ _ (u := .int .u8 0) (by go_simp)
  have d3 : ((((w'.setCell ⟨w.heap.size + 1, 0, none⟩ (.int .u8 b0.toNat)).setCell ⟨w.heap.size + 1, 1, none⟩ (.int .u8 b1.toNat)).setCell ⟨w.heap.size + 1, 2, none⟩ (.int .u8 b2.toNat)).setCell ⟨w.heap.size + 1, 3, none⟩ (.int .u8 b3.toNat)).cell? ⟨w.heap.size + 1, 3, none⟩ = some (.int .u8 b3.toNat) := World.cell?_setCell_same _ _ _ (u := .int .u8 0) (by go_simp)
  have d4 : (((((w'.setCell ⟨w.heap.size + 1, 0, none⟩ (.int .u8 b0.toNat)).setCell ⟨w.heap.size + 1, 1, none⟩ (.int .u8 b1.toNat)).setCell ⟨w.heap.size + 1, 2, none⟩ (.int .u8 b2.toNat)).setCell ⟨w.heap.size + 1, 3, none⟩ (.int .u8 b3.toNat)).setCell ⟨w.heap.size + 1, 4, none⟩ (.int .u8 b4.toNat)).cell? ⟨w.heap.size + 1, 4, none⟩ = some (.int .u8 b4.toNat) := World.cell?_setCell_same _ _ _ (u := .int .u8 0) (by go_simp)
  have d5 : ((((((w'.setCell ⟨w.heap.size + 1, 0, none⟩ (.int .u8 b0.toNat)).setCell ⟨w.heap.size + 1, 1, none⟩ (.int .u8 b1.toNat)).setCell ⟨w.heap.size + 1, 2, none⟩ (.int .u8 b2.toNat)).setCell ⟨w.heap.size + 1, 3, none⟩ (.int .u8 b3.toNat)).setCell ⟨w.heap.size + 1, 4, none⟩ (.int .u8 b4.toNat)).setCell ⟨w.heap.size + 1, 5, none⟩ (.int .u8 b5.toNat)).cell? ⟨w.heap.size + 1, 5, none⟩ = some (.int .u8 b5.toNat) := World.cell?_setCell_same _ _ _ (u := .int .u8 0) (by go_simp)
  unfold six
  go_wp2
  refine bodyPost_ret (by simp [results, Try.results33, go_sem, d0, d1, d2, d3, d4, d5]; try rfl) rfl ?_
  refine ⟨_, _, _, _, _, _, hf, rfl, ?_⟩
  exact (((((hb0.setCell (by simp) _).setCell (by simp) _).setCell (by simp) _).setCell (by simp) _).setCell (by simp) _).setCell (by simp) _

set_option maxRecDepth 100000 in
/-- The example of the chapter. -/
theorem known (w : World) : Calls Try.prog 32 #[] w fun e w' => e = .returned (.bool true) ∧ Below w.heap.size w w' := by
  go_enter Try.func32, Try.ntmps32
  go_wp2_with fail
  refine Calls.mono (encode 0 (by decide) 0 _) ?_
  rintro e w' ⟨b0, b1, b2, b3, b4, b5, hf, rfl, hb⟩
  rw [show frm 1 0 0 = [64, 0, 0, 0, 0, 149] by decide +kernel] at hf
  simp only [List.cons.injEq, and_true] at hf
  obtain ⟨rfl, rfl, rfl, rfl, rfl, rfl⟩ := hf
  have E : ∀ w, (Op.equalIn 10000 64 (.agg #[.int .u8 64, .int .u8 0, .int .u8 0, .int .u8 0, .int .u8 0, .int .u8 149]) (.agg #[.int .u8 64, .int .u8 0, .int .u8 0, .int .u8 0, .int .u8 0, .int .u8 149])).run Try.prog w = .ok true w := fun w => eq6 w 64 0 0 0 0 149 64 0 0 0 0 149 true (by simp)
  unfold six
  go_wp2
  go_returns
  exact ⟨rfl, hb.alloc hb.size _⟩
end Go.Proofs.Ytbnjijlpbeplmaa.FrB
