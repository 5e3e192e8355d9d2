/- Contracts of frames: the card's responses. -/
import Derived.Test.YtbnjijlpbeplmaaFrD
namespace Go.Proofs.Ytbnjijlpbeplmaa.FrR
open Go.ChangeShapes Go.WideShapes Go.ChangeAt Go.RowKit
open CrcM CrcB CrcL CrcQ FrA FrB FrT FrD
set_option linter.unusedVariables false
set_option maxHeartbeats 1000000

theorem response (i : B8) (hi : i.toNat ≤ 63) (x : B32) (w : World) :
    Calls Try.prog 43 #[.int .i64 i.toNat, .int .u32 x.toNat] w fun e w' => ∃ b0 b1 b2 b3 b4 b5, frm 0 i x = [b0, b1, b2, b3, b4, b5] ∧ e = .returned (six b0 b1 b2 b3 b4 b5) ∧ Below w.heap.size w w' := by
  have h3 := x.isLt
  go_enter Try.func43, Try.ntmps43
  go_wp2_with fail
  refine Calls.mono (build 0 i x _) ?_
  rintro e w' ⟨b0, b1, b2, b3, b4, b5, hf, rfl, hb⟩
  have hw := hb.block w.heap.size (by simp)
  rw [heap_alloc_new] at hw
  obtain ⟨c0, c1, c2, c3, c4, c5, hz⟩ := sixCells hw
  have z0 := hz 0
  have z1 := hz 1
  have z2 := hz 2
  have z3 := hz 3
  have z4 := hz 4
  have z5 := hz 5
  have hb0 := ((Below.refl w.heap.size w).alloc (Nat.le_refl _) _).trans (hb.mono (by simp))
  clear hw hz hb
  have d0 : (w'.setCell ⟨w.heap.size, 0, none⟩ (.int .u8 b0.toNat)).cell? ⟨w.heap.size, 0, none⟩ = some (.int .u8 b0.toNat) := World.cell?_setCell_same _ _ _ (u := .int .u8 0) (by go_simp)
  have d1 : ((w'.setCell ⟨w.heap.size, 0, none⟩ (.int .u8 b0.toNat)).setCell ⟨w.heap.size, 1, none⟩ (.int .u8 b1.toNat)).cell? ⟨w.heap.size, 1, none⟩ = some (.int .u8 b1.toNat) := World.cell?_setCell_same _ _ _ (u := .int .u8 0) (by go_simp)
  have d2 : (((w'.setCell ⟨w.heap.size, 0, none⟩ (.int .u8 b0.toNat)).setCell ⟨w.heap.size, 1, none⟩ (.int .u8 b1.toNat)).setCell ⟨w.heap.size, 2, none⟩ (.int .u8 b2.toNat)).cell? ⟨w.heap.size, 2, none⟩ = some (.int .u8 b2.toNat) := World.cell?_setCell_same _ _ _ (u := .int .u8 0) (by go_simp)
  have d3 : ((((w'.setCell ⟨w.heap.size, 0, none⟩ (.int .u8 b0.toNat)).setCell ⟨w.heap.size, 1, none⟩ (.int .u8 b1.toNat)).setCell ⟨w.heap.size, 2, none⟩ (.int .u8 b2.toNat)).setCell ⟨w.heap.size, 3, none⟩ (.int .u8 b3.toNat)).cell? ⟨w.heap.size, 3, none⟩ = some (.int .u8 b3.toNat) := World.cell?_setCell_same _ _ _ (u := .int .u8 0) (by go_simp)
  have d4 : (((((w'.setCell ⟨w.heap.size, 0, none⟩ (.int .u8 b0.toNat)).setCell ⟨w.heap.size, 1, none⟩ (.int .u8 b1.toNat)).setCell ⟨w.heap.size, 2, none⟩ (.int .u8 b2.toNat)).setCell ⟨w.heap.size, 3, none⟩ (.int .u8 b3.toNat)).setCell ⟨w.heap.size, 4, none⟩ (.int .u8 b4.toNat)).cell? ⟨w.heap.size, 4, none⟩ = some (.int .u8 b4.toNat) := World.cell?_setCell_same _ _ _ (u := .int .u8 0) (by go_simp)
  have d5 : ((((((w'.setCell ⟨w.heap.size, 0, none⟩ (.int .u8 b0.toNat)).setCell ⟨w.heap.size, 1, none⟩ (.int .u8 b1.toNat)).setCell ⟨w.heap.size, 2, none⟩ (.int .u8 b2.toNat)).setCell ⟨w.heap.size, 3, none⟩ (.int .u8 b3.toNat)).setCell ⟨w.heap.size, 4, none⟩ (.int .u8 b4.toNat)).setCell ⟨w.heap.size, 5, none⟩ (.int .u8 b5.toNat)).cell? ⟨w.heap.size, 5, none⟩ = some (.int .u8 b5.toNat) := World.cell?_setCell_same _ _ _ (u := .int .u8 0) (by go_simp)
  unfold six
  go_wp2
  refine bodyPost_ret (by simp [results, Try.results43, go_sem, d0, d1, d2, d3, d4, d5]; try rfl) rfl ?_
  refine ⟨_, _, _, _, _, _, hf, rfl, ?_⟩
  exact (((((hb0.setCell (by simp) _).setCell (by simp) _).setCell (by simp) _).setCell (by simp) _).setCell (by simp) _).setCell (by simp) _

/-- The seventeen bytes of a long answer. -/
def longOf (l : List B8) : List B8 := (63#8 :: l).set 16 (l.getD 15 0 ||| 1#8)
end Go.Proofs.Ytbnjijlpbeplmaa.FrR
