/- The document's frame, laid. -/
import Derived.Test.YtbnjijlpbeplmaaFrY
import Derived.Lib.Hide
import Derived.StillTail
import Derived.StillTactics
namespace Go.Proofs.Ytbnjijlpbeplmaa.FrZ
open Go.ChangeShapes Go.WideShapes Go.ChangeAt Go.RowKit
open CrcM CrcB CrcL CrcQ FrA FrB FrT FrD FrU
set_option linter.unusedVariables false
set_option maxHeartbeats 1000000
def fiveR (h : B8) (x : B32) : List B8 := [h, (x >>> 24).setWidth 8, (x >>> 16).setWidth 8, (x >>> 8).setWidth 8, x.setWidth 8]
theorem five_eq (f i : B8) (x : B32) : fiveR ((f <<< 6) ||| (i &&& 63#8)) x = five f i x := rfl
def W5 (w : World) (h : B8) (x : B32) : World := (w.alloc (.cells #[.int .u8 0, .int .u8 0, .int .u8 0, .int .u8 0, .int .u8 0, .int .u8 0] 64)).alloc (.cells #[.int .u8 h.toNat, .int .u8 ((x.toNat : Int) / 16777216), .int .u8 ((x.toNat : Int) / 65536 % 256), .int .u8 ((x.toNat : Int) / 256 % 256), .int .u8 ((x.toNat : Int) % 256)] 5)
theorem fresh5 (w : World) (h : B8) (x : B32) :
    (Rd (W5 w h x).drew (some ⟨w.heap.size + 1, 0, none⟩) (fiveR h x) ∧ (W5 w h x).drew.cell? ⟨w.heap.size + 1, 0, none⟩ = some (.int .u8 h.toNat) ∧ (W5 w h x).drew.cell? ⟨w.heap.size + 1, 1, none⟩ = some (.int .u8 ((x.toNat : Int) / 16777216)) ∧ (W5 w h x).drew.cell? ⟨w.heap.size + 1, 2, none⟩ = some (.int .u8 ((x.toNat : Int) / 65536 % 256)) ∧ (W5 w h x).drew.cell? ⟨w.heap.size + 1, 3, none⟩ = some (.int .u8 ((x.toNat : Int) / 256 % 256)) ∧ (W5 w h x).drew.cell? ⟨w.heap.size + 1, 4, none⟩ = some (.int .u8 ((x.toNat : Int) % 256))) ∧
    Mem.Blk (W5 w h x).drew w.heap.size 64 #[.int .u8 0, .int .u8 0, .int .u8 0, .int .u8 0, .int .u8 0, .int .u8 0] ∧ Below w.heap.size w (W5 w h x).drew := by
  have n5 := (Mem.Blk.new (w.alloc (.cells #[.int .u8 0, .int .u8 0, .int .u8 0, .int .u8 0, .int .u8 0, .int .u8 0] 64)) 5 #[.int .u8 h.toNat, .int .u8 ((x.toNat : Int) / 16777216), .int .u8 ((x.toNat : Int) / 65536 % 256), .int .u8 ((x.toNat : Int) / 256 % 256), .int .u8 ((x.toNat : Int) % 256)]).drew
  simp only [World.size_alloc] at n5
  have n64 := ((Mem.Blk.new w 64 #[.int .u8 0, .int .u8 0, .int .u8 0, .int .u8 0, .int .u8 0, .int .u8 0]).alloc (.cells #[.int .u8 h.toNat, .int .u8 ((x.toNat : Int) / 16777216), .int .u8 ((x.toNat : Int) / 65536 % 256), .int .u8 ((x.toNat : Int) / 256 % 256), .int .u8 ((x.toNat : Int) % 256)] 5)).drew
  refine ⟨⟨?_, n5.cell 0, n5.cell 1, n5.cell 2, n5.cell 3, n5.cell 4⟩, n64, (((Below.refl _ _).alloc (Nat.le_refl _) _).alloc (by simp) _).drew⟩
  have n6 := n5
  rw [num1, num2, num3, num4] at n6
  unfold W5
  rw [num1, num2, num3, num4]
  refine Rd.of_cells (ty := 5) (p := (0, 0)) n6 (by simp [fiveR, maxLen]) fun i hi => ?_
  have hi5 : i < 5 := hi
  match i, hi5 with
  | 0, _ => rfl
  | 1, _ => rfl
  | 2, _ => rfl
  | 3, _ => rfl
  | 4, _ => rfl
set_option maxRecDepth 100000 in
theorem layR (h : B8) (x : B32) (w : World) :
    Calls Try.prog 85 #[.int .u8 h.toNat, .int .u32 x.toNat] w fun e w' => e = .returned (six h ((x >>> 24).setWidth 8) ((x >>> 16).setWidth 8) ((x >>> 8).setWidth 8) (x.setWidth 8) ((sum7 (fiveR h x) <<< 1) ||| 1#8)) ∧ Below w.heap.size w w' := by
  have h3 := x.isLt
  have N1 := Lib.hid (num1 x)
  have N2 := Lib.hid (num2 x)
  have N3 := Lib.hid (num3 x)
  have N4 := Lib.hid (num4 x)
  have N5 := Lib.hid (num5 (sum7 (fiveR h x)))
  have hs := (sum7 (fiveR h x)).isLt
  obtain ⟨w1, hw1⟩ : ∃ w1, w1 = w.alloc (.cells #[.int .u8 0, .int .u8 0, .int .u8 0, .int .u8 0, .int .u8 0, .int .u8 0] 64) := ⟨_, rfl⟩
  go_enter Try.func85, Try.ntmps85
  go_wp2_with fail
  clear hw1 w1
  have HR := fresh5 w h x
  obtain ⟨⟨hR, k0, k1, k2, k3, k4⟩, hB, hD⟩ := HR
  replace hR := Lib.hid hR
  replace hB := Lib.hid hB
  replace hD := Lib.hid hD
  refine wp_region_still_tail 20 (by kernel_rfl) (by kernel_rfl) ?_
  simp only [List.take_succ_cons, List.take_zero, List.drop_succ_cons, List.drop_zero]
  have H7 : Hid (∀ n c, n = 5 → Calls Try.prog 95 #[.slice (some ⟨w.heap.size + 1, 0, none⟩) n c] (W5 w h x).drew fun e w' => e = .returned (.int .u8 (sum7 (fiveR h x)).toNat) ∧ w' = (W5 w h x).drew) := Lib.hid fun n c hn => (FrS.refSeven _ (fiveR h x) n c _ (by rw [hn]; rfl) hR.out).mono fun _ _ h => ⟨h.1, h.2.symm⟩
  have i64' : (Try.prog.info? 64).map (·.size) = some 6 := by kernel_rfl
  change wpStill _ _ (World.drew (W5 w h x)) (fun a' => wpList _ _ _ _ a' (World.drew (W5 w h x))) _ _
  obtain ⟨s7, hs7⟩ : ∃ s, s = sum7 (fiveR h x) := ⟨_, rfl⟩
  rw [← hs7] at H7 N5 hs
  replace hs7 := Lib.hid hs7
  generalize World.drew (W5 w h x) = wd at *
  iterate 16 still_step
  still_call (H7.out 5 _ rfl)
  repeat still_step
  try refine wpStill_nil ?_
  change wpList _ _ _ _ _ wd
  go_wp2_with (first | ((with_reducible show wpList _ _ _ (Oper.mk _ (Op.store 64 (.tmp 4) (.tmp 38)) _ _ _ _ :: _) _ _); refine Mem.storeBlk 64 (.tmp 4) (.tmp 38) rfl w.heap.size rfl _ _ rfl 64 hB.out i64' rfl (by kernel_rfl) w.heap.size w hD.out (Nat.le_refl _) rfl ?_; intro w5 hB5 hb5))
  obtain ⟨z0, z1, z2, z3, z4, z5, z6⟩ := sixCells hB5
  refine bodyPost_ret (by simp [results, Try.results85, go_sem, z0, z1, z2, z3, z4, z5]; try rfl) rfl ⟨?_, hb5⟩
  have N5' := N5.out
  rw [← IntKind.wrap_u8'] at N5'
  unfold six
  rw [N5', N1.out, N2.out, N3.out, N4.out, ← hs7.out]
end Go.Proofs.Ytbnjijlpbeplmaa.FrZ
