/- Contracts of geom: the sizes of the areas. -/
import Derived.Test.YtcggghiionlngaaGeoE
import Derived.Laws.ResultCell
namespace Go.Proofs.Ytcggghiionlngaa.GeoF
open Go.ChangeShapes Go.WideShapes Go.ChangeAt Go.RowKit
open GeoM GeoC GeoD GeoE
set_option linter.unusedVariables false
set_option maxHeartbeats 2000000
theorem mul_bd {z g : Int} (hz : 0 ≤ z ∧ z ≤ 32) (hg : 1 ≤ g ∧ g ≤ 16384) : 0 ≤ z * g ∧ z * g ≤ 524288 := by
  constructor
  · exact Int.mul_nonneg hz.1 (by omega)
  · have := Int.mul_le_mul hz.2 hg.2 (by omega) (by omega)
    omega
theorem i36 : (Try.prog.info? 76).map (·.size) = some 8 := by kernel_rfl
theorem ix0 (z0 z1 z2 z3 : Int) (w : World) : (Instr.index 24 (.agg #[.int .i64 z0, .int .i64 z1, .int .i64 z2, .int .i64 z3]) (.int .i64 0)).run Try.prog w = .ok (.int .i64 z0) w := by kernel_rfl
theorem ix1 (z0 z1 z2 z3 : Int) (w : World) : (Instr.index 24 (.agg #[.int .i64 z0, .int .i64 z1, .int .i64 z2, .int .i64 z3]) (.int .i64 1)).run Try.prog w = .ok (.int .i64 z1) w := by kernel_rfl
theorem ix2 (z0 z1 z2 z3 : Int) (w : World) : (Instr.index 24 (.agg #[.int .i64 z0, .int .i64 z1, .int .i64 z2, .int .i64 z3]) (.int .i64 2)).run Try.prog w = .ok (.int .i64 z2) w := by kernel_rfl
theorem ix3 (z0 z1 z2 z3 : Int) (w : World) : (Instr.index 24 (.agg #[.int .i64 z0, .int .i64 z1, .int .i64 z2, .int .i64 z3]) (.int .i64 3)).run Try.prog w = .ok (.int .i64 z3) w := by kernel_rfl

set_option maxRecDepth 100000 in
theorem sizesW (b p s u o r g k x z0 z1 z2 z3 : Int) (hu : 1 ≤ u ∧ u ≤ 16384) (hg : 1 ≤ g ∧ g ≤ 16384) (hz : (0 ≤ z0 ∧ z0 ≤ 32) ∧ (0 ≤ z1 ∧ z1 ≤ 32) ∧ (0 ≤ z2 ∧ z2 ≤ 32) ∧ (0 ≤ z3 ∧ z3 ≤ 32)) (w : World) :
    Calls Try.prog 51 #[.agg #[.int .i64 b, .int .i64 p, .int .i64 s, .int .i64 u, .int .i64 o, .int .i64 r, .int .i64 g, .int .i64 k, .int .i64 x], .agg #[.int .i64 z0, .int .i64 z1, .int .i64 z2, .int .i64 z3]] w fun e w' => e = .returned (.agg #[.int .i64 (u - z0 * g - z1 * g - z2 * g - z3 * g), .int .i64 (o), .int .i64 (o), .int .i64 (r), .int .i64 (z0 * g), .int .i64 (z1 * g), .int .i64 (z2 * g), .int .i64 (z3 * g)]) ∧ Below w.heap.size w w' := by
  obtain ⟨w1, hw1⟩ : ∃ w1, w1 = w.alloc (.cells #[.int .i64 b, .int .i64 p, .int .i64 s, .int .i64 u, .int .i64 o, .int .i64 r, .int .i64 g, .int .i64 k, .int .i64 x] 23) := ⟨_, rfl⟩
  obtain ⟨w2, hw2⟩ : ∃ w2, w2 = w1.alloc (.cells #[.int .i64 z0, .int .i64 z1, .int .i64 z2, .int .i64 z3] 24) := ⟨_, rfl⟩
  obtain ⟨w3, hw3⟩ : ∃ w3, w3 = w2.alloc (.cells #[.int .i64 0, .int .i64 0, .int .i64 0, .int .i64 0, .int .i64 0, .int .i64 0, .int .i64 0, .int .i64 0] 76) := ⟨_, rfl⟩
  have s1 : w1.heap.size = w.heap.size + 1 := by rw [hw1]; simp
  have s2 : w2.heap.size = w.heap.size + 2 := by rw [hw2]; simp [s1]
  have s3 : w3.heap.size = w.heap.size + 3 := by rw [hw3]; simp [s2]
  have c1 : Mem.Blk w1 w.heap.size 23 #[.int .i64 b, .int .i64 p, .int .i64 s, .int .i64 u, .int .i64 o, .int .i64 r, .int .i64 g, .int .i64 k, .int .i64 x] := by rw [hw1]; exact Mem.Blk.new w 23 _
  have c2 : Mem.Blk w2 w.heap.size 23 #[.int .i64 b, .int .i64 p, .int .i64 s, .int .i64 u, .int .i64 o, .int .i64 r, .int .i64 g, .int .i64 k, .int .i64 x] := by rw [hw2]; exact c1.alloc _
  have c3 : Mem.Blk w3 w.heap.size 23 #[.int .i64 b, .int .i64 p, .int .i64 s, .int .i64 u, .int .i64 o, .int .i64 r, .int .i64 g, .int .i64 k, .int .i64 x] := by rw [hw3]; exact c2.alloc _
  have f3 : Mem.Blk w3 (w.heap.size + 2) 76 #[.int .i64 0, .int .i64 0, .int .i64 0, .int .i64 0, .int .i64 0, .int .i64 0, .int .i64 0, .int .i64 0] := by rw [hw3, ← s2]; exact Mem.Blk.new w2 76 _
  have g4 : Mem.Blk (w3.alloc (.cells #[.int .i64 (u), .int .i64 (o), .int .i64 (o), .int .i64 (r), .int .i64 (0), .int .i64 (0), .int .i64 (0), .int .i64 (0)] 76)) (w.heap.size + 3) 76 #[.int .i64 (u), .int .i64 (o), .int .i64 (o), .int .i64 (r), .int .i64 (0), .int .i64 (0), .int .i64 (0), .int .i64 (0)] := by rw [← s3]; exact Mem.Blk.new w3 76 _
  have D1 : Below w.heap.size w w1 := by rw [hw1]; exact (Below.refl _ _).alloc (Nat.le_refl _) _
  have D2 : Below w.heap.size w w2 := by rw [hw2]; exact D1.alloc D1.size _
  have D3 : Below w.heap.size w w3 := by rw [hw3]; exact D2.alloc D2.size _
  have E3 : Below (w.heap.size + 3) w3 (w3.alloc (.cells #[.int .i64 (u), .int .i64 (o), .int .i64 (o), .int .i64 (r), .int .i64 (0), .int .i64 (0), .int .i64 (0), .int .i64 (0)] 76)) := (Below.refl _ _).alloc (by omega) _
  have C4 := nine (Mem.Blk.alloc c3 (.cells #[.int .i64 0, .int .i64 0, .int .i64 0, .int .i64 0, .int .i64 0, .int .i64 0, .int .i64 0, .int .i64 0] 76))
  clear c1 c2
  replace c3 := Lib.hid c3
  replace f3 := Lib.hid f3
  replace g4 := Lib.hid g4
  replace D3 := Lib.hid D3
  replace E3 := Lib.hid E3
  clear D1 D2
  obtain ⟨k0, k1, k2, k3, k4, k5, k6, k7, k8⟩ := C4
  go_enter Try.func51, Try.ntmps51
  go_wp2_with fail
  rw [← hw1, ← hw2, ← hw3]
  replace hw1 := Lib.hid hw1
  replace hw2 := Lib.hid hw2
  replace hw3 := Lib.hid hw3
  clear k0 k1 k2 k3 k4 k5 k6 k7 k8
  go_loopw [6, 7, 18] (fun _ _ i wr => (i = .int .i64 0 ∧ Mem.Blk wr (w.heap.size + 1 + 1 + 1) 76 #[.int .i64 (u), .int .i64 (o), .int .i64 (o), .int .i64 (r), .int .i64 (0), .int .i64 (0), .int .i64 (0), .int .i64 (0)] ∧ Below (w.heap.size + 1 + 1 + 1) w3 wr) ∨ (i = .int .i64 1 ∧ Mem.Blk wr (w.heap.size + 1 + 1 + 1) 76 #[.int .i64 (u - z0 * g), .int .i64 (o), .int .i64 (o), .int .i64 (r), .int .i64 (z0 * g), .int .i64 (0), .int .i64 (0), .int .i64 (0)] ∧ Below (w.heap.size + 1 + 1 + 1) w3 wr) ∨ (i = .int .i64 2 ∧ Mem.Blk wr (w.heap.size + 1 + 1 + 1) 76 #[.int .i64 (u - z0 * g - z1 * g), .int .i64 (o), .int .i64 (o), .int .i64 (r), .int .i64 (z0 * g), .int .i64 (z1 * g), .int .i64 (0), .int .i64 (0)] ∧ Below (w.heap.size + 1 + 1 + 1) w3 wr) ∨ (i = .int .i64 3 ∧ Mem.Blk wr (w.heap.size + 1 + 1 + 1) 76 #[.int .i64 (u - z0 * g - z1 * g - z2 * g), .int .i64 (o), .int .i64 (o), .int .i64 (r), .int .i64 (z0 * g), .int .i64 (z1 * g), .int .i64 (z2 * g), .int .i64 (0)] ∧ Below (w.heap.size + 1 + 1 + 1) w3 wr) ∨ (i = .int .i64 4 ∧ Mem.Blk wr (w.heap.size + 1 + 1 + 1) 76 #[.int .i64 (u - z0 * g - z1 * g - z2 * g - z3 * g), .int .i64 (o), .int .i64 (o), .int .i64 (r), .int .i64 (z0 * g), .int .i64 (z1 * g), .int .i64 (z2 * g), .int .i64 (z3 * g)] ∧ Below (w.heap.size + 1 + 1 + 1) w3 wr)) (fun _ _ i _ => (4 - intOf i).toNat)
  case atStart => exact .inl ⟨rfl, g4.out, E3.out⟩
  case round =>
    rcases hrel with ⟨rfl, hB, hb⟩ | ⟨rfl, hB, hb⟩ | ⟨rfl, hB, hb⟩ | ⟨rfl, hB, hb⟩ | ⟨rfl, hB, hb⟩
    · obtain ⟨k0, k1, k2, k3, k4, k5, k6, k7, k8⟩ := nine (Mem.Blk.below c3.out hb (by omega))
      have h0 := hB.cell 0
      have h4 := hB.cell 4
      have f0 := hB.frozen 0
      have f4 := hB.frozen 4
      have hput : Hid (Mem.Blk ((wr.setCell ⟨w.heap.size + 1 + 1 + 1, 4, none⟩ (.int .i64 (z0 * g))).setCell ⟨w.heap.size + 1 + 1 + 1, 0, none⟩ (.int .i64 (u - z0 * g))) (w.heap.size + 1 + 1 + 1) 76 #[.int .i64 (u - z0 * g), .int .i64 (o), .int .i64 (o), .int .i64 (r), .int .i64 (z0 * g), .int .i64 (0), .int .i64 (0), .int .i64 (0)]) := Lib.hid ((hB.put 4 (.int .i64 (z0 * g))).put 0 (.int .i64 (u - z0 * g)))
      have hbel : Hid (Below (w.heap.size + 1 + 1 + 1) w3 ((wr.setCell ⟨w.heap.size + 1 + 1 + 1, 4, none⟩ (.int .i64 (z0 * g))).setCell ⟨w.heap.size + 1 + 1 + 1, 0, none⟩ (.int .i64 (u - z0 * g)))) := Lib.hid ((hb.setCell (p := ⟨w.heap.size + 1 + 1 + 1, 4, none⟩) (Nat.le_refl _) _).setCell (p := ⟨w.heap.size + 1 + 1 + 1, 0, none⟩) (Nat.le_refl _) _)
      simp only [List.getElem?_toArray, List.getElem?_cons_succ, List.getElem?_cons_zero] at h0 h4
      have m0 := mul_bd hz.1 hg
      have m1 := mul_bd hz.2.1 hg
      have m2 := mul_bd hz.2.2.1 hg
      have m3 := mul_bd hz.2.2.2 hg
      have ix := ix0 z0 z1 z2 z3
      clear hB hb
      go_wp2
      go_roundw
      case rel => exact .inr (.inl ⟨rfl, hput.out, hbel.out⟩)
      case measure => simp [intOf]
    · obtain ⟨k0, k1, k2, k3, k4, k5, k6, k7, k8⟩ := nine (Mem.Blk.below c3.out hb (by omega))
      have h0 := hB.cell 0
      have h4 := hB.cell 5
      have f0 := hB.frozen 0
      have f4 := hB.frozen 5
      have hput : Hid (Mem.Blk ((wr.setCell ⟨w.heap.size + 1 + 1 + 1, 5, none⟩ (.int .i64 (z1 * g))).setCell ⟨w.heap.size + 1 + 1 + 1, 0, none⟩ (.int .i64 (u - z0 * g - z1 * g))) (w.heap.size + 1 + 1 + 1) 76 #[.int .i64 (u - z0 * g - z1 * g), .int .i64 (o), .int .i64 (o), .int .i64 (r), .int .i64 (z0 * g), .int .i64 (z1 * g), .int .i64 (0), .int .i64 (0)]) := Lib.hid ((hB.put 5 (.int .i64 (z1 * g))).put 0 (.int .i64 (u - z0 * g - z1 * g)))
      have hbel : Hid (Below (w.heap.size + 1 + 1 + 1) w3 ((wr.setCell ⟨w.heap.size + 1 + 1 + 1, 5, none⟩ (.int .i64 (z1 * g))).setCell ⟨w.heap.size + 1 + 1 + 1, 0, none⟩ (.int .i64 (u - z0 * g - z1 * g)))) := Lib.hid ((hb.setCell (p := ⟨w.heap.size + 1 + 1 + 1, 5, none⟩) (Nat.le_refl _) _).setCell (p := ⟨w.heap.size + 1 + 1 + 1, 0, none⟩) (Nat.le_refl _) _)
      simp only [List.getElem?_toArray, List.getElem?_cons_succ, List.getElem?_cons_zero] at h0 h4
      have m0 := mul_bd hz.1 hg
      have m1 := mul_bd hz.2.1 hg
      have m2 := mul_bd hz.2.2.1 hg
      have m3 := mul_bd hz.2.2.2 hg
      have ix := ix1 z0 z1 z2 z3
      clear hB hb
      go_wp2
      go_roundw
      case rel => exact .inr (.inr (.inl ⟨rfl, hput.out, hbel.out⟩))
      case measure => simp [intOf]
    · obtain ⟨k0, k1, k2, k3, k4, k5, k6, k7, k8⟩ := nine (Mem.Blk.below c3.out hb (by omega))
      have h0 := hB.cell 0
      have h4 := hB.cell 6
      have f0 := hB.frozen 0
      have f4 := hB.frozen 6
      have hput : Hid (Mem.Blk ((wr.setCell ⟨w.heap.size + 1 + 1 + 1, 6, none⟩ (.int .i64 (z2 * g))).setCell ⟨w.heap.size + 1 + 1 + 1, 0, none⟩ (.int .i64 (u - z0 * g - z1 * g - z2 * g))) (w.heap.size + 1 + 1 + 1) 76 #[.int .i64 (u - z0 * g - z1 * g - z2 * g), .int .i64 (o), .int .i64 (o), .int .i64 (r), .int .i64 (z0 * g), .int .i64 (z1 * g), .int .i64 (z2 * g), .int .i64 (0)]) := Lib.hid ((hB.put 6 (.int .i64 (z2 * g))).put 0 (.int .i64 (u - z0 * g - z1 * g - z2 * g)))
      have hbel : Hid (Below (w.heap.size + 1 + 1 + 1) w3 ((wr.setCell ⟨w.heap.size + 1 + 1 + 1, 6, none⟩ (.int .i64 (z2 * g))).setCell ⟨w.heap.size + 1 + 1 + 1, 0, none⟩ (.int .i64 (u - z0 * g - z1 * g - z2 * g)))) := Lib.hid ((hb.setCell (p := ⟨w.heap.size + 1 + 1 + 1, 6, none⟩) (Nat.le_refl _) _).setCell (p := ⟨w.heap.size + 1 + 1 + 1, 0, none⟩) (Nat.le_refl _) _)
      simp only [List.getElem?_toArray, List.getElem?_cons_succ, List.getElem?_cons_zero] at h0 h4
      have m0 := mul_bd hz.1 hg
      have m1 := mul_bd hz.2.1 hg
      have m2 := mul_bd hz.2.2.1 hg
      have m3 := mul_bd hz.2.2.2 hg
      have ix := ix2 z0 z1 z2 z3
      clear hB hb
      go_wp2
      go_roundw
      case rel => exact .inr (.inr (.inr (.inl ⟨rfl, hput.out, hbel.out⟩)))
      case measure => simp [intOf]
    · obtain ⟨k0, k1, k2, k3, k4, k5, k6, k7, k8⟩ := nine (Mem.Blk.below c3.out hb (by omega))
      have h0 := hB.cell 0
      have h4 := hB.cell 7
      have f0 := hB.frozen 0
      have f4 := hB.frozen 7
      have hput : Hid (Mem.Blk ((wr.setCell ⟨w.heap.size + 1 + 1 + 1, 7, none⟩ (.int .i64 (z3 * g))).setCell ⟨w.heap.size + 1 + 1 + 1, 0, none⟩ (.int .i64 (u - z0 * g - z1 * g - z2 * g - z3 * g))) (w.heap.size + 1 + 1 + 1) 76 #[.int .i64 (u - z0 * g - z1 * g - z2 * g - z3 * g), .int .i64 (o), .int .i64 (o), .int .i64 (r), .int .i64 (z0 * g), .int .i64 (z1 * g), .int .i64 (z2 * g), .int .i64 (z3 * g)]) := Lib.hid ((hB.put 7 (.int .i64 (z3 * g))).put 0 (.int .i64 (u - z0 * g - z1 * g - z2 * g - z3 * g)))
      have hbel : Hid (Below (w.heap.size + 1 + 1 + 1) w3 ((wr.setCell ⟨w.heap.size + 1 + 1 + 1, 7, none⟩ (.int .i64 (z3 * g))).setCell ⟨w.heap.size + 1 + 1 + 1, 0, none⟩ (.int .i64 (u - z0 * g - z1 * g - z2 * g - z3 * g)))) := Lib.hid ((hb.setCell (p := ⟨w.heap.size + 1 + 1 + 1, 7, none⟩) (Nat.le_refl _) _).setCell (p := ⟨w.heap.size + 1 + 1 + 1, 0, none⟩) (Nat.le_refl _) _)
      simp only [List.getElem?_toArray, List.getElem?_cons_succ, List.getElem?_cons_zero] at h0 h4
      have m0 := mul_bd hz.1 hg
      have m1 := mul_bd hz.2.1 hg
      have m2 := mul_bd hz.2.2.1 hg
      have m3 := mul_bd hz.2.2.2 hg
      have ix := ix3 z0 z1 z2 z3
      clear hB hb
      go_wp2
      go_roundw
      case rel => exact .inr (.inr (.inr (.inr (⟨rfl, hput.out, hbel.out⟩))))
      case measure => simp [intOf]
    · have HB := Lib.hid hB
      have H2 : Hid (Mem.Blk wr (w.heap.size + 1 + 1) 76 #[.int .i64 0, .int .i64 0, .int .i64 0, .int .i64 0, .int .i64 0, .int .i64 0, .int .i64 0, .int .i64 0]) := Lib.hid (Mem.Blk.below f3.out hb (by omega))
      have HD : Hid (Below w.heap.size w wr) := Lib.hid (D3.out.trans (hb.mono (by omega)))
      have hBg : w.heap.size ≤ w.heap.size + 1 + 1 := by omega
      have hone : (#[.int .i64 (u - z0 * g - z1 * g - z2 * g - z3 * g), .int .i64 (o), .int .i64 (o), .int .i64 (r), .int .i64 (z0 * g), .int .i64 (z1 * g), .int .i64 (z2 * g), .int .i64 (z3 * g)] : Array Value).all (·.oneCell') = true := by kernel_rfl
      clear hB hb
      go_wp2_with (first
        | (refine Mem.loadBlk 76 (.tmp 5) rfl (w.heap.size + 1 + 1 + 1) rfl #[.int .i64 (u - z0 * g - z1 * g - z2 * g - z3 * g), .int .i64 (o), .int .i64 (o), .int .i64 (r), .int .i64 (z0 * g), .int .i64 (z1 * g), .int .i64 (z2 * g), .int .i64 (z3 * g)] 76 HB.out _ Try.underlying76 rfl i36 rfl ?_)
        | (refine Mem.storeBlk 76 (.tmp 4) (.tmp 38) rfl (w.heap.size + 1 + 1) rfl #[.int .i64 0, .int .i64 0, .int .i64 0, .int .i64 0, .int .i64 0, .int .i64 0, .int .i64 0, .int .i64 0] #[.int .i64 (u - z0 * g - z1 * g - z2 * g - z3 * g), .int .i64 (o), .int .i64 (o), .int .i64 (r), .int .i64 (z0 * g), .int .i64 (z1 * g), .int .i64 (z2 * g), .int .i64 (z3 * g)] rfl 76 H2.out i36 rfl hone w.heap.size w HD.out hBg rfl ?_
           intro w9 hg9 hb9))
      refine bodyPost_ret (results_cell_row Try.results51 _ _ (w.heap.size + 1 + 1) 76 _ (0, 0) _ rfl hg9 Try.underlying76 rfl i36) rfl ⟨rfl, hb9⟩


end Go.Proofs.Ytcggghiionlngaa.GeoF
