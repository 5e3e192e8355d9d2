/- Contracts of geom's Decode: its walk. -/
import Derived.Test.YtbnjijlpbeplmaaGeoQ
namespace Go.Proofs.Ytbnjijlpbeplmaa.GeoS
open Go.ChangeShapes Go.WideShapes Go.ChangeAt Go.RowKit
open GeoM GeoC GeoD GeoE GeoR TokA TokB GeoN GeoP GeoQ
set_option linter.unusedVariables false
set_option maxHeartbeats 2000000

set_option maxRecDepth 100000 in
theorem decFullW (b off c : Nat) (l : List Y8) (f : Nat → Int) (E : Int) (w : World) (hE : E = 0 ∨ E = 1) (hf : ∀ k, k < 9 → num l k = f k) (hb : b < w.heap.size)
    (hc : ∀ i, i < 36 → w.cell? ⟨b, off + i, none⟩ = some (.int .u8 (l.getD i 0).toNat))
    (HK : ∀ w, Calls Try.prog 16 #[.agg #[.int .i64 (f 0), .int .i64 (f 1), .int .i64 (f 2), .int .i64 (f 3), .int .i64 (f 4), .int .i64 (f 5), .int .i64 (f 6), .int .i64 (f 7), .int .i64 (f 8)]] w fun e w' => e = .returned (.int .i64 E) ∧ Below w.heap.size w w') :
    Calls Try.prog 13 #[.slice (some ⟨b, off, none⟩) 36 c] w fun e w' => e = .returned (.tuple #[if E = 0 then .agg #[.int .i64 (f 0), .int .i64 (f 1), .int .i64 (f 2), .int .i64 (f 3), .int .i64 (f 4), .int .i64 (f 5), .int .i64 (f 6), .int .i64 (f 7), .int .i64 (f 8)] else cv nil9, .int .i64 (if E = 0 then 0 else 24)]) ∧ Below w.heap.size w w' := by
  obtain ⟨w1, hw1⟩ : ∃ w1, w1 = w.alloc (.cells #[.int .i64 0, .int .i64 0, .int .i64 0, .int .i64 0, .int .i64 0, .int .i64 0, .int .i64 0, .int .i64 0, .int .i64 0] 23) := ⟨_, rfl⟩
  obtain ⟨w2, hw2⟩ : ∃ w2, w2 = w1.alloc (.cells #[.int .i64 0, .int .i64 0, .int .i64 0, .int .i64 0, .int .i64 0, .int .i64 0, .int .i64 0, .int .i64 0, .int .i64 0] 108) := ⟨_, rfl⟩
  have s1 : w1.heap.size = w.heap.size + 1 := by rw [hw1]; simp
  have e1 : Mem.Blk w1 w.heap.size 23 #[.int .i64 0, .int .i64 0, .int .i64 0, .int .i64 0, .int .i64 0, .int .i64 0, .int .i64 0, .int .i64 0, .int .i64 0] := by rw [hw1]; exact Mem.Blk.new w 23 _
  have e2 : Mem.Blk w2 w.heap.size 23 #[.int .i64 0, .int .i64 0, .int .i64 0, .int .i64 0, .int .i64 0, .int .i64 0, .int .i64 0, .int .i64 0, .int .i64 0] := by rw [hw2]; exact e1.alloc _
  have a2 : Mem.Blk w2 (w.heap.size + 1) 108 (arr f 0) := by rw [hw2, ← s1]; exact Mem.Blk.new w1 108 _
  have D2 : Below w.heap.size w w2 := by rw [hw2, hw1]; exact ((Below.refl _ _).alloc (Nat.le_refl _) _).alloc (by simp) _
  have HC : Hid (∀ wr, Below w.heap.size w wr → ∀ i, i < 36 → wr.cell? ⟨b, off + i, none⟩ = some (.int .u8 (l.getD i 0).toNat)) := Lib.hid fun wr hbl i hi => (hbl.cell (p := ⟨b, off + i, none⟩) hb).trans (hc i hi)
  have HF := Lib.hid hf
  have HST := Lib.hid (fun k h => arr_step f k h)
  replace HK := Lib.hid HK
  replace e2 := Lib.hid e2
  replace a2 := Lib.hid a2
  replace D2 := Lib.hid D2
  replace hE := Lib.hid hE
  clear e1 hc hf hb
  go_enter Try.func13, Try.ntmps13
  go_wp2_with fail
  rw [← hw1, ← hw2]
  replace hw1 := Lib.hid hw1
  replace hw2 := Lib.hid hw2
  go_loopw [5, 11, 12] (fun _ i _ wr => ∃ k : Nat, k ≤ 9 ∧ i = .int .i64 (k : Int) ∧ Mem.Blk wr (w.heap.size + 1) 108 (arr f k) ∧ Mem.Blk wr w.heap.size 23 #[.int .i64 0, .int .i64 0, .int .i64 0, .int .i64 0, .int .i64 0, .int .i64 0, .int .i64 0, .int .i64 0, .int .i64 0] ∧ Below w.heap.size w wr) (fun _ i _ _ => 9 - (intOf i).toNat)
  case atStart => exact ⟨0, by omega, rfl, a2.out, e2.out, D2.out⟩
  case round =>
    obtain ⟨k, hk, rfl, ha, he, hbl⟩ := hrel
    by_cases hlt : k < 9
    · have hv := HF.out k hlt
      obtain ⟨q0, hq0⟩ : ∃ q, q = 4 * k := ⟨_, rfl⟩
      obtain ⟨q1, hq1⟩ : ∃ q, q = 4 * k + 1 := ⟨_, rfl⟩
      obtain ⟨q2, hq2⟩ : ∃ q, q = 4 * k + 2 := ⟨_, rfl⟩
      obtain ⟨q3, hq3⟩ : ∃ q, q = 4 * k + 3 := ⟨_, rfl⟩
      have h0 := HC.out wr.drew hbl.drew q0 (by omega)
      have h1 := HC.out wr.drew hbl.drew q1 (by omega)
      have h2 := HC.out wr.drew hbl.drew q2 (by omega)
      have h3 := HC.out wr.drew hbl.drew q3 (by omega)
      have m0 : IntKind.i64.wrap (4 * (k : Int)) = (q0 : Int) := by rw [IntWalk.i64_in _ (by omega)]; omega
      have m1 : IntKind.i64.wrap ((q0 : Int) + 1) = (q1 : Int) := by rw [IntWalk.i64_in _ (by omega)]; omega
      have m2 : IntKind.i64.wrap ((q0 : Int) + 2) = (q2 : Int) := by rw [IntWalk.i64_in _ (by omega)]; omega
      have m3 : IntKind.i64.wrap ((q0 : Int) + 3) = (q3 : Int) := by rw [IntWalk.i64_in _ (by omega)]; omega
      have l0 : (q0 : Int) < 36 := by omega
      have l1 : (q1 : Int) < 36 := by omega
      have l2 : (q2 : Int) < 36 := by omega
      have l3 : (q3 : Int) < 36 := by omega
      unfold num at hv
      rw [← hq3, ← hq2, ← hq1, ← hq0] at hv
      clear hq0 hq1 hq2 hq3
      have hx0 := (l.getD q0 0).isLt
      have hx1 := (l.getD q1 0).isLt
      have hx2 := (l.getD q2 0).isLt
      have hx3 := (l.getD q3 0).isLt
      generalize (l.getD q0 0).toNat = x0 at *
      generalize (l.getD q1 0).toNat = x1 at *
      generalize (l.getD q2 0).toNat = x2 at *
      generalize (l.getD q3 0).toNat = x3 at *
      have o1 := or1 (x0 : Int) (x1 : Int) (by omega) (by omega)
      have o2 := or2 ((x0 : Int) + (x1 : Int) * 256) (x2 : Int) (by omega) (by omega)
      have o3 := or3 ((x0 : Int) + (x1 : Int) * 256 + (x2 : Int) * 65536) (x3 : Int) (by omega) (by omega)
      have u0 : IntKind.u32.wrap (x0 : Int) = (x0 : Int) := by rw [IntKind.wrap_u32]; omega
      have u1 : IntKind.u32.wrap (x1 : Int) = (x1 : Int) := by rw [IntKind.wrap_u32]; omega
      have u2 : IntKind.u32.wrap (x2 : Int) = (x2 : Int) := by rw [IntKind.wrap_u32]; omega
      have u3 : IntKind.u32.wrap (x3 : Int) = (x3 : Int) := by rw [IntKind.wrap_u32]; omega
      have v1 : IntKind.u32.wrap ((x1 : Int) * 256) = (x1 : Int) * 256 := by rw [IntKind.wrap_u32]; omega
      have v2 : IntKind.u32.wrap ((x2 : Int) * 65536) = (x2 : Int) * 65536 := by rw [IntKind.wrap_u32]; omega
      have v3 : IntKind.u32.wrap ((x3 : Int) * 16777216) = (x3 : Int) * 16777216 := by rw [IntKind.wrap_u32]; omega
      have y1 : IntKind.i64.wrap ((x1 : Int) * 256) = (x1 : Int) * 256 := IntWalk.i64_in _ (by omega)
      have y2 : IntKind.i64.wrap ((x2 : Int) * 65536) = (x2 : Int) * 65536 := IntWalk.i64_in _ (by omega)
      have y3 : IntKind.i64.wrap ((x3 : Int) * 16777216) = (x3 : Int) * 16777216 := IntWalk.i64_in _ (by omega)
      have z1 : IntKind.i64.wrap ((x0 : Int) + (x1 : Int) * 256) = (x0 : Int) + (x1 : Int) * 256 := IntWalk.i64_in _ (by omega)
      have z2 : IntKind.i64.wrap ((x0 : Int) + (x1 : Int) * 256 + (x2 : Int) * 65536) = (x0 : Int) + (x1 : Int) * 256 + (x2 : Int) * 65536 := IntWalk.i64_in _ (by omega)
      have z3 : IntKind.i64.wrap ((x0 : Int) + (x1 : Int) * 256 + (x2 : Int) * 65536 + (x3 : Int) * 16777216) = (x0 : Int) + (x1 : Int) * 256 + (x2 : Int) * 65536 + (x3 : Int) * 16777216 := IntWalk.i64_in _ (by omega)
      have hst := HST.out k hlt
      replace hv := Lib.hid hv
      replace hst := Lib.hid hst
      have had := ha.drew
      have hcell : wr.drew.cell? ⟨w.heap.size + 1, k, none⟩ = some (.int .i64 0) := by
        rw [had.cell k]
        obtain rfl | rfl | rfl | rfl | rfl | rfl | rfl | rfl | rfl := nine_of hlt
        all_goals rfl
      have hfr := had.frozen k
      have hP : Hid (Mem.Blk (wr.drew.setCell ⟨w.heap.size + 1, k, none⟩ (.int .i64 (f k))) (w.heap.size + 1) 108 (arr f (k + 1))) := Lib.hid (by rw [← hst.out]; exact had.put k _)
      have hQ : Hid (Mem.Blk (wr.drew.setCell ⟨w.heap.size + 1, k, none⟩ (.int .i64 (f k))) w.heap.size 23 #[.int .i64 0, .int .i64 0, .int .i64 0, .int .i64 0, .int .i64 0, .int .i64 0, .int .i64 0, .int .i64 0, .int .i64 0]) := Lib.hid (Mem.Blk.far he.drew (p := ⟨w.heap.size + 1, k, none⟩) (by simp) _)
      have hR : Hid (Below w.heap.size w (wr.drew.setCell ⟨w.heap.size + 1, k, none⟩ (.int .i64 (f k)))) := Lib.hid (hbl.drew.setCell (p := ⟨w.heap.size + 1, k, none⟩) (by simp) _)
      have hlt' : (k : Int) < 9 := by omega
      clear had
      go_wp2_with fail
      refine wp_region_still_tail 36 (by kernel_rfl) (by kernel_rfl) ?_
      simp only [List.take_succ_cons, List.take_zero, List.drop_succ_cons, List.drop_zero]
      change wpStill _ _ (World.drew _) (fun a' => wpList _ _ _ _ a' (World.drew _)) _ _
      repeat still_step
      try refine wpStill_nil ?_
      change wpList _ _ _ _ _ (World.drew _)
      go_wp2
      go_roundw
      case rel => exact ⟨k + 1, by omega, by go_num, by rw [hv.out]; exact hP.out, by rw [hv.out]; exact hQ.out, by rw [hv.out]; exact hR.out⟩
      case measure => simp [intOf]; omega
    · obtain rfl : k = 9 := by omega
      have g0 := ha.cell 0
      have g1 := ha.cell 1
      have g2 := ha.cell 2
      have g3 := ha.cell 3
      have g4 := ha.cell 4
      have g5 := ha.cell 5
      have g6 := ha.cell 6
      have g7 := ha.cell 7
      have g8 := ha.cell 8
      simp only [arr, List.getElem?_toArray, List.getElem?_cons_succ, List.getElem?_cons_zero, Nat.reduceLT, if_true] at g0 g1 g2 g3 g4 g5 g6 g7 g8
      obtain ⟨wq, hwq⟩ : ∃ wq, wq = wr.alloc (.cells #[.int .i64 (f 0), .int .i64 (f 1), .int .i64 (f 2), .int .i64 (f 3), .int .i64 (f 4), .int .i64 (f 5), .int .i64 (f 6), .int .i64 (f 7), .int .i64 (f 8)] 23) := ⟨_, rfl⟩
      have q1 : Mem.Blk wq wr.heap.size 23 #[.int .i64 (f 0), .int .i64 (f 1), .int .i64 (f 2), .int .i64 (f 3), .int .i64 (f 4), .int .i64 (f 5), .int .i64 (f 6), .int .i64 (f 7), .int .i64 (f 8)] := by rw [hwq]; exact Mem.Blk.new wr 23 _
      have q2 : Mem.Blk wq w.heap.size 23 #[.int .i64 0, .int .i64 0, .int .i64 0, .int .i64 0, .int .i64 0, .int .i64 0, .int .i64 0, .int .i64 0, .int .i64 0] := by rw [hwq]; exact he.alloc _
      have q3 : Below w.heap.size w wq := by rw [hwq]; exact hbl.alloc hbl.size _
      replace q1 := Lib.hid q1
      replace q2 := Lib.hid q2
      replace q3 := Lib.hid q3
      obtain ⟨k0, k1, k2, k3, k4, k5, k6, k7, k8⟩ := nine q1.out
      rw [hwq] at k0 k1 k2 k3 k4 k5 k6 k7 k8
      go_wp2_with fail
      refine (HK.out _).mono ?_
      rintro e w4 ⟨rfl, b4⟩
      rw [← hwq] at b4
      have r1 := Mem.Blk.below q1.out b4 q1.out.lt
      have r2 := Lib.hid (Mem.Blk.below q2.out b4 q2.out.lt)
      have r3 := Lib.hid (q3.out.trans (b4.mono q3.out.size))
      clear k0 k1 k2 k3 k4 k5 k6 k7 k8 b4
      obtain ⟨k0, k1, k2, k3, k4, k5, k6, k7, k8⟩ := nine r1
      rcases hE.out with rfl | rfl
      · go_wp2_with (first | ((with_reducible show wpList _ _ _ (Oper.mk _ (Op.store 23 (.tmp 2) (.tmp 74)) _ _ _ _ :: _) _ _); refine Mem.storeBlk 23 (.tmp 2) (.tmp 74) rfl w.heap.size rfl _ #[.int .i64 (f 0), .int .i64 (f 1), .int .i64 (f 2), .int .i64 (f 3), .int .i64 (f 4), .int .i64 (f 5), .int .i64 (f 6), .int .i64 (f 7), .int .i64 (f 8)] rfl 23 r2.out i23 rfl (by kernel_rfl) w.heap.size w r3.out (Nat.le_refl _) rfl ?_; intro w5 hB5 hb5))
        refine bodyPost_ret (Mem.results_mid2 Try.results13 _ _ w.heap.size #[.int .i64 (f 0), .int .i64 (f 1), .int .i64 (f 2), .int .i64 (f 3), .int .i64 (f 4), .int .i64 (f 5), .int .i64 (f 6), .int .i64 (f 7), .int .i64 (f 8)] _ rfl (Mem.Blk.range hB5) Try.underlying23 rfl i23) rfl ⟨rfl, hb5⟩
      · go_wp2_with (first | ((with_reducible show wpList _ _ _ (Oper.mk _ (Op.store 23 (.tmp 2) (.tmp 73)) _ _ _ _ :: _) _ _); refine Mem.storeBlk 23 (.tmp 2) (.tmp 73) rfl w.heap.size rfl _ #[.int .i64 0, .int .i64 0, .int .i64 0, .int .i64 0, .int .i64 0, .int .i64 0, .int .i64 0, .int .i64 0, .int .i64 0] rfl 23 r2.out i23 rfl (by kernel_rfl) w.heap.size w r3.out (Nat.le_refl _) rfl ?_; intro w5 hB5 hb5))
        refine bodyPost_ret (Mem.results_mid2 Try.results13 _ _ w.heap.size #[.int .i64 0, .int .i64 0, .int .i64 0, .int .i64 0, .int .i64 0, .int .i64 0, .int .i64 0, .int .i64 0, .int .i64 0] _ rfl (Mem.Blk.range hB5) Try.underlying23 rfl i23) rfl ⟨rfl, hb5⟩
end Go.Proofs.Ytbnjijlpbeplmaa.GeoS
