/- Areas: a setting's bytes as the document lays them; a setting as the document's. -/
import Derived.Test.YtcggghiionlngaaAreU
namespace Go.Proofs.Ytcggghiionlngaa.AreV
open Go.ChangeShapes Go.WideShapes Go.ChangeAt Go.RowKit
open Mem AreA AreL AreT AreK AreU
set_option linter.unusedVariables false
set_option maxHeartbeats 2000000
theorem i37 : (Try.prog.info? 37).map (·.size) = some 6 := by kernel_rfl

theorem ofS (s : Stt) (w : World) : Calls Try.prog 10 #[sv s] w fun e w' => e = .returned (sv s) ∧ Below w.heap.size w w' := by
  obtain ⟨z0, z1, z2, z3, e, d⟩ := s
  show Calls Try.prog 10 #[.agg #[.int .i64 z0, .int .i64 z1, .int .i64 z2, .int .i64 z3, .int .u8 e, .bool d]] w _
  go_enter Try.func10, Try.ntmps10
  go_wp2
  go_returns
  exact ⟨rfl, ((Below.refl _ _).alloc (Nat.le_refl _) _).alloc (by simp) _⟩

set_option maxRecDepth 100000 in
theorem encR (s : Stt) (hF : AreP.Fine s) (w : World) : Calls Try.prog 20 #[sv s] w fun e w' => ∃ a' c', e = .returned (.slice a' 18 c') ∧ Own w' w.heap.size (.slice a' 18 c') (enc s) ∧ Below w.heap.size w w' := by
  have he : 0 ≤ s.e ∧ s.e ≤ 255 := by simpa [Lit.wf, IntKind.min, IntKind.max, IntKind.signed, IntKind.bits] using hF.2.2.2.2
  have heb : s.e = ((bt s.e).toNat : Int) := by rw [bt_int]; omega
  obtain ⟨w1, hw1⟩ : ∃ w1, w1 = w.alloc (.cells (sc s) 37) := ⟨_, rfl⟩
  have s1 : w1.heap.size = w.heap.size + 1 := by rw [hw1]; simp
  have e1 : Mem.Blk w1 w.heap.size 37 (sc s) := by rw [hw1]; exact Mem.Blk.new w 37 _
  have D1 : Hid (Below w.heap.size w w1) := Lib.hid (by rw [hw1]; exact (Below.refl _ _).alloc (Nat.le_refl _) _)
  have HB : Hid (∀ wr, Below w1.heap.size w1 wr → Mem.Blk wr w.heap.size 37 (sc s)) := Lib.hid fun wr hb => e1.below hb e1.lt
  have HX := Lib.hid (fun k h => cell4 s k h)
  have HC : Hid (∀ wr, Below w1.heap.size w1 wr → ∀ k, k < 4 → wr.cell? ⟨w.heap.size, k, none⟩ = some (.int .i64 ((nums s).getD k 0))) := Lib.hid fun wr hb k hk => ((HB.out wr hb).cell k).trans (HX.out k hk)
  have HS := Lib.hid (fun k h => encTo_step s k h)
  have HL := Lib.hid (fun k h => encTo_length s k h)
  have HE1 : Hid (s.d = true → (encTo s 4 ++ [bt s.e]) ++ [1] = enc s) := Lib.hid (fun h => by unfold enc; rw [h]; rfl)
  have HE0 : Hid (s.d = false → (encTo s 4 ++ [bt s.e]) ++ [0] = enc s) := Lib.hid (fun h => by unfold enc; rw [h]; rfl)
  have HLE : Hid ((enc s).length = 18) := Lib.hid rfl
  have HL2 : Hid ((encTo s 4 ++ [bt s.e]).length = 17) := Lib.hid rfl
  clear HX
  generalize hnv : (nums s).getD = nv at HC HS
  replace hnv := Lib.hid hnv
  have hz : encTo s 0 = [] := rfl
  generalize encTo s = en at *
  generalize enc s = EN at *
  obtain ⟨z0, z1, z2, z3, e, d⟩ := s
  show Calls Try.prog 20 #[.agg #[.int .i64 z0, .int .i64 z1, .int .i64 z2, .int .i64 z3, .int .u8 e, .bool d]] w _
  unfold sc at HB hw1 e1
  simp only at HC HB hw1 e1 HE1 HE0 HL2 heb he
  obtain ⟨i0, i1, i2, i3, i4, i5⟩ := six e1
  replace hz := Lib.hid hz
  replace s1 := Lib.hid s1
  replace heb := Lib.hid heb
  clear e1
  go_enter Try.func20, Try.ntmps20
  go_wp2_with fail
  rw [← hw1]
  replace hw1 := Lib.hid hw1
  clear i0 i1 i2 i3 i4 i5
  go_loopw [3, 4, 5] (fun sl i _ wr => ∃ (k : Nat) (a : Option Addr) (cp : Nat), k ≤ 4 ∧ i = .int .i64 (k : Int) ∧ sl = .slice a (4 * k) cp ∧ Own wr w1.heap.size (.slice a (4 * k) cp) (en k) ∧ Below w1.heap.size w1 wr) (fun _ i _ _ => 4 - (intOf i).toNat)
  case atStart => exact ⟨0, none, 0, by omega, rfl, rfl, by rw [hz.out]; exact Own.nil _ _, Below.refl _ _⟩
  case round =>
    obtain ⟨k, a, cp, hk, rfl, rfl, ho, hb⟩ := hrel
    replace ho := Lib.hid ho
    by_cases hlt : k < 4
    · have hx := HC.out wr hb k hlt
      have hst := Lib.hid (HS.out k hlt)
      have hln := Lib.hid (HL.out (k + 1) (by omega))
      generalize nv k 0 = v at hx hst
      have hlt' : (k : Int) < 4 := by omega
      go_wp2_with (first
        | (at_builtin
           refine wpList_app rfl (.tmp 15) (.tmp 27) rfl w1.heap.size (.slice a (4 * k) cp) (en k) rfl (ho.out.alloc _) _ (four v) 4 _ rfl rfl (rd4 wr _ _ _ _ _ _ _ _ _ rfl (by rw [bt_int] <;> omega) (by rw [bt_int] <;> omega) (by rw [bt_int] <;> omega) (by rw [bt_int] <;> omega)) (en (k + 1)) (4 * (k + 1)) hst.out hln.out (by omega) (by have := hb.size; simp; omega) ?_
           intro a1 c1 w4 hv1 hr1 hg1 hn1
           clear hr1 hn1
           have hb2 := (hb.alloc hb.size _).grown hg1 (by have := hb.size; simp; omega) (ho.out.blocks · · |>.1)
           have HV1 := Lib.hid hv1
           clear hv1 hg1))
      go_roundw
      case rel => exact ⟨k + 1, a1, c1, by omega, by go_num, rfl, HV1.out, hb2⟩
      case measure => simp [intOf]; omega
    · obtain rfl : k = 4 := by omega
      have hlt' : ¬ ((4 : Nat) : Int) < 4 := by omega
      have hB := HB.out wr hb
      have c4 := hB.cell 4
      simp only [List.getElem?_toArray, List.getElem?_cons_succ, List.getElem?_cons_zero] at c4
      replace hB := Lib.hid hB
      cases d with
      | false =>
        have hE := Lib.hid (HE0.out rfl)
        go_wp2_with (first
          | (at_builtin
             refine wpList_app rfl (.tmp 29) (.tmp 32) rfl w1.heap.size (.slice a (4 * 4) cp) (en 4) rfl (ho.out.alloc _) _ [bt e] 1 _ rfl rfl (AreT.one wr _ _ _ rfl heb.out) (en 4 ++ [bt e]) 17 rfl HL2.out (by omega) (by have := hb.size; simp; omega) ?_
             intro a1 c1 w4 hv1 hr1 hg1 hn1
             clear hr1 hn1
             have hb2 := Lib.hid ((hb.alloc hb.size _).grown hg1 (by have := hb.size; simp; omega) (ho.out.blocks · · |>.1))
             have HV1 := Lib.hid hv1
             have c5' := (HB.out w4 hb2.out).cell 5
             simp only [List.getElem?_toArray, List.getElem?_cons_succ, List.getElem?_cons_zero] at c5'
             clear hv1 hg1 c4
             go_wp2_with (first
               | (at_builtin
                  refine wpList_app rfl (.tmp 39) (.tmp 40) rfl w1.heap.size (.slice a1 17 c1) (en 4 ++ [bt e]) rfl (HV1.out.alloc _) _ [0] 1 _ rfl rfl (AreT.one w4 _ _ _ rfl rfl) EN 18 hE.out HLE.out (by omega) (by have := hb2.out.size; simp; omega) ?_
                  intro a2 c2 w5 hv2 hr2 hg2 hn2
                  clear hr2 hn2
                  have hb3 := Lib.hid ((hb2.out.alloc hb2.out.size _).grown hg2 (by have := hb2.out.size; simp; omega) (HV1.out.blocks · · |>.1))
                  have HV2 := Lib.hid hv2
                  clear hv2 hg2))))
        go_ret
        exact ⟨a2, c2, rfl, own_mono HV2.out (by have := s1.out; omega), D1.out.trans (hb3.out.mono (by have := s1.out; omega))⟩
      | true =>
        have hE := Lib.hid (HE1.out rfl)
        go_wp2_with (first
          | (at_builtin
             refine wpList_app rfl (.tmp 29) (.tmp 32) rfl w1.heap.size (.slice a (4 * 4) cp) (en 4) rfl (ho.out.alloc _) _ [bt e] 1 _ rfl rfl (AreT.one wr _ _ _ rfl heb.out) (en 4 ++ [bt e]) 17 rfl HL2.out (by omega) (by have := hb.size; simp; omega) ?_
             intro a1 c1 w4 hv1 hr1 hg1 hn1
             clear hr1 hn1
             have hb2 := Lib.hid ((hb.alloc hb.size _).grown hg1 (by have := hb.size; simp; omega) (ho.out.blocks · · |>.1))
             have HV1 := Lib.hid hv1
             have c5' := (HB.out w4 hb2.out).cell 5
             simp only [List.getElem?_toArray, List.getElem?_cons_succ, List.getElem?_cons_zero] at c5'
             clear hv1 hg1 c4
             go_wp2_with (first
               | (at_builtin
                  refine wpList_app rfl (.tmp 36) (.tmp 37) rfl w1.heap.size (.slice a1 17 c1) (en 4 ++ [bt e]) rfl (HV1.out.alloc _) _ [1] 1 _ rfl rfl (AreT.one w4 _ _ _ rfl rfl) EN 18 hE.out HLE.out (by omega) (by have := hb2.out.size; simp; omega) ?_
                  intro a2 c2 w5 hv2 hr2 hg2 hn2
                  clear hr2 hn2
                  have hb3 := Lib.hid ((hb2.out.alloc hb2.out.size _).grown hg2 (by have := hb2.out.size; simp; omega) (HV1.out.blocks · · |>.1))
                  have HV2 := Lib.hid hv2
                  clear hv2 hg2))))
        go_ret
        exact ⟨a2, c2, rfl, own_mono HV2.out (by have := s1.out; omega), D1.out.trans (hb3.out.mono (by have := s1.out; omega))⟩
end Go.Proofs.Ytcggghiionlngaa.AreV
