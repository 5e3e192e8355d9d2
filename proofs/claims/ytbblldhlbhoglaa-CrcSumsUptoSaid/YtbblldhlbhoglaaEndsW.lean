/- The walk of the law on ends: a block with its sum behind, bytes 0 ahead. -/
import Derived.Test.YtbblldhlbhoglaaCrcP
namespace Go.Proofs.Ytbblldhlbhoglaa.EndsW
open Go.ChangeShapes Go.WideShapes Go.ChangeAt Go.RowKit
open Go.ChangeMaps (open_string shut_string)
open CrcM CrcA CrcK CrcP
set_option linter.unusedVariables false
set_option maxHeartbeats 400000

theorem early (a : Option Addr) (n c : Nat) (z : Int) (w : World) (hn : n ≤ maxLen) (wz : (Lit.int .i64 z).wf = true) (h : 4096 < n ∨ z < 0 ∨ 100 < z) :
    Calls Try.prog 6 #[.slice a n c, .int .i64 z] w fun e w' => e = .returned (.bool true) ∧ Below w.heap.size w w' := by
  unfold maxLen at hn
  by_cases h1 : 4096 < n
  · have hd : decide ((4096 : Int) < (n : Int)) = true := by simp; omega
    go_enter Try.func6, Try.ntmps6
    go_wp2_with (go_at_call 8; refine (known_any _).mono ?_; rintro e w' ⟨rfl, hb⟩)
    go_ret
    exact ⟨rfl, hb⟩
  · have hd : decide ((4096 : Int) < (n : Int)) = false := by simp; omega
    by_cases h2 : z < 0
    · go_enter Try.func6, Try.ntmps6
      go_wp2_with (go_at_call 8; refine (known_any _).mono ?_; rintro e w' ⟨rfl, hb⟩)
      go_ret
      exact ⟨rfl, hb⟩
    · have h3 : 100 < z := by omega
      go_enter Try.func6, Try.ntmps6
      go_wp2_with (go_at_call 8; refine (known_any _).mono ?_; rintro e w' ⟨rfl, hb⟩)
      go_ret
      exact ⟨rfl, hb⟩

theorem zeros_own (w : World) (base n : Nat) (hb : base ≤ w.heap.size) (hn : n ≤ 100) : Own (w.alloc (.cells (madeCells #[.int .u8 0] n) 5)) base (.slice (some ⟨w.heap.size, 0, none⟩) n n) (List.replicate n 0) := by
  refine Own.made w base hb _ n _ (by simp) (by simp [maxLen]; omega) ?_
  rw [toList_madeCells_one]; simp [vals]

theorem u8_low (s : B16) : IntKind.u8.wrap (s.toNat : Int) = ((s.setWidth 8 : B8).toNat : Int) := by
  rw [IntKind.wrap_u8']; simp [BitVec.toNat_setWidth]
theorem u8_high (s : B16) : (s.toNat : Int) / 256 = (((s >>> 8).setWidth 8 : B8).toNat : Int) := by
  have := s.isLt
  simp [BitVec.toNat_setWidth, BitVec.toNat_ushiftRight, Nat.shiftRight_eq_div_pow]; omega

theorem sixteenEnd (a : Option Addr) (l : List B8) (n c : Nat) (w : World) (hn : l.length + 2 = n) (hr : Rd w a (l ++ [((sum16 l) >>> 8).setWidth 8, (sum16 l).setWidth 8])) :
    Calls Try.prog 13 #[.slice a n c] w fun e w' => e = .returned (.int .u16 0) ∧ w = w' :=
  (sixteen' a _ n c w (by simp [hn]) hr).mono fun e w' h => ⟨h.1.trans (ret_int (by rw [sum16_end]; rfl)), h.2⟩

theorem sixteenZ (a : Option Addr) (z : Nat) (l : List B8) (n c : Nat) (w : World) (hn : z + l.length = n) (hr : Rd w a (List.replicate z 0 ++ l)) :
    Calls Try.prog 13 #[.slice a n c] w fun e w' => e = .returned (.int .u16 (sum16 l).toNat) ∧ w = w' :=
  (sixteen' a _ n c w (by simp [hn]) hr).mono fun e w' h => ⟨h.1.trans (ret_int (by rw [sum16_zeros])), h.2⟩
theorem sevenZ (a : Option Addr) (z : Nat) (l : List B8) (n c : Nat) (w : World) (hn : z + l.length = n) (hr : Rd w a (List.replicate z 0 ++ l)) :
    Calls Try.prog 12 #[.slice a n c] w fun e w' => e = .returned (.int .u8 (sum7 l).toNat) ∧ w = w' :=
  (seven' a _ n c w (by simp [hn]) hr).mono fun e w' h => ⟨h.1.trans (ret_int (by unfold sum7; rw [rem7_zeros])), h.2⟩

theorem late (a : Option Addr) (l : List B8) (n c : Nat) (z : Nat) (w : World) (hln : l.length = n) (hr : Rd w a l) (ha : ∀ x, 0 < l.length → a = some x → x.block < w.heap.size) (h1 : n ≤ 4096) (h3 : z ≤ 100) :
    Calls Try.prog 6 #[.slice a n c, .int .i64 z] w fun e w' => e = .returned (.bool true) ∧ Below w.heap.size w w' := by
  have hd : decide ((4096 : Int) < (n : Int)) = false := by simp; omega
  have h2 : 0 ≤ (z : Int) := by omega
  have HR : Hid (∀ w', Below w.heap.size w w' → Rd w' a l) := Lib.hid fun w' hb => Rd.below hr hb ha
  have HL := Lib.hid hln
  have HN : Hid (l.length ≤ 4096) := Lib.hid (by omega)
  clear hr hln ha
  go_enter Try.func6, Try.ntmps6
  go_wp2_with fail
  refine Calls.mono (known_any _) ?_
  rintro e w1 ⟨rfl, hb1⟩
  go_wp2_with fail
  refine Calls.mono (sixteen' _ l _ _ _ HL.out (HR.out _ hb1)) ?_
  rintro e w' ⟨rfl, rfl⟩
  have hb2 := hb1.alloc hb1.size (.cells #[] 5)
  have HO := Lib.hid (Own.made w1 w.heap.size hb1.size #[] 0 [] rfl (Nat.zero_le _) rfl)
  have HZ := Lib.hid zeros_own
  have hmk : ∀ w : World, (Instr.makeSlice 24 (.int .i64 (z : Int)) (.int .i64 (z : Int))).run Try.prog w = .ok (.slice (some ⟨w.heap.size, 0, none⟩) z z) (w.alloc (.cells (madeCells #[.int .u8 0] z) 5)) := fun w =>
    run_make_row' 24 5 (.int .u8 0) 1 Try.underlying24 info5 rfl .i64 .i64 z (by omega) (by omega) w
  go_wp2_with (first
    | (at_builtin
       refine wpList_app rfl (.tmp 21) (.tmp 22) rfl w.heap.size (.slice (some ⟨w1.heap.size, 0, none⟩) 0 0) [] rfl HO.out a l n c rfl HL.out (HR.out _ hb2) l n rfl HL.out (by omega) hb2.size ?_
       intro a1 c1 w2 hv1 hr1 hg1 hn1
       clear hr1 hn1
       have hb3 := hb2.grown hg1 hb2.size (HO.out.blocks · · |>.1)
       have HV1 := Lib.hid hv1
       have HG1 := Lib.hid hg1
       clear hv1 hg1)
    | (at_builtin
       refine wpList_app rfl (.tmp 23) (.tmp 29) rfl w.heap.size (.slice a1 n c1) l rfl (HV1.out.alloc _) _ [((sum16 l) >>> 8).setWidth 8, (sum16 l).setWidth 8] 2 _ rfl rfl (two w2 _ _ _ _ _ rfl (u8_high _) (u8_low _)) (l ++ [((sum16 l) >>> 8).setWidth 8, (sum16 l).setWidth 8]) (n + 2) rfl (by simp [HL.out]) (by omega) (by have := hb3.size; simp; omega) ?_
       intro a2 c2 w3 hv2 hr2 hg2 hn2
       have hb4 := (hb3.alloc hb3.size _).grown hg2 (by have := hb3.size; simp; omega) (HV1.out.blocks · · |>.1)
       have HR2 := Lib.hid hr2
       clear hv2 hr2 hg2 hn2))
  refine Calls.mono (sixteenEnd _ l _ _ _ (by rw [HL.out]) HR2.out) ?_
  rintro e w' ⟨rfl, rfl⟩
  go_wp2_with (at_builtin
               refine wpList_app rfl (.tmp 35) (.tmp 36) rfl w.heap.size (.slice (some ⟨w3.heap.size, 0, none⟩) z z) (List.replicate z 0) rfl (HZ.out w3 _ z hb4.size (by omega)) a l n c rfl HL.out (HR.out _ (hb4.alloc hb4.size _)) (List.replicate z 0 ++ l) (z + n) rfl (by simp [HL.out]) (by omega) (by have := hb4.size; simp; omega) ?_
               intro a3 c3 w4 hv3 hr3 hg3 hn3
               have hb5 := (hb4.alloc hb4.size _).grown hg3 (by have := hb4.size; simp; omega) ((HZ.out w3 _ z hb4.size (by omega)).blocks · · |>.1)
               have HR3 := Lib.hid hr3
               clear hv3 hr3 hg3 hn3)
  refine Calls.mono (sixteenZ _ z l _ _ _ (by rw [HL.out]) HR3.out) ?_
  rintro e w' ⟨rfl, rfl⟩
  go_wp2_with (at_builtin
               refine wpList_app rfl (.tmp 44) (.tmp 45) rfl w.heap.size (.slice (some ⟨w4.heap.size, 0, none⟩) z z) (List.replicate z 0) rfl (HZ.out w4 _ z hb5.size (by omega)) a l n c rfl HL.out (HR.out _ (hb5.alloc hb5.size _)) (List.replicate z 0 ++ l) (z + n) rfl (by simp [HL.out]) (by omega) (by have := hb5.size; simp; omega) ?_
               intro a4 c4 w5 hv4 hr4 hg4 hn4
               have hb6 := (hb5.alloc hb5.size _).grown hg4 (by have := hb5.size; simp; omega) ((HZ.out w4 _ z hb5.size (by omega)).blocks · · |>.1)
               have HR4 := Lib.hid hr4
               clear hv4 hr4 hg4 hn4)
  refine Calls.mono (sevenZ _ z l _ _ _ (by rw [HL.out]) HR4.out) ?_
  rintro e w' ⟨rfl, rfl⟩
  go_wp2_with fail
  refine Calls.mono (seven' _ l _ _ _ HL.out (HR.out _ hb6)) ?_
  rintro e w' ⟨rfl, rfl⟩
  go_wp2_with fail
  refine Calls.mono (seven' _ l _ _ _ HL.out (HR.out _ hb6)) ?_
  rintro e w' ⟨rfl, rfl⟩
  have hlt : ((sum7 l).toNat : Int) < 128 := by have := sum7_lt l; omega
  go_wp2
  go_ret
  exact ⟨rfl, hb6⟩
end Go.Proofs.Ytbblldhlbhoglaa.EndsW
