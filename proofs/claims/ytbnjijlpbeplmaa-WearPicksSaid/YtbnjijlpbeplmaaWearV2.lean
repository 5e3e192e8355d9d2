/- The walk of the law on victims, where there is none. -/
import Derived.Test.YtbnjijlpbeplmaaWearG
import Derived.Test.YtbnjijlpbeplmaaWearK
namespace Go.Proofs.Ytbnjijlpbeplmaa.WearV2
open Go.ChangeShapes Go.WideShapes Go.ChangeAt Go.RowKit
open WearVM Mem WearC WearD WearE WearF WearV1 WearG
set_option linter.unusedVariables false
set_option maxHeartbeats 2000000

theorem nilW (a : Option Addr) (c : Nat) (w : World) (hr : RdB w a []) :
    Calls Try.prog 6 #[.slice a 0 c] w fun e w' => e = .returned (.bool true) ∧ Below w.heap.size w w' := by
  have HV := Lib.hid (fun w => victimW a [] 0 c w rfl)
  have HR := Lib.hid hr
  clear hr
  go_enter Try.func6, Try.ntmps6
  go_wp2_with fail
  refine (WearK.known_any _).mono ?_
  rintro e w1 ⟨rfl, hb1⟩
  go_wp2_with fail
  refine (HV.out _ (HR.out.below hb1) (by omega)).mono ?_
  rintro e w2 ⟨rfl, hb2⟩
  have hb := hb1.trans (hb2.mono hb1.size)
  clear hb1 hb2
  simp only [show victimOf [] = (0, false) from rfl]
  go_wp2
  refine wp_loop_rounds 1 ?_
  rw [rounds_succ]
  go_wp2
  go_ret
  exact ⟨rfl, hb⟩

theorem longW (a : Option Addr) (n c : Nat) (w : World) (hn : 200 < n) (hm : n ≤ 9223372036854775807) :
    Calls Try.prog 6 #[.slice a n c] w fun e w' => e = .returned (.bool true) ∧ Below w.heap.size w w' := by
  go_enter Try.func6, Try.ntmps6
  go_wp2_with fail
  refine (WearK.known_any _).mono ?_
  rintro e w1 ⟨rfl, hb1⟩
  go_wp2
  go_ret
  exact ⟨rfl, hb1⟩

/-- What a block's tests tell that is not usable. -/
theorem unusable {b : WearVM.Blk} (h : usable b = false) : right b = false ∨ (right b = true ∧ b.opn = true) ∨ (right b = true ∧ b.opn = false ∧ b.bad = true) := by
  unfold usable at h
  cases hr : right b <;> cases ho : b.opn <;> cases hb : b.bad <;> simp_all

set_option maxRecDepth 100000 in
theorem noneW (b off : Nat) (l : List WearVM.Blk) (n c : Nat) (w : World) (hn : l.length = n) (hr : RdB w (some ⟨b, off, none⟩) l) (h200 : n ≤ 200) (hs : (victimOf l).2 = false) :
    Calls Try.prog 6 #[.slice (some ⟨b, off, none⟩) n c] w fun e w' => e = .returned (.bool true) ∧ Below w.heap.size w w' := by
  have HV : Hid (∀ w', Below w.heap.size w w' → Calls Try.prog 22 #[.slice (some ⟨b, off, none⟩) n c] w' fun e w'' => e = .returned (.tuple #[.int .i64 0, .bool false]) ∧ Below w'.heap.size w' w'') := Lib.hid fun w' hb => by
    have := victimW (some ⟨b, off, none⟩) l n c w' hn (hr.below hb) h200
    rw [hs, (lawFalse l hs).1] at this
    exact this
  have HF := Lib.hid (lawFalse l hs).2
  have HR := Lib.hid hr
  have HN := Lib.hid hn
  clear hr hn hs
  go_enter Try.func6, Try.ntmps6
  go_wp2_with fail
  refine (WearK.known_any _).mono ?_
  rintro e w1 ⟨rfl, hb1⟩
  go_wp2_with fail
  refine (HV.out _ hb1).mono ?_
  rintro e w2 ⟨rfl, hb2⟩
  have hb := hb1.trans (hb2.mono hb1.size)
  clear hb1 hb2
  go_wp2
  go_loopw [5, 6, 7] (fun t f i wr => ∃ k : Nat, k ≤ n ∧ i = .int .i64 k ∧ t = .bool true ∧ f = .bool (fullV (l.take k)) ∧ Below w.heap.size w wr) (fun _ _ i _ => n - (intOf i).toNat)
  case atStart => exact ⟨0, by omega, rfl, rfl, rfl, hb⟩
  case round =>
    clear hb
    obtain ⟨k, hk, rfl, rfl, rfl, hbel⟩ := hrel
    by_cases hlt : k < n
    · obtain ⟨hbl, hrg⟩ := HR.out.at k (by rw [HN.out]; exact hlt)
      have HS := Lib.hid (all_snoc fullOf l k (by rw [HN.out]; exact hlt))
      obtain ⟨x, hx⟩ : ∃ x, x = l.getD k zero := ⟨_, rfl⟩
      rw [← hx] at hrg HS
      obtain ⟨F, hF⟩ : ∃ F, F = fullV (l.take k) := ⟨_, rfl⟩
      have HS2 : Hid (fullV (l.take (k + 1)) = (F && fullOf x)) := Lib.hid (by rw [hF]; exact HS.out)
      rw [← hF]
      clear hF HS hx
      obtain ⟨n1, l1, p1, k1, o1, e1, b1⟩ := x
      have HRG : Hid (∀ o, o = off + k * 7 → wr.rangeAt b o (#[.int .i64 n1, .int .i64 l1, .int .i64 p1, .int .i64 k1, .bool o1, .bool e1, .bool b1] : Array Value).toList) := Lib.hid fun o ho => by subst ho; exact range_below hrg hbel hbl
      clear hrg
      cases hu : usable ⟨n1, l1, p1, k1, o1, e1, b1⟩ with
      | false =>
        have HS3 : Hid (fullV (l.take (k + 1)) = F) := Lib.hid (by rw [HS2.out]; unfold fullOf; rw [hu]; simp)
        rcases unusable hu with h1 | ⟨h1, h2⟩ | ⟨h1, h2, h3⟩
        · have HP := Lib.hid (right_as _ _ h1)
          clear hu h1 HS2
          go_wp2_with (first
            | ((with_reducible show wpList _ _ _ (Oper.mk _ (Op.load 55 (.tmp 32)) _ _ _ _ :: _) _ _); refine loadMid 55 (.tmp 32) rfl b _ rfl #[.int .i64 n1, .int .i64 l1, .int .i64 p1, .int .i64 k1, .bool o1, .bool e1, .bool b1] (HRG.out _ (by omega)) _ Try.underlying55 rfl i55 rfl ?_)
            | (go_at_call 30
               refine (HP.out _).mono ?_
               rintro e w3 ⟨rfl, hb3⟩
               have hb4 := (hbel.alloc hbel.size (.cells #[.int .i64 n1, .int .i64 l1, .int .i64 p1, .int .i64 k1, .bool o1, .bool e1, .bool b1] 55)).trans (hb3.mono (by have := hbel.size; simp; omega))
               clear hb3))
          go_roundw
          case rel => exact ⟨k + 1, by omega, by go_num, rfl, by rw [HS3.out], hb4⟩
          case measure => simp [intOf]; omega
        · have HP := Lib.hid (right_as _ _ h1)
          dsimp only at h2
          subst h2
          clear hu h1 HS2
          go_wp2_with (first
            | ((with_reducible show wpList _ _ _ (Oper.mk _ (Op.load 55 (.tmp 32)) _ _ _ _ :: _) _ _); refine loadMid 55 (.tmp 32) rfl b _ rfl #[.int .i64 n1, .int .i64 l1, .int .i64 p1, .int .i64 k1, .bool true, .bool e1, .bool b1] (HRG.out _ (by omega)) _ Try.underlying55 rfl i55 rfl ?_)
            | (go_at_call 30
               refine (HP.out _).mono ?_
               rintro e w3 ⟨rfl, hb3⟩
               have hk3 := (Mem.Blk.new wr 55 _).below hb3 (by simp)
               have c4 := hk3.seven.2.2.2.2.1
               have hb4 := (hbel.alloc hbel.size (.cells #[.int .i64 n1, .int .i64 l1, .int .i64 p1, .int .i64 k1, .bool true, .bool e1, .bool b1] 55)).trans (hb3.mono (by have := hbel.size; simp; omega))
               clear hb3 hk3))
          go_roundw
          case rel => exact ⟨k + 1, by omega, by go_num, rfl, by rw [HS3.out], hb4⟩
          case measure => simp [intOf]; omega
        · have HP := Lib.hid (right_as _ _ h1)
          dsimp only at h2 h3
          subst h2 h3
          clear hu h1 HS2
          go_wp2_with (first
            | ((with_reducible show wpList _ _ _ (Oper.mk _ (Op.load 55 (.tmp 32)) _ _ _ _ :: _) _ _); refine loadMid 55 (.tmp 32) rfl b _ rfl #[.int .i64 n1, .int .i64 l1, .int .i64 p1, .int .i64 k1, .bool false, .bool e1, .bool true] (HRG.out _ (by omega)) _ Try.underlying55 rfl i55 rfl ?_)
            | (go_at_call 30
               refine (HP.out _).mono ?_
               rintro e w3 ⟨rfl, hb3⟩
               have hk3 := (Mem.Blk.new wr 55 _).below hb3 (by simp)
               have c4 := hk3.seven.2.2.2.2.1
               have c6 := hk3.seven.2.2.2.2.2.2
               have hb4 := (hbel.alloc hbel.size (.cells #[.int .i64 n1, .int .i64 l1, .int .i64 p1, .int .i64 k1, .bool false, .bool e1, .bool true] 55)).trans (hb3.mono (by have := hbel.size; simp; omega))
               clear hb3 hk3))
          go_roundw
          case rel => exact ⟨k + 1, by omega, by go_num, rfl, by rw [HS3.out], hb4⟩
          case measure => simp [intOf]; omega
      | true =>
        obtain ⟨h1, h2, h3⟩ := usable_iff.1 hu
        have HP := Lib.hid (right_as _ _ h1)
        dsimp only at h2 h3
        subst h2 h3
        have HS3 : Hid (fullV (l.take (k + 1)) = (F && (l1 == p1))) := Lib.hid (by rw [HS2.out]; unfold fullOf; rw [hu]; simp)
        clear hu h1 HS2
        cases F <;>
        · go_wp2_with (first
            | ((with_reducible show wpList _ _ _ (Oper.mk _ (Op.load 55 (.tmp 32)) _ _ _ _ :: _) _ _); refine loadMid 55 (.tmp 32) rfl b _ rfl #[.int .i64 n1, .int .i64 l1, .int .i64 p1, .int .i64 k1, .bool false, .bool e1, .bool false] (HRG.out _ (by omega)) _ Try.underlying55 rfl i55 rfl ?_)
            | (go_at_call 30
               refine (HP.out _).mono ?_
               rintro e w3 ⟨rfl, hb3⟩
               have hk3 := (Mem.Blk.new wr 55 _).below hb3 (by simp)
               have c1 := hk3.seven.2.1
               have c2 := hk3.seven.2.2.1
               have c4 := hk3.seven.2.2.2.2.1
               have c6 := hk3.seven.2.2.2.2.2.2
               have hb4 := (hbel.alloc hbel.size (.cells #[.int .i64 n1, .int .i64 l1, .int .i64 p1, .int .i64 k1, .bool false, .bool e1, .bool false] 55)).trans (hb3.mono (by have := hbel.size; simp; omega))
               clear hb3 hk3))
          go_roundw
          case rel => exact ⟨k + 1, by omega, by go_num, rfl, by rw [HS3.out]; rfl, hb4⟩
          case measure => simp [intOf]; omega
    · obtain rfl : k = n := by omega
      have HL : Hid (fullV (l.take k) = true) := Lib.hid (by rw [List.take_of_length_le (by rw [HN.out]; omega)]; exact HF.out)
      rw [HL.out]
      go_wp2
      go_ret
      exact ⟨rfl, hbel⟩
end Go.Proofs.Ytbnjijlpbeplmaa.WearV2
