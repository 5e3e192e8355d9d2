/- The choice of a victim. -/
import Derived.Test.YtbnjijlpbeplmaaWearE
import Derived.Test.YtbnjijlpbeplmaaWearF
namespace Go.Proofs.Ytbnjijlpbeplmaa.WearEv
open Go.ChangeShapes Go.WideShapes Go.ChangeAt Go.RowKit
open WearVM Mem WearC WearD WearE WearF
set_option linter.unusedVariables false
set_option maxHeartbeats 1000000

set_option maxRecDepth 100000 in
theorem chooseV (b off : Nat) (l : List WearVM.Blk) (n c : Nat) (w : World) (hn : l.length = n) (hr : RdB w (some ⟨b, off, none⟩) l) (h200 : n ≤ 200) :
    Calls Try.prog 74 #[.slice (some ⟨b, off, none⟩) n c, .func (.func 75) #[] #[], .func (.func 76) #[] #[]] w fun e w' =>
      e = .returned (.tuple #[val (chosen usable vAhead l), .bool (decide (chosen usable vAhead l ≠ zero))]) ∧ Below w.heap.size w w' := by
  have HR := Lib.hid hr
  have HN := Lib.hid hn
  obtain ⟨may, hmay⟩ : ∃ m, m = usable := ⟨_, rfl⟩
  obtain ⟨ahead, hahead⟩ : ∃ m, m = vAhead := ⟨_, rfl⟩
  have HP : Hid (∀ (x : WearVM.Blk) (w' : World), Below w.heap.size w w' → Calls Try.prog 75 #[val x] w' fun e w'' => e = .returned (.bool (may x)) ∧ Below w'.heap.size w' w'') := Lib.hid (by subst hmay; exact (fun x w _ => usableW x w))
  have HQ : Hid (∀ (x y : WearVM.Blk) (w' : World), may x = true → may y = true → Below w.heap.size w w' → Calls Try.prog 76 #[val x, val y] w' fun e w'' => e = .returned (.bool (ahead x y)) ∧ Below w'.heap.size w' w'') := Lib.hid (by subst hmay hahead; exact (fun x y w hx hy _ => vAheadW x y hx hy w))
  rw [← hmay, ← hahead]
  clear hmay hahead hr hn
  go_enter Try.func74, Try.ntmps74
  go_wp2
  go_loopw [13] (fun i wr => ∃ k : Nat, k ≤ n ∧ i = .int .i64 k ∧ Mem.Blk wr (w.heap.size + 1) 55 (cs (chosen may ahead (l.take k))) ∧ Mem.Blk wr w.heap.size 55 (cs zero) ∧ Below w.heap.size w wr) (fun i _ => n - (intOf i).toNat)
  case atStart => exact ⟨0, by omega, rfl, by rw [← World.size_alloc w (.cells #[.int .i64 0, .int .i64 0, .int .i64 0, .int .i64 0, .bool false, .bool false, .bool false] 55)]; exact Mem.Blk.new _ 55 _, (Mem.Blk.new w 55 _).alloc _, ((Below.refl _ _).alloc (Nat.le_refl _) _).alloc (by simp) _⟩
  case round =>
    obtain ⟨k, hk, rfl, hB, hZ, hbel⟩ := hrel
    by_cases hlt : k < n
    · obtain ⟨hbl, hrg⟩ := HR.out.at k (by rw [HN.out]; exact hlt)
      have HS := Lib.hid (chosen_snoc may ahead l k (by rw [HN.out]; exact hlt))
      obtain ⟨x, hx⟩ : ∃ x, x = l.getD k zero := ⟨_, rfl⟩
      rw [← hx] at hrg HS
      obtain ⟨best, hbest⟩ : ∃ y, y = chosen may ahead (l.take k) := ⟨_, rfl⟩
      rw [← hbest] at hB HS
      have HMB : Hid (best ≠ zero → may best = true) := Lib.hid (by rw [hbest]; exact chosen_may may ahead _)
      have HRG : Hid (∀ o, o = off + k * 7 → wr.rangeAt b o (cs x).toList) := Lib.hid fun o ho => by subst ho; exact range_below hrg hbel hbl
      have hb0 := Below.refl wr.heap.size wr
      clear hx hrg hbest
      cases hm : may x with
      | false =>
        have HP2 : Hid (∀ w', Below w.heap.size w w' → Calls Try.prog 75 #[val x] w' fun e w'' => e = .returned (.bool false) ∧ Below w'.heap.size w' w'') := Lib.hid (by rw [← hm]; exact HP.out x)
        have HS2 : Hid (chosen may ahead (l.take (k + 1)) = best) := Lib.hid (by rw [HS.out]; unfold WearVM.step; rw [hm]; rfl)
        clear hm HS
        go_wp2_with (first
          | ((with_reducible show wpList _ _ _ (Oper.mk _ (Op.load 55 (.tmp 15)) _ _ _ _ :: _) _ _); refine loadMid 55 (.tmp 15) rfl b _ rfl (cs x) (HRG.out _ (by omega)) _ Try.underlying55 rfl i55 rfl ?_)
          | ((with_reducible show wpList _ _ _ (Oper.mk _ (Op.store 55 (.tmp 10) (.tmp 16)) _ _ _ _ :: _) _ _); refine storeBlk 55 (.tmp 10) (.tmp 16) rfl wr.heap.size rfl _ (cs x) rfl 55 (Mem.Blk.new wr 55 _) i55 rfl (cs_all x) wr.heap.size wr (hb0.alloc (Nat.le_refl _) _) (Nat.le_refl _) rfl ?_
             intro w2 hg2 hb2)
          | ((with_reducible show wpList _ _ _ (Oper.mk _ (Op.load 55 (.tmp 10)) _ _ _ _ :: _) _ _); refine loadBlk 55 (.tmp 10) rfl wr.heap.size rfl (cs x) 55 hg2 _ Try.underlying55 rfl i55 rfl ?_)
          | (go_at_call 75
             refine (HP2.out _ (hbel.trans (hb2.mono hbel.size))).mono ?_
             rintro e w3 ⟨rfl, hb3⟩
             have hb3' := hb2.trans (hb3.mono hb2.size)
             clear hb3))
        go_roundw
        case rel => exact ⟨k + 1, by omega, by go_num, by rw [HS2.out]; exact hB.below hb3' hB.lt, hZ.below hb3' hZ.lt, hbel.trans (hb3'.mono hbel.size)⟩
        case measure => simp [intOf]; omega
      | true =>
        have HP2 : Hid (∀ w', Below w.heap.size w w' → Calls Try.prog 75 #[val x] w' fun e w'' => e = .returned (.bool true) ∧ Below w'.heap.size w' w'') := Lib.hid (by rw [← hm]; exact HP.out x)
        by_cases hz : best = zero
        · have HS2 : Hid (chosen may ahead (l.take (k + 1)) = x) := Lib.hid (by rw [HS.out]; unfold WearVM.step; rw [hm, hz]; rfl)
          have heq : ∀ w, (binOp .eql 55 (.agg (cs best)) (.agg #[.int .i64 0, .int .i64 0, .int .i64 0, .int .i64 0, .bool false, .bool false, .bool false])).run Try.prog w = .ok (.bool true) w := fun w => by
            have := eql55 best zero w
            rw [decide_eq_true hz] at this
            exact this
          clear hm HS hz
          go_wp2_with (first
            | ((with_reducible show wpList _ _ _ (Oper.mk _ (Op.load 55 (.tmp 15)) _ _ _ _ :: _) _ _); refine loadMid 55 (.tmp 15) rfl b _ rfl (cs x) (HRG.out _ (by omega)) _ Try.underlying55 rfl i55 rfl ?_)
            | ((with_reducible show wpList _ _ _ (Oper.mk _ (Op.store 55 (.tmp 10) (.tmp 16)) _ _ _ _ :: _) _ _); refine storeBlk 55 (.tmp 10) (.tmp 16) rfl wr.heap.size rfl _ (cs x) rfl 55 (Mem.Blk.new wr 55 _) i55 rfl (cs_all x) wr.heap.size wr (hb0.alloc (Nat.le_refl _) _) (Nat.le_refl _) rfl ?_
               intro w2 hg2 hb2)
            | ((with_reducible show wpList _ _ _ (Oper.mk _ (Op.load 55 (.tmp 10)) _ _ _ _ :: _) _ _); refine loadBlk 55 (.tmp 10) rfl wr.heap.size rfl (cs x) 55 hg2 _ Try.underlying55 rfl i55 rfl ?_)
            | (go_at_call 75
               refine (HP2.out _ (hbel.trans (hb2.mono hbel.size))).mono ?_
               rintro e w3 ⟨rfl, hb3⟩
               have hb3' := hb2.trans (hb3.mono hb2.size)
               have hg3 := hg2.below hb3 hg2.lt
               have HB3 := hB.below hb3' hB.lt
               have HZ3 := hZ.below hb3' hZ.lt
               have hbw := hbel.trans (hb3'.mono hbel.size)
               clear hb3)
            | ((with_reducible show wpList _ _ _ (Oper.mk _ (Op.load 55 (.tmp 8)) _ _ _ _ :: _) _ _); refine loadBlk 55 (.tmp 8) rfl (w.heap.size + 1) rfl (cs best) 55 HB3 _ Try.underlying55 rfl i55 rfl ?_)
            | ((with_reducible show wpList _ _ _ (Oper.mk _ (Op.load 55 (.tmp 10)) _ _ _ _ :: _) _ _); refine loadBlk 55 (.tmp 10) rfl wr.heap.size rfl (cs x) 55 hg3 _ Try.underlying55 rfl i55 rfl ?_)
            | ((with_reducible show wpList _ _ _ (Oper.mk _ (Op.store 55 (.tmp 8) (.tmp 31)) _ _ _ _ :: _) _ _); refine storeBlk 55 (.tmp 8) (.tmp 31) rfl (w.heap.size + 1) rfl _ (cs x) rfl 55 HB3 i55 rfl (cs_all x) (w.heap.size + 1) w3 (Below.refl _ _) (Nat.le_refl _) rfl ?_
               intro w5 hg5 hb5))
          go_roundw
          case rel => exact ⟨k + 1, by omega, by go_num, by rw [HS2.out]; exact hg5, HZ3.below hb5 (by omega), hbw.trans (hb5.mono (by omega))⟩
          case measure => simp [intOf]; omega
        · have heq : ∀ w, (binOp .eql 55 (.agg (cs best)) (.agg #[.int .i64 0, .int .i64 0, .int .i64 0, .int .i64 0, .bool false, .bool false, .bool false])).run Try.prog w = .ok (.bool false) w := fun w => by
            have := eql55 best zero w
            rw [decide_eq_false hz] at this
            exact this
          cases ha : ahead x best with
          | false =>
            have HQ2 : Hid (∀ w', Below w.heap.size w w' → Calls Try.prog 76 #[val x, val best] w' fun e w'' => e = .returned (.bool false) ∧ Below w'.heap.size w' w'') := Lib.hid (by rw [← ha]; exact fun w' => HQ.out x best w' hm (HMB.out hz))
            have HS2 : Hid (chosen may ahead (l.take (k + 1)) = best) := Lib.hid (by rw [HS.out]; unfold WearVM.step; rw [hm, ha]; simp [hz])
            clear hm HS hz ha
            go_wp2_with (first
              | ((with_reducible show wpList _ _ _ (Oper.mk _ (Op.load 55 (.tmp 15)) _ _ _ _ :: _) _ _); refine loadMid 55 (.tmp 15) rfl b _ rfl (cs x) (HRG.out _ (by omega)) _ Try.underlying55 rfl i55 rfl ?_)
              | ((with_reducible show wpList _ _ _ (Oper.mk _ (Op.store 55 (.tmp 10) (.tmp 16)) _ _ _ _ :: _) _ _); refine storeBlk 55 (.tmp 10) (.tmp 16) rfl wr.heap.size rfl _ (cs x) rfl 55 (Mem.Blk.new wr 55 _) i55 rfl (cs_all x) wr.heap.size wr (hb0.alloc (Nat.le_refl _) _) (Nat.le_refl _) rfl ?_
                 intro w2 hg2 hb2)
              | ((with_reducible show wpList _ _ _ (Oper.mk _ (Op.load 55 (.tmp 10)) _ _ _ _ :: _) _ _); refine loadBlk 55 (.tmp 10) rfl wr.heap.size rfl (cs x) 55 hg2 _ Try.underlying55 rfl i55 rfl ?_)
              | (go_at_call 75
                 refine (HP2.out _ (hbel.trans (hb2.mono hbel.size))).mono ?_
                 rintro e w3 ⟨rfl, hb3⟩
                 have hb3' := hb2.trans (hb3.mono hb2.size)
                 have hg3 := hg2.below hb3 hg2.lt
                 have HB3 := hB.below hb3' hB.lt
                 have hbw := hbel.trans (hb3'.mono hbel.size)
                 clear hb3)
              | ((with_reducible show wpList _ _ _ (Oper.mk _ (Op.load 55 (.tmp 8)) _ _ _ _ :: _) _ _); refine loadBlk 55 (.tmp 8) rfl (w.heap.size + 1) rfl (cs best) 55 HB3 _ Try.underlying55 rfl i55 rfl ?_)
              | ((with_reducible show wpList _ _ _ (Oper.mk _ (Op.load 55 (.tmp 10)) _ _ _ _ :: _) _ _); refine loadBlk 55 (.tmp 10) rfl wr.heap.size rfl (cs x) 55 hg3 _ Try.underlying55 rfl i55 rfl ?_)
              | (go_at_call 76
                 refine (HQ2.out _ hbw).mono ?_
                 rintro e w4 ⟨rfl, hb4⟩
                 have hb4' := hb3'.trans (hb4.mono hb3'.size)
                 clear hb4))
            go_roundw
            case rel => exact ⟨k + 1, by omega, by go_num, by rw [HS2.out]; exact hB.below hb4' hB.lt, hZ.below hb4' hZ.lt, hbel.trans (hb4'.mono hbel.size)⟩
            case measure => simp [intOf]; omega
          | true =>
            have HQ2 : Hid (∀ w', Below w.heap.size w w' → Calls Try.prog 76 #[val x, val best] w' fun e w'' => e = .returned (.bool true) ∧ Below w'.heap.size w' w'') := Lib.hid (by rw [← ha]; exact fun w' => HQ.out x best w' hm (HMB.out hz))
            have HS2 : Hid (chosen may ahead (l.take (k + 1)) = x) := Lib.hid (by rw [HS.out]; unfold WearVM.step; rw [hm, ha]; simp)
            clear hm HS hz ha
            go_wp2_with (first
              | ((with_reducible show wpList _ _ _ (Oper.mk _ (Op.load 55 (.tmp 15)) _ _ _ _ :: _) _ _); refine loadMid 55 (.tmp 15) rfl b _ rfl (cs x) (HRG.out _ (by omega)) _ Try.underlying55 rfl i55 rfl ?_)
              | ((with_reducible show wpList _ _ _ (Oper.mk _ (Op.store 55 (.tmp 10) (.tmp 16)) _ _ _ _ :: _) _ _); refine storeBlk 55 (.tmp 10) (.tmp 16) rfl wr.heap.size rfl _ (cs x) rfl 55 (Mem.Blk.new wr 55 _) i55 rfl (cs_all x) wr.heap.size wr (hb0.alloc (Nat.le_refl _) _) (Nat.le_refl _) rfl ?_
                 intro w2 hg2 hb2)
              | ((with_reducible show wpList _ _ _ (Oper.mk _ (Op.load 55 (.tmp 10)) _ _ _ _ :: _) _ _); refine loadBlk 55 (.tmp 10) rfl wr.heap.size rfl (cs x) 55 hg2 _ Try.underlying55 rfl i55 rfl ?_)
              | (go_at_call 75
                 refine (HP2.out _ (hbel.trans (hb2.mono hbel.size))).mono ?_
                 rintro e w3 ⟨rfl, hb3⟩
                 have hb3' := hb2.trans (hb3.mono hb2.size)
                 have hg3 := hg2.below hb3 hg2.lt
                 have HB3 := hB.below hb3' hB.lt
                 have hbw := hbel.trans (hb3'.mono hbel.size)
                 clear hb3)
              | ((with_reducible show wpList _ _ _ (Oper.mk _ (Op.load 55 (.tmp 8)) _ _ _ _ :: _) _ _); refine loadBlk 55 (.tmp 8) rfl (w.heap.size + 1) rfl (cs best) 55 HB3 _ Try.underlying55 rfl i55 rfl ?_)
              | ((with_reducible show wpList _ _ _ (Oper.mk _ (Op.load 55 (.tmp 10)) _ _ _ _ :: _) _ _); refine loadBlk 55 (.tmp 10) rfl wr.heap.size rfl (cs x) 55 hg3 _ Try.underlying55 rfl i55 rfl ?_)
              | (go_at_call 76
                 refine (HQ2.out _ hbw).mono ?_
                 rintro e w4 ⟨rfl, hb4⟩
                 have hb4' := hb3'.trans (hb4.mono hb3'.size)
                 have hg4 := hg3.below hb4 hg3.lt
                 have HB4 := hB.below hb4' hB.lt
                 have HZ4 := hZ.below hb4' hZ.lt
                 have hbw4 := hbel.trans (hb4'.mono hbel.size)
                 clear hb4)
              | ((with_reducible show wpList _ _ _ (Oper.mk _ (Op.load 55 (.tmp 10)) _ _ _ _ :: _) _ _); refine loadBlk 55 (.tmp 10) rfl wr.heap.size rfl (cs x) 55 hg4 _ Try.underlying55 rfl i55 rfl ?_)
              | ((with_reducible show wpList _ _ _ (Oper.mk _ (Op.store 55 (.tmp 8) (.tmp 31)) _ _ _ _ :: _) _ _); refine storeBlk 55 (.tmp 8) (.tmp 31) rfl (w.heap.size + 1) rfl _ (cs x) rfl 55 HB4 i55 rfl (cs_all x) (w.heap.size + 1) w4 (Below.refl _ _) (Nat.le_refl _) rfl ?_
                 intro w5 hg5 hb5))
            go_roundw
            case rel => exact ⟨k + 1, by omega, by go_num, by rw [HS2.out]; exact hg5, HZ4.below hb5 (by omega), hbw4.trans (hb5.mono (by omega))⟩
            case measure => simp [intOf]; omega
    · obtain rfl : k = n := by omega
      have HL : Hid (l.take k = l) := Lib.hid (List.take_of_length_le (by rw [HN.out]; omega))
      rw [HL.out] at hB
      obtain ⟨X, hX⟩ : ∃ X, X = chosen may ahead l := ⟨_, rfl⟩
      rw [← hX] at hB
      have hne : ∀ w, (binOp .neq 55 (.agg (cs X)) (.agg (cs zero))).run Try.prog w = .ok (.bool (decide (X ≠ zero))) w := fun w => neq55 X zero w
      have HX := Lib.hid hX
      clear hX
      obtain ⟨n1, l1, p1, k1, o1, e1, b1⟩ := X
      simp only [cs, zero] at hne
      obtain ⟨x0, x1, x2, x3, x4, x5, x6⟩ := Mem.Blk.seven hB
      obtain ⟨z0, z1, z2, z3, z4, z5, z6⟩ := Mem.Blk.seven hZ
      have hf := fun i => hZ.frozen i
      have f0 := hf 0
      have f1 := hf 1
      have f2 := hf 2
      have f3 := hf 3
      have f4 := hf 4
      have f5 := hf 5
      have f6 := hf 6
      have HBK : Hid (Mem.Blk ((((((((wr.setCell ⟨w.heap.size, 0, none⟩ (.int .i64 n1)).setCell ⟨w.heap.size, 1, none⟩ (.int .i64 l1)).setCell ⟨w.heap.size, 2, none⟩ (.int .i64 p1)).setCell ⟨w.heap.size, 3, none⟩ (.int .i64 k1)).setCell ⟨w.heap.size, 4, none⟩ (.bool o1)).setCell ⟨w.heap.size, 5, none⟩ (.bool e1)).setCell ⟨w.heap.size, 6, none⟩ (.bool b1)).drew) w.heap.size 55 (cs ⟨n1, l1, p1, k1, o1, e1, b1⟩)) := Lib.hid (((((((hZ.put 0 (.int .i64 n1)).put 1 (.int .i64 l1)).put 2 (.int .i64 p1)).put 3 (.int .i64 k1)).put 4 (.bool o1)).put 5 (.bool e1)).put 6 (.bool b1)).drew
      clear hf
      go_wp2_with fail
      go_region_held3 (fun w' => w'.cell? ⟨w.heap.size + 1, 0, none⟩ = some (.int .i64 n1) ∧ w'.cell? ⟨w.heap.size + 1, 1, none⟩ = some (.int .i64 l1) ∧ w'.cell? ⟨w.heap.size + 1, 2, none⟩ = some (.int .i64 p1) ∧ w'.cell? ⟨w.heap.size + 1, 3, none⟩ = some (.int .i64 k1) ∧ w'.cell? ⟨w.heap.size + 1, 4, none⟩ = some (.bool o1) ∧ w'.cell? ⟨w.heap.size + 1, 5, none⟩ = some (.bool e1) ∧ w'.cell? ⟨w.heap.size + 1, 6, none⟩ = some (.bool b1)) (go_keep) (fail)
      go_wp2
      refine bodyPost_ret (results_mid2 Try.results74 _ _ w.heap.size (cs ⟨n1, l1, p1, k1, o1, e1, b1⟩) _ rfl (Mem.Blk.range HBK.out) Try.underlying55 rfl i55) rfl ⟨ret_pair n1 l1 p1 k1 o1 e1 b1 _ HX.out, ?_⟩
      exact (((((((hbel.setCell (Nat.le_refl _) _).setCell (Nat.le_refl _) _).setCell (Nat.le_refl _) _).setCell (Nat.le_refl _) _).setCell (Nat.le_refl _) _).setCell (Nat.le_refl _) _).setCell (Nat.le_refl _) _).drew
end Go.Proofs.Ytbnjijlpbeplmaa.WearEv
