/- The walk of the law on victims, where there is one. -/
import Derived.Test.YtbnjijlpbeplmaaWearV2
namespace Go.Proofs.Ytbnjijlpbeplmaa.WearV3
open Go.ChangeShapes Go.WideShapes Go.ChangeAt Go.RowKit
open WearVM Mem WearC WearD WearE WearF WearV1 WearG WearV2
set_option linter.unusedVariables false
set_option maxHeartbeats 8000000

set_option maxRecDepth 100000 in
theorem someW (b off : Nat) (l : List WearVM.Blk) (n c : Nat) (w : World) (hn : l.length = n) (hr : RdB w (some ⟨b, off, none⟩) l) (h200 : n ≤ 200) (hs : (victimOf l).2 = true) :
    Calls Try.prog 6 #[.slice (some ⟨b, off, none⟩) n c] w fun e w' => e = .returned (.bool true) ∧ Below w.heap.size w w' := by
  obtain ⟨N, hN⟩ : ∃ N, N = (victimOf l).1 := ⟨_, rfl⟩
  have HV : Hid (∀ w', Below w.heap.size w w' → Calls Try.prog 22 #[.slice (some ⟨b, off, none⟩) n c] w' fun e w'' => e = .returned (.tuple #[.int .i64 N, .bool true]) ∧ Below w'.heap.size w' w'') := Lib.hid fun w' hb => by
    have := victimW (some ⟨b, off, none⟩) l n c w' hn (hr.below hb) h200
    rw [hs, ← hN] at this
    exact this
  have HF : Hid (fullV l = false) := Lib.hid (lawTrue l hs).1
  have HG : Hid (foundV N l l = true) := Lib.hid (by rw [hN]; exact (lawTrue l hs).2)
  have HR := Lib.hid hr
  have HN := Lib.hid hn
  clear hr hn hs hN
  go_enter Try.func6, Try.ntmps6
  go_wp2_with fail
  refine (WearK.known_any _).mono ?_
  rintro e w1 ⟨rfl, hb1⟩
  go_wp2_with fail
  refine (HV.out _ hb1).mono ?_
  rintro e w2 ⟨rfl, hb2⟩
  have hb := hb1.trans (hb2.mono hb1.size)
  clear hb1 hb2
  go_wp2
  go_loopw [5, 6, 7] (fun t f i wr => ∃ k : Nat, k ≤ n ∧ i = .int .i64 k ∧ t = .bool (foundV N l (l.take k)) ∧ f = .bool (fullV (l.take k)) ∧ Below w.heap.size w wr) (fun _ _ i _ => n - (intOf i).toNat)
  case atStart => exact ⟨0, by omega, rfl, rfl, rfl, hb⟩
  case round =>
    clear hb
    obtain ⟨k, hk, rfl, rfl, rfl, hbel⟩ := hrel
    by_cases hlt : k < n
    · obtain ⟨hbl, hrg⟩ := HR.out.at k (by rw [HN.out]; exact hlt)
      have HS := Lib.hid (all_snoc fullOf l k (by rw [HN.out]; exact hlt))
      have HT := Lib.hid (any_snoc (foundOf N l) l k (by rw [HN.out]; exact hlt))
      obtain ⟨x, hx⟩ : ∃ x, x = l.getD k zero := ⟨_, rfl⟩
      rw [← hx] at hrg HS HT
      obtain ⟨F, hF⟩ : ∃ F, F = fullV (l.take k) := ⟨_, rfl⟩
      have HS2 : Hid (fullV (l.take (k + 1)) = (F && fullOf x)) := Lib.hid (by rw [hF]; exact HS.out)
      obtain ⟨T, hT⟩ : ∃ T, T = foundV N l (l.take k) := ⟨_, rfl⟩
      have HT2 : Hid (foundV N l (l.take (k + 1)) = (T || foundOf N l x)) := Lib.hid (by rw [hT]; exact HT.out)
      rw [← hF, ← hT]
      clear hF HS hx hT HT
      obtain ⟨n1, l1, p1, k1, o1, e1, b1⟩ := x
      have HRG : Hid (∀ o, o = off + k * 7 → wr.rangeAt b o (#[.int .i64 n1, .int .i64 l1, .int .i64 p1, .int .i64 k1, .bool o1, .bool e1, .bool b1] : Array Value).toList) := Lib.hid fun o ho => by subst ho; exact range_below hrg hbel hbl
      clear hrg
      cases hu : usable ⟨n1, l1, p1, k1, o1, e1, b1⟩ with
      | false =>
        have HS3 : Hid (fullV (l.take (k + 1)) = F) := Lib.hid (by rw [HS2.out]; unfold fullOf; rw [hu]; simp)
        have HT3 : Hid (foundV N l (l.take (k + 1)) = T) := Lib.hid (by rw [HT2.out]; unfold foundOf; rw [hu]; simp)
        rcases unusable hu with h1 | ⟨h1, h2⟩ | ⟨h1, h2, h3⟩
        · have HP := Lib.hid (right_as _ _ h1)
          clear hu h1 HS2 HT2
          go_wp2_with (first
            | ((with_reducible show wpList _ _ _ (Oper.mk _ (Op.load 55 (.tmp 32)) _ _ _ _ :: _) _ _); refine loadMid 55 (.tmp 32) rfl b _ rfl #[.int .i64 n1, .int .i64 l1, .int .i64 p1, .int .i64 k1, .bool o1, .bool e1, .bool b1] (HRG.out _ (by omega)) _ Try.underlying55 rfl i55 rfl ?_)
            | (go_at_call 30
               refine (HP.out _).mono ?_
               rintro e w3 ⟨rfl, hb3⟩
               have hb4 := (hbel.alloc hbel.size (.cells #[.int .i64 n1, .int .i64 l1, .int .i64 p1, .int .i64 k1, .bool o1, .bool e1, .bool b1] 55)).trans (hb3.mono (by have := hbel.size; simp; omega))
               clear hb3))
          go_roundw
          case rel => exact ⟨k + 1, by omega, by go_num, by rw [HT3.out], by rw [HS3.out], hb4⟩
          case measure => simp [intOf]; omega
        · have HP := Lib.hid (right_as _ _ h1)
          dsimp only at h2
          subst h2
          clear hu h1 HS2 HT2
          go_wp2_with (first
            | ((with_reducible show wpList _ _ _ (Oper.mk _ (Op.load 55 (.tmp 32)) _ _ _ _ :: _) _ _); refine loadMid 55 (.tmp 32) rfl b _ rfl #[.int .i64 n1, .int .i64 l1, .int .i64 p1, .int .i64 k1, .bool true, .bool e1, .bool b1] (HRG.out _ (by omega)) _ Try.underlying55 rfl i55 rfl ?_)
            | (go_at_call 30
               refine (HP.out _).mono ?_
               rintro e w3 ⟨rfl, hb3⟩
               have hk3 := (Mem.Blk.new wr 55 _).below hb3 (by simp)
               have c4 := hk3.seven.2.2.2.2.1
               have hb4 := (hbel.alloc hbel.size (.cells #[.int .i64 n1, .int .i64 l1, .int .i64 p1, .int .i64 k1, .bool true, .bool e1, .bool b1] 55)).trans (hb3.mono (by have := hbel.size; simp; omega))
               clear hb3 hk3))
          go_roundw
          case rel => exact ⟨k + 1, by omega, by go_num, by rw [HT3.out], by rw [HS3.out], hb4⟩
          case measure => simp [intOf]; omega
        · have HP := Lib.hid (right_as _ _ h1)
          dsimp only at h2 h3
          subst h2 h3
          clear hu h1 HS2 HT2
          go_wp2_with (first
            | ((with_reducible show wpList _ _ _ (Oper.mk _ (Op.load 55 (.tmp 32)) _ _ _ _ :: _) _ _); refine loadMid 55 (.tmp 32) rfl b _ rfl #[.int .i64 n1, .int .i64 l1, .int .i64 p1, .int .i64 k1, .bool false, .bool e1, .bool true] (HRG.out _ (by omega)) _ Try.underlying55 rfl i55 rfl ?_)
            | (go_at_call 30
               refine (HP.out _).mono ?_
               rintro e w3 ⟨rfl, hb3⟩
               have hk3 := (Mem.Blk.new wr 55 _).below hb3 (by simp)
               have c4 := hk3.seven.2.2.2.2.1
               have c6 := hk3.seven.2.2.2.2.2.2
               have hb4 := (hbel.alloc hbel.size (.cells #[.int .i64 n1, .int .i64 l1, .int .i64 p1, .int .i64 k1, .bool false, .bool e1, .bool true] 55)).trans (hb3.mono (by have := hbel.size; simp; omega))
               clear hb3 hk3))
          go_roundw
          case rel => exact ⟨k + 1, by omega, by go_num, by rw [HT3.out], by rw [HS3.out], hb4⟩
          case measure => simp [intOf]; omega
      | true =>
        obtain ⟨h1, h2, h3⟩ := usable_iff.1 hu
        have hrx := right_iff.1 h1
        have HP := Lib.hid (right_as _ _ h1)
        dsimp only at h2 h3 hrx
        subst h2 h3
        have HS3 : Hid (fullV (l.take (k + 1)) = (F && (l1 == p1))) := Lib.hid (by rw [HS2.out]; unfold fullOf; rw [hu]; simp)
        by_cases hnn : n1 = N
        · have HT3 : Hid (foundV N l (l.take (k + 1)) = (T || (decide (l1 < p1) && leastV ⟨n1, l1, p1, k1, false, e1, false⟩ l))) := Lib.hid (by rw [HT2.out]; unfold foundOf; rw [hu]; simp [hnn])
          have hnb : (n1 != N) = false := by simpa using hnn
          have hr1 : 0 ≤ l1 := by omega
          have hr2 : l1 ≤ 256 := by omega
          have hr3 : 1 ≤ p1 := by omega
          have hr4 : p1 ≤ 256 := by omega
          clear hu h1 HS2 HT2 hnn hrx
          obtain ⟨wo, rfl⟩ : ∃ wo : World, wo = wr := ⟨_, rfl⟩
          cases F <;> cases T <;>
          · go_wp2_with (first
              | ((with_reducible show wpList _ _ _ (Oper.mk _ (Op.load 55 (.tmp 32)) _ _ _ _ :: _) _ _); refine loadMid 55 (.tmp 32) rfl b _ rfl #[.int .i64 n1, .int .i64 l1, .int .i64 p1, .int .i64 k1, .bool false, .bool e1, .bool false] (HRG.out _ (by omega)) _ Try.underlying55 rfl i55 rfl ?_)
              | (go_at_call 30
                 refine (HP.out _).mono ?_
                 rintro e w3 ⟨rfl, hb3⟩
                 have hk3 := (Mem.Blk.new wo 55 _).below hb3 (by simp)
                 have c0 := hk3.seven.1
                 have c1 := hk3.seven.2.1
                 have c2 := hk3.seven.2.2.1
                 have c4 := hk3.seven.2.2.2.2.1
                 have c6 := hk3.seven.2.2.2.2.2.2
                 have HK3 := Lib.hid hk3
                 have hb4 := (hbel.alloc hbel.size (.cells #[.int .i64 n1, .int .i64 l1, .int .i64 p1, .int .i64 k1, .bool false, .bool e1, .bool false] 55)).trans (hb3.mono (by have := hbel.size; simp; omega))
                 clear hb3 hk3))
            go_loopw [9, 10] (fun d j wr => ∃ m : Nat, m ≤ n ∧ j = .int .i64 m ∧ d = .bool (decide (l1 < p1) && leastV ⟨n1, l1, p1, k1, false, e1, false⟩ (l.take m)) ∧ Mem.Blk wr wo.heap.size 55 #[.int .i64 n1, .int .i64 l1, .int .i64 p1, .int .i64 k1, .bool false, .bool e1, .bool false] ∧ Below w.heap.size w wr) (fun _ j _ => n - (intOf j).toNat)
            case atStart => exact ⟨0, by omega, rfl, by simp [leastV], HK3.out, hb4⟩
            case round =>
              clear c0 c1 c2 c4 c6 HK3 hb4
              obtain ⟨m, hm, rfl, rfl, hg, hbi⟩ := hrel
              by_cases hltm : m < n
              · obtain ⟨_, hrgm⟩ := HR.out.at m (by rw [HN.out]; exact hltm)
                have HI := Lib.hid (all_snoc (leastOf ⟨n1, l1, p1, k1, false, e1, false⟩) l m (by rw [HN.out]; exact hltm))
                obtain ⟨y, hy⟩ : ∃ y, y = l.getD m zero := ⟨_, rfl⟩
                rw [← hy] at hrgm HI
                obtain ⟨D, hD⟩ : ∃ D, D = (decide (l1 < p1) && leastV ⟨n1, l1, p1, k1, false, e1, false⟩ (l.take m)) := ⟨_, rfl⟩
                have HI2 : Hid ((decide (l1 < p1) && leastV ⟨n1, l1, p1, k1, false, e1, false⟩ (l.take (m + 1))) = (D && leastOf ⟨n1, l1, p1, k1, false, e1, false⟩ y)) := Lib.hid (by rw [hD, Bool.and_assoc]; exact congrArg (fun z => decide (l1 < p1) && z) HI.out)
                rw [← hD]
                clear hD HI hy
                obtain ⟨n2, l2, p2, k2, o2, e2, b2⟩ := y
                have HRM : Hid (∀ o, o = off + m * 7 → wr.rangeAt b o (#[.int .i64 n2, .int .i64 l2, .int .i64 p2, .int .i64 k2, .bool o2, .bool e2, .bool b2] : Array Value).toList) := Lib.hid fun o ho => by subst ho; exact range_below hrgm hbi hbl
                clear hrgm
                cases D with
                | false =>
                  have HI3 : Hid ((decide (l1 < p1) && leastV ⟨n1, l1, p1, k1, false, e1, false⟩ (l.take (m + 1))) = false) := Lib.hid (by rw [HI2.out]; rfl)
                  clear HI2
                  go_wp2_with (first
                    | ((with_reducible show wpList _ _ _ (Oper.mk _ (Op.load 55 (.tmp 74)) _ _ _ _ :: _) _ _); refine loadMid 55 (.tmp 74) rfl b _ rfl #[.int .i64 n2, .int .i64 l2, .int .i64 p2, .int .i64 k2, .bool o2, .bool e2, .bool b2] (HRM.out _ (by omega)) _ Try.underlying55 rfl i55 rfl ?_))
                  go_roundw
                  case rel => exact ⟨m + 1, by omega, by go_num, by rw [HI3.out], hg.alloc _, hbi.alloc hbi.size _⟩
                  case measure => simp [intOf]; omega
                | true =>
                  cases hu2 : usable ⟨n2, l2, p2, k2, o2, e2, b2⟩ with
                  | false =>
                    have HI3 : Hid ((decide (l1 < p1) && leastV ⟨n1, l1, p1, k1, false, e1, false⟩ (l.take (m + 1))) = true) := Lib.hid (by rw [HI2.out]; unfold leastOf; rw [hu2]; rfl)
                    rcases unusable hu2 with i1 | ⟨i1, i2⟩ | ⟨i1, i2, i3⟩
                    · have HP2 := Lib.hid (right_as _ _ i1)
                      clear hu2 i1 HI2
                      go_wp2_with (first
                        | ((with_reducible show wpList _ _ _ (Oper.mk _ (Op.load 55 (.tmp 74)) _ _ _ _ :: _) _ _); refine loadMid 55 (.tmp 74) rfl b _ rfl #[.int .i64 n2, .int .i64 l2, .int .i64 p2, .int .i64 k2, .bool o2, .bool e2, .bool b2] (HRM.out _ (by omega)) _ Try.underlying55 rfl i55 rfl ?_)
                        | (go_at_call 30
                           refine (HP2.out _).mono ?_
                           rintro e w5 ⟨rfl, hb5⟩
                           have hk5 := (Mem.Blk.new wr 55 _).below hb5 (by simp)
                           have hg5 := (hg.alloc (.cells #[.int .i64 n2, .int .i64 l2, .int .i64 p2, .int .i64 k2, .bool o2, .bool e2, .bool b2] 55)).below hb5 (by have := hg.lt; simp; omega)
                           have hb6 := (hbi.alloc hbi.size (.cells #[.int .i64 n2, .int .i64 l2, .int .i64 p2, .int .i64 k2, .bool o2, .bool e2, .bool b2] 55)).trans (hb5.mono (by have := hbi.size; simp; omega))
                           clear hb5 hk5))
                      go_roundw
                      case rel => exact ⟨m + 1, by omega, by go_num, by rw [HI3.out], hg5, hb6⟩
                      case measure => simp [intOf]; omega
                    · have HP2 := Lib.hid (right_as _ _ i1)
                      dsimp only at i2
                      subst i2
                      clear hu2 i1 HI2
                      go_wp2_with (first
                        | ((with_reducible show wpList _ _ _ (Oper.mk _ (Op.load 55 (.tmp 74)) _ _ _ _ :: _) _ _); refine loadMid 55 (.tmp 74) rfl b _ rfl #[.int .i64 n2, .int .i64 l2, .int .i64 p2, .int .i64 k2, .bool true, .bool e2, .bool b2] (HRM.out _ (by omega)) _ Try.underlying55 rfl i55 rfl ?_)
                        | (go_at_call 30
                           refine (HP2.out _).mono ?_
                           rintro e w5 ⟨rfl, hb5⟩
                           have hk5 := (Mem.Blk.new wr 55 _).below hb5 (by simp)
                           have hg5 := (hg.alloc (.cells #[.int .i64 n2, .int .i64 l2, .int .i64 p2, .int .i64 k2, .bool true, .bool e2, .bool b2] 55)).below hb5 (by have := hg.lt; simp; omega)
                           have d4 := hk5.seven.2.2.2.2.1
                           have hb6 := (hbi.alloc hbi.size (.cells #[.int .i64 n2, .int .i64 l2, .int .i64 p2, .int .i64 k2, .bool true, .bool e2, .bool b2] 55)).trans (hb5.mono (by have := hbi.size; simp; omega))
                           clear hb5 hk5))
                      go_roundw
                      case rel => exact ⟨m + 1, by omega, by go_num, by rw [HI3.out], hg5, hb6⟩
                      case measure => simp [intOf]; omega
                    · have HP2 := Lib.hid (right_as _ _ i1)
                      dsimp only at i2 i3
                      subst i2 i3
                      clear hu2 i1 HI2
                      go_wp2_with (first
                        | ((with_reducible show wpList _ _ _ (Oper.mk _ (Op.load 55 (.tmp 74)) _ _ _ _ :: _) _ _); refine loadMid 55 (.tmp 74) rfl b _ rfl #[.int .i64 n2, .int .i64 l2, .int .i64 p2, .int .i64 k2, .bool false, .bool e2, .bool true] (HRM.out _ (by omega)) _ Try.underlying55 rfl i55 rfl ?_)
                        | (go_at_call 30
                           refine (HP2.out _).mono ?_
                           rintro e w5 ⟨rfl, hb5⟩
                           have hk5 := (Mem.Blk.new wr 55 _).below hb5 (by simp)
                           have hg5 := (hg.alloc (.cells #[.int .i64 n2, .int .i64 l2, .int .i64 p2, .int .i64 k2, .bool false, .bool e2, .bool true] 55)).below hb5 (by have := hg.lt; simp; omega)
                           have d4 := hk5.seven.2.2.2.2.1
                           have d6 := hk5.seven.2.2.2.2.2.2
                           have hb6 := (hbi.alloc hbi.size (.cells #[.int .i64 n2, .int .i64 l2, .int .i64 p2, .int .i64 k2, .bool false, .bool e2, .bool true] 55)).trans (hb5.mono (by have := hbi.size; simp; omega))
                           clear hb5 hk5))
                      go_roundw
                      case rel => exact ⟨m + 1, by omega, by go_num, by rw [HI3.out], hg5, hb6⟩
                      case measure => simp [intOf]; omega
                  | true =>
                    obtain ⟨i1, i2, i3⟩ := usable_iff.1 hu2
                    have hry := right_iff.1 i1
                    have HP2 := Lib.hid (right_as _ _ i1)
                    dsimp only at i2 i3 hry
                    subst i2 i3
                    have HI3 : Hid ((decide (l1 < p1) && leastV ⟨n1, l1, p1, k1, false, e1, false⟩ (l.take (m + 1))) = decide (l1 * p2 ≤ l2 * p1)) := Lib.hid (by rw [HI2.out]; unfold leastOf; rw [hu2]; simp)
                    have m1 := prod_bd (a := l2) (b := p1) (by omega) (by omega) (by omega) (by omega)
                    have m2 := prod_bd (a := l1) (b := p2) (by omega) (by omega) (by omega) (by omega)
                    clear hu2 i1 HI2 hry
                    go_wp2_with (first
                      | ((with_reducible show wpList _ _ _ (Oper.mk _ (Op.load 55 (.tmp 74)) _ _ _ _ :: _) _ _); refine loadMid 55 (.tmp 74) rfl b _ rfl #[.int .i64 n2, .int .i64 l2, .int .i64 p2, .int .i64 k2, .bool false, .bool e2, .bool false] (HRM.out _ (by omega)) _ Try.underlying55 rfl i55 rfl ?_)
                      | (go_at_call 30
                         refine (HP2.out _).mono ?_
                         rintro e w5 ⟨rfl, hb5⟩
                         have hk5 := (Mem.Blk.new wr 55 _).below hb5 (by simp)
                         have hg5 := (hg.alloc (.cells #[.int .i64 n2, .int .i64 l2, .int .i64 p2, .int .i64 k2, .bool false, .bool e2, .bool false] 55)).below hb5 (by have := hg.lt; simp; omega)
                         have d1 := hk5.seven.2.1
                         have d2 := hk5.seven.2.2.1
                         have d4 := hk5.seven.2.2.2.2.1
                         have d6 := hk5.seven.2.2.2.2.2.2
                         have q1 := hg5.seven.2.1
                         have q2 := hg5.seven.2.2.1
                         have hb6 := (hbi.alloc hbi.size (.cells #[.int .i64 n2, .int .i64 l2, .int .i64 p2, .int .i64 k2, .bool false, .bool e2, .bool false] 55)).trans (hb5.mono (by have := hbi.size; simp; omega))
                         clear hb5 hk5))
                    go_roundw
                    case rel => exact ⟨m + 1, by omega, by go_num, by rw [HI3.out], hg5, hb6⟩
                    case measure => simp [intOf]; omega
              · obtain rfl : m = n := by omega
                have HI : Hid (leastV ⟨n1, l1, p1, k1, false, e1, false⟩ (l.take m) = leastV ⟨n1, l1, p1, k1, false, e1, false⟩ l) := Lib.hid (by rw [List.take_of_length_le (by rw [HN.out]; omega)])
                rw [HI.out]
                go_wp2
                go_roundw
                case rel => exact ⟨k + 1, by omega, by go_num, by rw [HT3.out]; rfl, by rw [HS3.out]; rfl, hbi⟩
                case measure => simp [intOf]; omega
        · have HT3 : Hid (foundV N l (l.take (k + 1)) = T) := Lib.hid (by rw [HT2.out]; unfold foundOf; rw [hu]; simp [hnn])
          have hnb : (n1 != N) = true := by simpa using hnn
          clear hu h1 HS2 HT2 hnn hrx
          cases F <;>
          · go_wp2_with (first
              | ((with_reducible show wpList _ _ _ (Oper.mk _ (Op.load 55 (.tmp 32)) _ _ _ _ :: _) _ _); refine loadMid 55 (.tmp 32) rfl b _ rfl #[.int .i64 n1, .int .i64 l1, .int .i64 p1, .int .i64 k1, .bool false, .bool e1, .bool false] (HRG.out _ (by omega)) _ Try.underlying55 rfl i55 rfl ?_)
              | (go_at_call 30
                 refine (HP.out _).mono ?_
                 rintro e w3 ⟨rfl, hb3⟩
                 have hk3 := (Mem.Blk.new wr 55 _).below hb3 (by simp)
                 have c0 := hk3.seven.1
                 have c1 := hk3.seven.2.1
                 have c2 := hk3.seven.2.2.1
                 have c4 := hk3.seven.2.2.2.2.1
                 have c6 := hk3.seven.2.2.2.2.2.2
                 have hb4 := (hbel.alloc hbel.size (.cells #[.int .i64 n1, .int .i64 l1, .int .i64 p1, .int .i64 k1, .bool false, .bool e1, .bool false] 55)).trans (hb3.mono (by have := hbel.size; simp; omega))
                 clear hb3 hk3))
            go_roundw
            case rel => exact ⟨k + 1, by omega, by go_num, by rw [HT3.out], by rw [HS3.out]; rfl, hb4⟩
            case measure => simp [intOf]; omega
    · obtain rfl : k = n := by omega
      have HL : Hid (fullV (l.take k) = false) := Lib.hid (by rw [List.take_of_length_le (by rw [HN.out]; omega)]; exact HF.out)
      have HM : Hid (foundV N l (l.take k) = true) := Lib.hid (by rw [List.take_of_length_le (by rw [HN.out]; omega)]; exact HG.out)
      rw [HL.out, HM.out]
      go_wp2
      go_ret
      exact ⟨rfl, hbel⟩
end Go.Proofs.Ytbnjijlpbeplmaa.WearV3
