/- The walk of the law on blocks that are taken next. -/
import Derived.Test.YtbnjijlpbeplmaaWearV2
namespace Go.Proofs.Ytbnjijlpbeplmaa.WearF2
open Go.ChangeShapes Go.WideShapes Go.ChangeAt Go.RowKit
open WearVM Mem WearC WearD WearE WearF WearV1 WearG
open WearV2 (unusable)
set_option linter.unusedVariables false
set_option maxHeartbeats 8000000

theorem nilW (a : Option Addr) (c : Nat) (one : Bool) (w : World) (hr : RdB w a []) :
    Calls Try.prog 7 #[.slice a 0 c, .bool one] w fun e w' => e = .returned (.bool true) ∧ Below w.heap.size w w' := by
  have HV := Lib.hid (fun w => freshW one a [] 0 c w rfl)
  have HR := Lib.hid hr
  clear hr
  go_enter Try.func7, Try.ntmps7
  go_wp2_with fail
  refine (WearK.known_any _).mono ?_
  rintro e w1 ⟨rfl, hb1⟩
  go_wp2_with fail
  refine (HV.out _ (HR.out.below hb1) (by omega)).mono ?_
  rintro e w2 ⟨rfl, hb2⟩
  have hb := hb1.trans (hb2.mono hb1.size)
  clear hb1 hb2
  simp only [show freshOf one [] = (0, false) from rfl]
  go_wp2
  refine wp_loop_rounds 1 ?_
  rw [rounds_succ]
  go_wp2
  go_ret
  exact ⟨rfl, hb⟩

theorem longW (a : Option Addr) (n c : Nat) (one : Bool) (w : World) (hn : 200 < n) (hm : n ≤ 9223372036854775807) :
    Calls Try.prog 7 #[.slice a n c, .bool one] w fun e w' => e = .returned (.bool true) ∧ Below w.heap.size w w' := by
  go_enter Try.func7, Try.ntmps7
  go_wp2_with fail
  refine (WearK.known_any _).mono ?_
  rintro e w1 ⟨rfl, hb1⟩
  go_wp2
  go_ret
  exact ⟨rfl, hb1⟩

/-- What a block's tests tell that is not empty. -/
theorem unempty {b : WearVM.Blk} (h : empty b = false) : right b = false ∨ (right b = true ∧ b.opn = true) ∨ (right b = true ∧ b.opn = false ∧ b.bad = true) ∨ (right b = true ∧ b.opn = false ∧ b.bad = false ∧ 0 < b.live) := by
  cases hu : usable b with
  | false =>
    rcases unusable hu with h1 | h1 | h1
    · exact .inl h1
    · exact .inr (.inl h1)
    · exact .inr (.inr (.inl h1))
  | true =>
    obtain ⟨h1, h2, h3⟩ := usable_iff.1 hu
    have := right_iff.1 h1
    unfold empty at h
    rw [hu] at h
    have hl : b.live ≠ 0 := by simpa using h
    exact .inr (.inr (.inr ⟨h1, h2, h3, by omega⟩))

set_option maxRecDepth 100000 in
theorem freesW (b off : Nat) (l : List WearVM.Blk) (n c : Nat) (one : Bool) (w : World) (hn : l.length = n) (hr : RdB w (some ⟨b, off, none⟩) l) (h200 : n ≤ 200) :
    Calls Try.prog 7 #[.slice (some ⟨b, off, none⟩) n c, .bool one] w fun e w' => e = .returned (.bool true) ∧ Below w.heap.size w w' := by
  obtain ⟨N, hN⟩ : ∃ N, N = (freshOf one l).1 := ⟨_, rfl⟩
  obtain ⟨S, hS⟩ : ∃ S, S = (freshOf one l).2 := ⟨_, rfl⟩
  have HV : Hid (∀ w', Below w.heap.size w w' → Calls Try.prog 24 #[.bool one, .slice (some ⟨b, off, none⟩) n c] w' fun e w'' => e = .returned (.tuple #[.int .i64 N, .bool S]) ∧ Below w'.heap.size w' w'') := Lib.hid fun w' hb => by
    have := freshW one (some ⟨b, off, none⟩) l n c w' hn (hr.below hb) h200
    rw [← hS, ← hN] at this
    exact this
  have HF : Hid ((S = false → N = 0 ∧ anyF l = false) ∧ (S = true → anyF l = true ∧ foundF N l l = true)) := Lib.hid ⟨fun h => by rw [hN]; exact freshFalse one l (by rw [← hS]; exact h), fun h => by rw [hN]; exact freshTrue one l (by rw [← hS]; exact h)⟩
  have HR := Lib.hid hr
  have HN := Lib.hid hn
  clear hr hn hN hS
  go_enter Try.func7, Try.ntmps7
  go_wp2_with fail
  refine (WearK.known_any _).mono ?_
  rintro e w1 ⟨rfl, hb1⟩
  go_wp2_with fail
  refine (HV.out _ hb1).mono ?_
  rintro e w2 ⟨rfl, hb2⟩
  have hb := hb1.trans (hb2.mono hb1.size)
  clear hb1 hb2
  go_wp2
  go_loopw [7, 8, 9] (fun t f i wr => ∃ k : Nat, k ≤ n ∧ i = .int .i64 k ∧ t = .bool (foundF N l (l.take k)) ∧ f = .bool (anyF (l.take k)) ∧ Below w.heap.size w wr) (fun _ _ i _ => n - (intOf i).toNat)
  case atStart => exact ⟨0, by omega, rfl, rfl, rfl, hb⟩
  case round =>
    clear hb
    obtain ⟨k, hk, rfl, rfl, rfl, hbel⟩ := hrel
    by_cases hlt : k < n
    · obtain ⟨hbl, hrg⟩ := HR.out.at k (by rw [HN.out]; exact hlt)
      have HS := Lib.hid (any_snoc empty l k (by rw [HN.out]; exact hlt))
      have HT := Lib.hid (any_snoc (foundOfF N l) l k (by rw [HN.out]; exact hlt))
      obtain ⟨x, hx⟩ : ∃ x, x = l.getD k zero := ⟨_, rfl⟩
      rw [← hx] at hrg HS HT
      obtain ⟨F, hF⟩ : ∃ F, F = anyF (l.take k) := ⟨_, rfl⟩
      have HS2 : Hid (anyF (l.take (k + 1)) = (F || empty x)) := Lib.hid (by rw [hF]; exact HS.out)
      obtain ⟨T, hT⟩ : ∃ T, T = foundF N l (l.take k) := ⟨_, rfl⟩
      have HT2 : Hid (foundF N l (l.take (k + 1)) = (T || foundOfF N l x)) := Lib.hid (by rw [hT]; exact HT.out)
      rw [← hF, ← hT]
      clear hF HS hx hT HT
      obtain ⟨n1, l1, p1, k1, o1, e1, b1⟩ := x
      have HRG : Hid (∀ o, o = off + k * 7 → wr.rangeAt b o (#[.int .i64 n1, .int .i64 l1, .int .i64 p1, .int .i64 k1, .bool o1, .bool e1, .bool b1] : Array Value).toList) := Lib.hid fun o ho => by subst ho; exact range_below hrg hbel hbl
      clear hrg
      cases hu : empty ⟨n1, l1, p1, k1, o1, e1, b1⟩ with
      | false =>
        have HS3 : Hid (anyF (l.take (k + 1)) = F) := Lib.hid (by rw [HS2.out, hu]; simp)
        have HT3 : Hid (foundF N l (l.take (k + 1)) = T) := Lib.hid (by rw [HT2.out]; unfold foundOfF; rw [hu]; simp)
        rcases unempty hu with h1 | ⟨h1, h2⟩ | ⟨h1, h2, h3⟩ | ⟨h1, h2, h3, h4⟩
        · have HP := Lib.hid (right_as _ _ h1)
          clear hu h1 HS2 HT2
          go_wp2_with (first
            | ((with_reducible show wpList _ _ _ (Oper.mk _ (Op.load 55 (.tmp 33)) _ _ _ _ :: _) _ _); refine loadMid 55 (.tmp 33) rfl b _ rfl #[.int .i64 n1, .int .i64 l1, .int .i64 p1, .int .i64 k1, .bool o1, .bool e1, .bool b1] (HRG.out _ (by omega)) _ Try.underlying55 rfl i55 rfl ?_)
            | (go_at_call 30
               refine (HP.out _).mono ?_
               rintro e w3 ⟨rfl, hb3⟩
               have hk3 := (Mem.Blk.new wr 55 _).below hb3 (by simp)
               have hb4 := (hbel.alloc hbel.size (.cells #[.int .i64 n1, .int .i64 l1, .int .i64 p1, .int .i64 k1, .bool o1, .bool e1, .bool b1] 55)).trans (hb3.mono (by have := hbel.size; simp; omega))
               clear hb3 hk3))
          go_roundw
          case rel => exact ⟨k + 1, by omega, by go_num, by rw [HT3.out], by rw [HS3.out], hb4⟩
          case measure => simp [intOf]; omega
        · have HP := Lib.hid (right_as _ _ h1)
          dsimp only at h2
          subst h2
          clear hu h1 HS2 HT2
          go_wp2_with (first
            | ((with_reducible show wpList _ _ _ (Oper.mk _ (Op.load 55 (.tmp 33)) _ _ _ _ :: _) _ _); refine loadMid 55 (.tmp 33) rfl b _ rfl #[.int .i64 n1, .int .i64 l1, .int .i64 p1, .int .i64 k1, .bool true, .bool e1, .bool b1] (HRG.out _ (by omega)) _ Try.underlying55 rfl i55 rfl ?_)
            | (go_at_call 30
               refine (HP.out _).mono ?_
               rintro e w3 ⟨rfl, hb3⟩
               have hk3 := (Mem.Blk.new wr 55 _).below hb3 (by simp)
               have c4 := hk3.seven.2.2.2.2.1
               have hb4 := (hbel.alloc hbel.size (.cells #[.int .i64 n1, .int .i64 l1, .int .i64 p1, .int .i64 k1, .bool true, .bool e1, .bool b1] 55)).trans (hb3.mono (by have := hbel.size; simp; omega))
               clear hb3 hk3))
          go_roundw
          case rel => exact ⟨k + 1, by omega, by go_num, by rw [HT3.out], by rw [HS3.out], hb4⟩
          case measure => simp [intOf]; omega
        · have HP := Lib.hid (right_as _ _ h1)
          dsimp only at h2 h3
          subst h2 h3
          clear hu h1 HS2 HT2
          go_wp2_with (first
            | ((with_reducible show wpList _ _ _ (Oper.mk _ (Op.load 55 (.tmp 33)) _ _ _ _ :: _) _ _); refine loadMid 55 (.tmp 33) rfl b _ rfl #[.int .i64 n1, .int .i64 l1, .int .i64 p1, .int .i64 k1, .bool false, .bool e1, .bool true] (HRG.out _ (by omega)) _ Try.underlying55 rfl i55 rfl ?_)
            | (go_at_call 30
               refine (HP.out _).mono ?_
               rintro e w3 ⟨rfl, hb3⟩
               have hk3 := (Mem.Blk.new wr 55 _).below hb3 (by simp)
               have c4 := hk3.seven.2.2.2.2.1
               have c6 := hk3.seven.2.2.2.2.2.2
               have hb4 := (hbel.alloc hbel.size (.cells #[.int .i64 n1, .int .i64 l1, .int .i64 p1, .int .i64 k1, .bool false, .bool e1, .bool true] 55)).trans (hb3.mono (by have := hbel.size; simp; omega))
               clear hb3 hk3))
          go_roundw
          case rel => exact ⟨k + 1, by omega, by go_num, by rw [HT3.out], by rw [HS3.out], hb4⟩
          case measure => simp [intOf]; omega
        · have HP := Lib.hid (right_as _ _ h1)
          dsimp only at h2 h3 h4
          subst h2 h3
          clear hu h1 HS2 HT2
          go_wp2_with (first
            | ((with_reducible show wpList _ _ _ (Oper.mk _ (Op.load 55 (.tmp 33)) _ _ _ _ :: _) _ _); refine loadMid 55 (.tmp 33) rfl b _ rfl #[.int .i64 n1, .int .i64 l1, .int .i64 p1, .int .i64 k1, .bool false, .bool e1, .bool false] (HRG.out _ (by omega)) _ Try.underlying55 rfl i55 rfl ?_)
            | (go_at_call 30
               refine (HP.out _).mono ?_
               rintro e w3 ⟨rfl, hb3⟩
               have hk3 := (Mem.Blk.new wr 55 _).below hb3 (by simp)
               have c4 := hk3.seven.2.2.2.2.1
               have c6 := hk3.seven.2.2.2.2.2.2
               have c1 := hk3.seven.2.1
               have hb4 := (hbel.alloc hbel.size (.cells #[.int .i64 n1, .int .i64 l1, .int .i64 p1, .int .i64 k1, .bool false, .bool e1, .bool false] 55)).trans (hb3.mono (by have := hbel.size; simp; omega))
               clear hb3 hk3))
          go_roundw
          case rel => exact ⟨k + 1, by omega, by go_num, by rw [HT3.out], by rw [HS3.out], hb4⟩
          case measure => simp [intOf]; omega
      | true =>
        obtain ⟨hus, h4⟩ := empty_usable hu
        obtain ⟨h1, h2, h3⟩ := usable_iff.1 hus
        have HP := Lib.hid (right_as _ _ h1)
        dsimp only at h2 h3 h4
        subst h2 h3 h4
        have HS3 : Hid (anyF (l.take (k + 1)) = true) := Lib.hid (by rw [HS2.out, hu]; simp)
        have HT3 : Hid (foundF N l (l.take (k + 1)) = (T || ((n1 == N) && l.all (leastF ⟨n1, 0, p1, k1, false, e1, false⟩)))) := Lib.hid (by rw [HT2.out]; unfold foundOfF; rw [hu]; simp)
        clear hu h1 HS2 HT2 hus
        obtain ⟨wo, rfl⟩ : ∃ wo : World, wo = wr := ⟨_, rfl⟩
        cases T <;>
        · go_wp2_with (first
            | ((with_reducible show wpList _ _ _ (Oper.mk _ (Op.load 55 (.tmp 33)) _ _ _ _ :: _) _ _); refine loadMid 55 (.tmp 33) rfl b _ rfl #[.int .i64 n1, .int .i64 0, .int .i64 p1, .int .i64 k1, .bool false, .bool e1, .bool false] (HRG.out _ (by omega)) _ Try.underlying55 rfl i55 rfl ?_)
            | (go_at_call 30
               refine (HP.out _).mono ?_
               rintro e w3 ⟨rfl, hb3⟩
               have hk3 := (Mem.Blk.new wo 55 _).below hb3 (by simp)
               have c0 := hk3.seven.1
               have c1 := hk3.seven.2.1
               have c4 := hk3.seven.2.2.2.2.1
               have c6 := hk3.seven.2.2.2.2.2.2
               have HK3 := Lib.hid hk3
               have hb4 := (hbel.alloc hbel.size (.cells #[.int .i64 n1, .int .i64 0, .int .i64 p1, .int .i64 k1, .bool false, .bool e1, .bool false] 55)).trans (hb3.mono (by have := hbel.size; simp; omega))
               clear hb3 hk3))
          go_loopw [11, 12] (fun d j wr => ∃ m : Nat, m ≤ n ∧ j = .int .i64 m ∧ d = .bool ((n1 == N) && (l.take m).all (leastF ⟨n1, 0, p1, k1, false, e1, false⟩)) ∧ Mem.Blk wr wo.heap.size 55 #[.int .i64 n1, .int .i64 0, .int .i64 p1, .int .i64 k1, .bool false, .bool e1, .bool false] ∧ Below w.heap.size w wr) (fun _ j _ => n - (intOf j).toNat)
          case atStart => exact ⟨0, by omega, rfl, by simp, HK3.out, hb4⟩
          case round =>
            clear c0 c1 c4 c6 HK3 hb4
            obtain ⟨m, hm, rfl, rfl, hg, hbi⟩ := hrel
            by_cases hltm : m < n
            · obtain ⟨_, hrgm⟩ := HR.out.at m (by rw [HN.out]; exact hltm)
              have HI := Lib.hid (all_snoc (leastF ⟨n1, 0, p1, k1, false, e1, false⟩) l m (by rw [HN.out]; exact hltm))
              obtain ⟨y, hy⟩ : ∃ y, y = l.getD m zero := ⟨_, rfl⟩
              rw [← hy] at hrgm HI
              obtain ⟨D, hD⟩ : ∃ D, D = ((n1 == N) && (l.take m).all (leastF ⟨n1, 0, p1, k1, false, e1, false⟩)) := ⟨_, rfl⟩
              have HI2 : Hid (((n1 == N) && (l.take (m + 1)).all (leastF ⟨n1, 0, p1, k1, false, e1, false⟩)) = (D && leastF ⟨n1, 0, p1, k1, false, e1, false⟩ y)) := Lib.hid (by rw [hD, Bool.and_assoc]; exact congrArg (fun z => (n1 == N) && z) HI.out)
              rw [← hD]
              clear hD HI hy
              obtain ⟨n2, l2, p2, k2, o2, e2, b2⟩ := y
              have HRM : Hid (∀ o, o = off + m * 7 → wr.rangeAt b o (#[.int .i64 n2, .int .i64 l2, .int .i64 p2, .int .i64 k2, .bool o2, .bool e2, .bool b2] : Array Value).toList) := Lib.hid fun o ho => by subst ho; exact range_below hrgm hbi hbl
              clear hrgm
              cases D with
              | false =>
                have HI3 : Hid (((n1 == N) && (l.take (m + 1)).all (leastF ⟨n1, 0, p1, k1, false, e1, false⟩)) = false) := Lib.hid (by rw [HI2.out]; rfl)
                clear HI2
                go_wp2_with (first
                  | ((with_reducible show wpList _ _ _ (Oper.mk _ (Op.load 55 (.tmp 63)) _ _ _ _ :: _) _ _); refine loadMid 55 (.tmp 63) rfl b _ rfl #[.int .i64 n2, .int .i64 l2, .int .i64 p2, .int .i64 k2, .bool o2, .bool e2, .bool b2] (HRM.out _ (by omega)) _ Try.underlying55 rfl i55 rfl ?_))
                go_roundw
                case rel => exact ⟨m + 1, by omega, by go_num, by rw [HI3.out], hg.alloc _, hbi.alloc hbi.size _⟩
                case measure => simp [intOf]; omega
              | true =>
                cases hu2 : empty ⟨n2, l2, p2, k2, o2, e2, b2⟩ with
                | false =>
                  have HI3 : Hid (((n1 == N) && (l.take (m + 1)).all (leastF ⟨n1, 0, p1, k1, false, e1, false⟩)) = true) := Lib.hid (by rw [HI2.out]; unfold leastF; rw [hu2]; rfl)
                  rcases unempty hu2 with i1 | ⟨i1, i2⟩ | ⟨i1, i2, i3⟩ | ⟨i1, i2, i3, i4⟩
                  · have HP2 := Lib.hid (right_as _ _ i1)
                    clear hu2 i1 HI2
                    go_wp2_with (first
                      | ((with_reducible show wpList _ _ _ (Oper.mk _ (Op.load 55 (.tmp 63)) _ _ _ _ :: _) _ _); refine loadMid 55 (.tmp 63) rfl b _ rfl #[.int .i64 n2, .int .i64 l2, .int .i64 p2, .int .i64 k2, .bool o2, .bool e2, .bool b2] (HRM.out _ (by omega)) _ Try.underlying55 rfl i55 rfl ?_)
                      | (go_at_call 30
                         refine (HP2.out _).mono ?_
                         rintro e w5 ⟨rfl, hb5⟩
                         have hk5 := (Mem.Blk.new wr 55 _).below hb5 (by simp)
                         have hg5 := (hg.alloc (.cells #[.int .i64 n2, .int .i64 l2, .int .i64 p2, .int .i64 k2, .bool o2, .bool e2, .bool b2] 55)).below hb5 (by have := hg.lt; simp; omega)
                         have hb6 := (hbi.alloc hbi.size (.cells #[.int .i64 n2, .int .i64 l2, .int .i64 p2, .int .i64 k2, .bool o2, .bool e2, .bool b2] 55)).trans (hb5.mono (by have := hbi.size; simp; omega))
                         clear hb5 hk5))
                    go_roundw
                    case rel => exact ⟨m + 1, by omega, by go_num, by rw [HI3.out], hg5, hb6⟩
                    case measure => simp [intOf]; omega
                  · have HP2 := Lib.hid (right_as _ _ i1)
                    dsimp only at i2
                    subst i2
                    clear hu2 i1 HI2
                    go_wp2_with (first
                      | ((with_reducible show wpList _ _ _ (Oper.mk _ (Op.load 55 (.tmp 63)) _ _ _ _ :: _) _ _); refine loadMid 55 (.tmp 63) rfl b _ rfl #[.int .i64 n2, .int .i64 l2, .int .i64 p2, .int .i64 k2, .bool true, .bool e2, .bool b2] (HRM.out _ (by omega)) _ Try.underlying55 rfl i55 rfl ?_)
                      | (go_at_call 30
                         refine (HP2.out _).mono ?_
                         rintro e w5 ⟨rfl, hb5⟩
                         have hk5 := (Mem.Blk.new wr 55 _).below hb5 (by simp)
                         have hg5 := (hg.alloc (.cells #[.int .i64 n2, .int .i64 l2, .int .i64 p2, .int .i64 k2, .bool true, .bool e2, .bool b2] 55)).below hb5 (by have := hg.lt; simp; omega)
                         have d4 := hk5.seven.2.2.2.2.1
                         have hb6 := (hbi.alloc hbi.size (.cells #[.int .i64 n2, .int .i64 l2, .int .i64 p2, .int .i64 k2, .bool true, .bool e2, .bool b2] 55)).trans (hb5.mono (by have := hbi.size; simp; omega))
                         clear hb5 hk5))
                    go_roundw
                    case rel => exact ⟨m + 1, by omega, by go_num, by rw [HI3.out], hg5, hb6⟩
                    case measure => simp [intOf]; omega
                  · have HP2 := Lib.hid (right_as _ _ i1)
                    dsimp only at i2 i3
                    subst i2 i3
                    clear hu2 i1 HI2
                    go_wp2_with (first
                      | ((with_reducible show wpList _ _ _ (Oper.mk _ (Op.load 55 (.tmp 63)) _ _ _ _ :: _) _ _); refine loadMid 55 (.tmp 63) rfl b _ rfl #[.int .i64 n2, .int .i64 l2, .int .i64 p2, .int .i64 k2, .bool false, .bool e2, .bool true] (HRM.out _ (by omega)) _ Try.underlying55 rfl i55 rfl ?_)
                      | (go_at_call 30
                         refine (HP2.out _).mono ?_
                         rintro e w5 ⟨rfl, hb5⟩
                         have hk5 := (Mem.Blk.new wr 55 _).below hb5 (by simp)
                         have hg5 := (hg.alloc (.cells #[.int .i64 n2, .int .i64 l2, .int .i64 p2, .int .i64 k2, .bool false, .bool e2, .bool true] 55)).below hb5 (by have := hg.lt; simp; omega)
                         have d4 := hk5.seven.2.2.2.2.1
                         have d6 := hk5.seven.2.2.2.2.2.2
                         have hb6 := (hbi.alloc hbi.size (.cells #[.int .i64 n2, .int .i64 l2, .int .i64 p2, .int .i64 k2, .bool false, .bool e2, .bool true] 55)).trans (hb5.mono (by have := hbi.size; simp; omega))
                         clear hb5 hk5))
                    go_roundw
                    case rel => exact ⟨m + 1, by omega, by go_num, by rw [HI3.out], hg5, hb6⟩
                    case measure => simp [intOf]; omega
                  · have HP2 := Lib.hid (right_as _ _ i1)
                    dsimp only at i2 i3 i4
                    subst i2 i3
                    clear hu2 i1 HI2
                    go_wp2_with (first
                      | ((with_reducible show wpList _ _ _ (Oper.mk _ (Op.load 55 (.tmp 63)) _ _ _ _ :: _) _ _); refine loadMid 55 (.tmp 63) rfl b _ rfl #[.int .i64 n2, .int .i64 l2, .int .i64 p2, .int .i64 k2, .bool false, .bool e2, .bool false] (HRM.out _ (by omega)) _ Try.underlying55 rfl i55 rfl ?_)
                      | (go_at_call 30
                         refine (HP2.out _).mono ?_
                         rintro e w5 ⟨rfl, hb5⟩
                         have hk5 := (Mem.Blk.new wr 55 _).below hb5 (by simp)
                         have hg5 := (hg.alloc (.cells #[.int .i64 n2, .int .i64 l2, .int .i64 p2, .int .i64 k2, .bool false, .bool e2, .bool false] 55)).below hb5 (by have := hg.lt; simp; omega)
                         have d4 := hk5.seven.2.2.2.2.1
                         have d6 := hk5.seven.2.2.2.2.2.2
                         have d1 := hk5.seven.2.1
                         have hb6 := (hbi.alloc hbi.size (.cells #[.int .i64 n2, .int .i64 l2, .int .i64 p2, .int .i64 k2, .bool false, .bool e2, .bool false] 55)).trans (hb5.mono (by have := hbi.size; simp; omega))
                         clear hb5 hk5))
                    go_roundw
                    case rel => exact ⟨m + 1, by omega, by go_num, by rw [HI3.out], hg5, hb6⟩
                    case measure => simp [intOf]; omega
                | true =>
                  obtain ⟨ius, i4⟩ := empty_usable hu2
                  obtain ⟨i1, i2, i3⟩ := usable_iff.1 ius
                  have HP2 := Lib.hid (right_as _ _ i1)
                  dsimp only at i2 i3 i4
                  subst i2 i3 i4
                  have HI3 : Hid (((n1 == N) && (l.take (m + 1)).all (leastF ⟨n1, 0, p1, k1, false, e1, false⟩)) = decide (k1 ≤ k2)) := Lib.hid (by rw [HI2.out]; unfold leastF; rw [hu2]; simp)
                  clear hu2 i1 HI2 ius
                  go_wp2_with (first
                    | ((with_reducible show wpList _ _ _ (Oper.mk _ (Op.load 55 (.tmp 63)) _ _ _ _ :: _) _ _); refine loadMid 55 (.tmp 63) rfl b _ rfl #[.int .i64 n2, .int .i64 0, .int .i64 p2, .int .i64 k2, .bool false, .bool e2, .bool false] (HRM.out _ (by omega)) _ Try.underlying55 rfl i55 rfl ?_)
                    | (go_at_call 30
                       refine (HP2.out _).mono ?_
                       rintro e w5 ⟨rfl, hb5⟩
                       have hk5 := (Mem.Blk.new wr 55 _).below hb5 (by simp)
                       have hg5 := (hg.alloc (.cells #[.int .i64 n2, .int .i64 0, .int .i64 p2, .int .i64 k2, .bool false, .bool e2, .bool false] 55)).below hb5 (by have := hg.lt; simp; omega)
                       have d4 := hk5.seven.2.2.2.2.1
                       have d6 := hk5.seven.2.2.2.2.2.2
                       have d1 := hk5.seven.2.1
                       have d3 := hk5.seven.2.2.2.1
                       have q3 := hg5.seven.2.2.2.1
                       have hb6 := (hbi.alloc hbi.size (.cells #[.int .i64 n2, .int .i64 0, .int .i64 p2, .int .i64 k2, .bool false, .bool e2, .bool false] 55)).trans (hb5.mono (by have := hbi.size; simp; omega))
                       clear hb5 hk5))
                  go_roundw
                  case rel => exact ⟨m + 1, by omega, by go_num, by rw [HI3.out], hg5, hb6⟩
                  case measure => simp [intOf]; omega
            · obtain rfl : m = n := by omega
              have HI : Hid ((l.take m).all (leastF ⟨n1, 0, p1, k1, false, e1, false⟩) = l.all (leastF ⟨n1, 0, p1, k1, false, e1, false⟩)) := Lib.hid (by rw [List.take_of_length_le (by rw [HN.out]; omega)])
              rw [HI.out]
              go_wp2
              go_roundw
              case rel => exact ⟨k + 1, by omega, by go_num, by rw [HT3.out]; rfl, by rw [HS3.out], hbi⟩
              case measure => simp [intOf]; omega
    · obtain rfl : k = n := by omega
      cases S with
      | false =>
        obtain ⟨h1, h2⟩ := HF.out.1 rfl
        subst h1
        have HL : Hid (anyF (l.take k) = false) := Lib.hid (by rw [List.take_of_length_le (by rw [HN.out]; omega)]; exact h2)
        rw [HL.out]
        clear h2
        cases foundF 0 l (l.take k) <;>
        · go_wp2
          go_ret
          exact ⟨rfl, hbel⟩
      | true =>
        obtain ⟨h1, h2⟩ := HF.out.2 rfl
        have HL : Hid (anyF (l.take k) = true) := Lib.hid (by rw [List.take_of_length_le (by rw [HN.out]; omega)]; exact h1)
        have HM : Hid (foundF N l (l.take k) = true) := Lib.hid (by rw [List.take_of_length_le (by rw [HN.out]; omega)]; exact h2)
        rw [HL.out, HM.out]
        clear h1 h2
        go_wp2
        go_ret
        exact ⟨rfl, hbel⟩
end Go.Proofs.Ytbnjijlpbeplmaa.WearF2
