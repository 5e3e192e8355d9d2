/- Rows of words, mended: the document's walk. -/
import Derived.Test.YtjnpfnpeekpleaaDoorEcWP
import Derived.Test.YtjnpfnpeekpleaaDoorEcZR
namespace Go.Proofs.YtjnpfnpeekpleaaDoor.EcWR
open Go.ChangeShapes Go.WideShapes Go.ChangeAt Go.RowKit
open EcM EcA EcB EcC EcT EcX EcY EcZ EcWM EcWP EcS
set_option linter.unusedVariables false
set_option maxHeartbeats 1000000

theorem run_full (m : Nat) (hm : m ≤ 1000000) (w : World) : (Instr.makeSlice 22 (.int .i64 (m : Int)) (.int .i64 (m : Int))).run Tryd.prog w = .ok (.slice (some ⟨w.heap.size, 0, none⟩) m m) (w.alloc (.cells (madeCells #[.int .u8 0] m) 5)) := by
  obtain ⟨i, hi, hz, hs, hb⟩ := i5
  have h := run_make (P := Tryd.prog) w 22 5 i (.int .u8 0) Tryd.underlying22 hi hz .i64 .i64 (m : Int) (m : Int) (by omega) (by omega) (by rw [hb]; omega) (by omega)
  have e : ((m : Int)).toNat = m := by omega
  rw [e] at h
  simpa [hs, Value.cells] using h
theorem own_full (w : World) (base n : Nat) (hb : base ≤ w.heap.size) (hn : n ≤ maxLen) : Own (w.alloc (.cells (madeCells #[.int .u8 0] n) 5)) base (.slice (some ⟨w.heap.size, 0, none⟩) n n) (List.replicate n 0) :=
  Own.made w base hb _ n _ (by simp) hn (by rw [toList_madeCells_one]; simp [vals])

set_option maxRecDepth 100000 in
theorem mendAllBadR (a a2 : Option Addr) (n c n2 c2 : Nat) (w : World) (h1 : n ≤ 1000) (h2 : n2 ≤ 1000) (h : n2 ≠ cnt n) :
    Calls Tryd.prog 22 #[.slice a n c, .slice a2 n2 c2] w fun e w' => e = fail3 ∧ Below w.heap.size w w' := by
  have HK := Lib.hid (EcR.columnsR w)
  have hq : ((n2 : Int) != ((n : Int) + 7) / 8) = true := by
    rw [bne_iff_ne]; unfold cnt at h; omega
  go_enter Tryd.func22, Tryd.ntmps22
  go_wp2_with fail
  refine HK.out.mono ?_
  rintro e w1 ⟨ac, cc, rfl, ho, hb1⟩
  clear ho
  go_wp2
  go_ret3
  exact ⟨rfl, hb1⟩

set_option maxRecDepth 100000 in
theorem mendAllR (a a2 : Option Addr) (l ck : List B8) (n c n2 c2 : Nat) (w : World) (hn : l.length = n) (hr : Rd w a l) (ha : ∀ x, 0 < l.length → a = some x → x.block < w.heap.size) (h1 : n ≤ 1000)
    (hn2 : ck.length = n2) (hr2 : Rd w a2 ck) (ha2 : ∀ x, 0 < ck.length → a2 = some x → x.block < w.heap.size) (h2 : n2 = cnt n) :
    Calls Tryd.prog 22 #[.slice a n c, .slice a2 n2 c2] w (Res (EcWM.Good l ck) n ((outTo l ck (cnt n)).take n) (cntTo l ck (cnt n)) w) := by
  have hcn : cnt n ≤ 200 := by unfold cnt; omega
  have hlt : ∀ k, k < cnt n ↔ 8 * k < n := fun k => by unfold cnt; omega
  have hle : n ≤ 8 * cnt n := by unfold cnt; omega
  have HK := Lib.hid (EcR.columnsR w)
  have hmk := run_full n (by omega)
  have H8 : Hid (∀ w' (k : Nat), Below w.heap.size w w' → k ≤ 10000 → ∀ j, Calls Tryd.prog 30 #[.slice a n c, .int .i64 (k : Int)] (w'.drewN j) fun e w'' => e = .returned (.int .u64 (wd l (8 * k) : Int)) ∧ w'' = w'.drewN j) := Lib.hid fun w' k hb' hk j =>
    wordR a l n c k (w'.drewN j) hn (Rd.below hr (Below.drewN' hb' j) ha) (by omega) (by omega)
  have HM : ∀ (k : Nat) a c (w' : World), Cols w' a → Calls Tryd.prog 33 #[.slice a (64 : Nat) c, .int .u64 (wd l (8 * k) : Int), .int .u8 ((ck.getD k 0).toNat : Int)] w' fun e w'' => e = .returned (.tuple #[.int .u64 ((trip l ck k).1 : Int), .int .u8 ((trip l ck k).2.1 : Int), .int .i64 ((trip l ck k).2.2 : Int)]) ∧ w'' = w' := fun (k : Nat) a c (w' : World) h =>
    mendRR (wd l (8 * k)) (ck.getD k 0).toNat (wd_lt _ _) (ck.getD k 0).isLt a c w' h
  have hCk : Hid (∀ w' (k : Nat), Below w.heap.size w w' → k < n2 → ∃ b off, a2 = some ⟨b, off, none⟩ ∧ w'.cell? ⟨b, off + k, none⟩ = some (.int .u8 ((ck.getD k 0).toNat : Int))) := Lib.hid fun w' k hb' hk =>
    (Rd.below hr2 hb' ha2).2 k (by omega)
  have hkd : ∀ k, (trip l ck k).2.2 = 0 ∨ (trip l ck k).2.2 = 1 ∨ (trip l ck k).2.2 = 2 := fun k => kinds _ _
  have hN0 : cntTo l ck 0 = 0 := rfl
  have hNs : ∀ k, cntTo l ck (k + 1) = cntTo l ck k + if (trip l ck k).2.2 = 1 then 1 else 0 := fun k => rfl
  have hNl := cntTo_le l ck
  have hM0 := mixL_zero l ck n
  have hMs := mixL_step l ck n
  have hMt := mixL_stay l ck n
  have hMl := mixL_len l ck n
  have hMa := mixL_all l ck n (cnt n) hle
  have hBt : ∀ k j, j < 8 → (((trip l ck k).1 : Nat) : Int) / 2 ^ (8 * j) % 256 = ((Bt l ck (8 * k + j)).toNat : Int) := fun k j hj => by rw [EcZ.byteOf, apart_bt l ck k j hj]
  have hG : EcWM.Good l ck ↔ (∀ i, i < cnt n → (trip l ck i).2.2 ≠ 2) ∧ ∀ t, n ≤ t → t < 8 * cnt n → Bt l ck t = 0 := by
    unfold EcWM.Good
    rw [hn, hn2]
    exact ⟨fun h => h.2, fun h => ⟨h2, h⟩⟩
  clear hr hr2
  generalize EcWM.Good l ck = G at hG ⊢
  generalize hK : (fun k => (trip l ck k).2.2) = K
  have ek : ∀ k, (trip l ck k).2.2 = K k := fun k => by rw [← hK]
  simp only [ek] at HM hkd hNs hG
  clear ek hK
  generalize hV : (fun k => (trip l ck k).1) = V
  have ev : ∀ k, (trip l ck k).1 = V k := fun k => by rw [← hV]
  simp only [ev] at HM hBt
  clear ev hV
  generalize hU : (fun k => (trip l ck k).2.1) = U
  have eu : ∀ k, (trip l ck k).2.1 = U k := fun k => by rw [← hU]
  simp only [eu] at HM
  clear eu hU
  generalize mixL l ck n = M at hM0 hMs hMt hMl hMa
  generalize (outTo l ck (cnt n)).take n = O at hMa ⊢
  generalize cntTo l ck = N at hN0 hNs hNl ⊢
  generalize Bt l ck = T at hG hBt hMs
  generalize hQ : (fun k => wd l (8 * k)) = Q
  have eq' : ∀ k, wd l (8 * k) = Q k := fun k => by rw [← hQ]
  simp only [eq'] at HM H8
  clear eq' hQ
  generalize hm : cnt n = m at *
  have hq : ((n2 : Int) != ((n : Int) + 7) / 8) = false := by
    rw [bne_eq_false_iff_eq]; unfold cnt at hm; omega
  replace hm := Lib.hid hm
  replace hn := Lib.hid hn
  replace hn2 := Lib.hid hn2
  subst h2
  replace hlt := Lib.hid hlt
  replace HM := Lib.hid HM
  replace hkd := Lib.hid hkd
  replace hN0 := Lib.hid hN0
  replace hNs := Lib.hid hNs
  replace hNl := Lib.hid hNl
  replace hM0 := Lib.hid hM0
  replace hMs := Lib.hid hMs
  replace hMt := Lib.hid hMt
  replace hMl := Lib.hid hMl
  replace hMa := Lib.hid hMa
  replace hBt := Lib.hid hBt
  replace hG := Lib.hid hG
  replace ha := Lib.hid ha
  replace ha2 := Lib.hid ha2
  go_enter Tryd.func22, Tryd.ntmps22
  go_wp2_with fail
  refine HK.out.mono ?_
  rintro e w1 ⟨ac, cc, rfl, hcl, hb1⟩
  replace hcl := Lib.hid (Cols.of hcl)
  have HO := Lib.hid (own_full w1 w1.heap.size n (Nat.le_refl _) (by simp only [maxLen]; omega))
  have hb2 := (Below.refl w1.heap.size w1).alloc (Nat.le_refl _) (.cells (madeCells #[.int .u8 0] n) 5)
  go_wp2
  generalize hg : w1.heap.size = g at HO hb2 ⊢
  replace hg := Lib.hid hg
  go_loopw [9, 10, 11, 12, 13, 14, 15] (fun x i _ _ _ _ _ wr => ∃ k : Nat, k ≤ n2 ∧ i = .int .i64 (k : Int) ∧ x = .int .i64 (N k : Int) ∧ (∀ j, j < k → K j ≠ 2) ∧ (∀ t, n ≤ t → t < 8 * k → T t = 0) ∧ Own wr g (.slice (some ⟨g, 0, none⟩) n n) (M (8 * k)) ∧ Below g w1 wr) (fun _ i _ _ _ _ _ _ => (n2 - (intOf i).toNat))
  case atStart => exact ⟨0, by omega, rfl, by rw [hN0.out]; rfl, fun j hj => by omega, fun t _ ht => by omega, by rw [hM0.out]; exact HO.out, hb2⟩
  case round =>
    obtain ⟨k, hk, rfl, rfl, hgood, htail, ho, hb⟩ := hrel
    replace ho := Lib.hid ho
    replace hgood := Lib.hid hgood
    replace htail := Lib.hid htail
    have hNk := hNl.out k
    obtain ⟨wo, rfl⟩ : ∃ wo : World, wo = wr := ⟨_, rfl⟩
    by_cases hlt' : k < n2
    · have h8 : 8 * k < n := (hlt.out k).1 hlt'
      have h8' : 8 * (k : Int) < (n : Int) := by omega
      have hbw : Below w.heap.size w wo := hb1.trans (hb.mono (by rw [← hg.out]; exact hb1.size))
      obtain ⟨bq, oq, rfl, hcell⟩ := hCk.out _ k hbw hlt'
      have q32 := Lib.hid (H8.out wo k hbw (by omega))
      have q23 : Hid (∀ j, Calls Tryd.prog 33 #[.slice ac (64 : Nat) cc, .int .u64 (Q k : Int), .int .u8 ((ck.getD k 0).toNat : Int)] (wo.drewN j) fun e w'' => e = .returned (.tuple #[.int .u64 (V k : Int), .int .u8 (U k : Int), .int .i64 (K k : Int)]) ∧ w'' = wo.drewN j) := Lib.hid fun j =>
        HM.out k ac cc _ (Cols.below hcl.out (by rw [hg.out]; exact Below.drewN' hb j))
      replace hbw := Lib.hid hbw
      have hk0 : (0 : Int) ≤ (k : Int) := by omega
      have hkn : (k : Int) < (n2 : Int) := by omega
      go_wp2_with fail
      go_quiet ((first | (go_at_call 30; exact Calls.quiet_of_same (q32.out _)) | (go_at_call 33; exact Calls.quiet_of_same (q23.out _))))
      clear hcell
      by_cases hk2 : K k = 2
      · have hnG : Hid (¬ G) := Lib.hid fun h => (hG.out.1 h).1 k hlt' hk2
        have e2 : ((K k : Int) == 2) = true := by simp; omega
        clear hk2
        go_wp2
        go_ret3
        exact ⟨.inl ⟨hnG.out, rfl⟩, Below.drewN' hbw.out _⟩
      · have e2 : ((K k : Int) == 2) = false := by simp; omega
        have hgood' : Hid (∀ j, j < k + 1 → K j ≠ 2) := Lib.hid fun j hj => by
          rcases Nat.lt_or_ge j k with h | h
          · exact hgood.out j h
          · rw [show j = k by omega]; exact hk2
        have o0 : Hid (Own (wo.drewN nq) g (.slice (some ⟨g, 0, none⟩) n n) (M (8 * k + 0))) := Lib.hid ho.out
        have d0 := Below.drewN' hb nq
        obtain ⟨w2, hw2⟩ : ∃ w2, w2 = wo.drewN nq := ⟨_, rfl⟩
        rw [← hw2] at o0 d0 ⊢
        clear hw2 q32 q23
        by_cases hk1 : K k = 1
        all_goals
          have e1 : ((K k : Int) == 1) = decide (K k = 1) := by
            rw [Bool.eq_iff_iff, beq_iff_eq, decide_eq_true_iff]; omega
          have hNs' : Hid (N (k + 1) = N k + if K k = 1 then 1 else 0) := Lib.hid (hNs.out k)
          first | (have e3 : decide (K k = 1) = true := by simpa using hk1) | (have e3 : decide (K k = 1) = false := by simpa using hk1)
          replace hk1 := Lib.hid hk1
          clear hk2
          go_wp2
          go_loopw [14, 15] (fun j _ wr => ∃ jj : Nat, jj ≤ 8 ∧ j = .int .i64 (jj : Int) ∧ (∀ t, n ≤ t → t < 8 * k + jj → T t = 0) ∧ Own wr g (.slice (some ⟨g, 0, none⟩) n n) (M (8 * k + jj)) ∧ Below g w1 wr) (fun j _ _ => (8 - (intOf j).toNat))
          case atStart => exact ⟨0, by omega, rfl, fun t h1 h2 => htail.out t h1 (by omega), o0.out, d0⟩
          case round =>
            obtain ⟨j, hj, rfl, ht, hoj, hbj⟩ := hrel
            replace ht := Lib.hid ht
            by_cases hj8 : j < 8
            · have hbt := hBt.out k j hj8
              by_cases hin : 8 * k + j < n
              · have hms := Lib.hid (hMs.out (8 * k + j) hin)
                have hin' : 8 * (k : Int) + (j : Int) < (n : Int) := by omega
                obtain ⟨b', off', e, hcl'⟩ := hoj.rd.1.2 (8 * k + j) (by rw [hMl.out]; exact hin)
                injection e with e
                injection e with e4 e5
                subst e4 e5
                rw [Nat.zero_add] at hcl'
                have hfz := EcT.Own.free hoj (8 * k + j)
                have op := Lib.hid (EcT.Own.put hoj (8 * k + j) (by rw [hMl.out]; exact hin) (T (8 * k + j)))
                have bp := Lib.hid (hbj.setCell (p := ⟨g, 8 * k + j, none⟩) (Nat.le_refl _) (.int .u8 (T (8 * k + j)).toNat))
                clear hoj hbj
                go_wp2
                go_roundw
                case rel => exact ⟨j + 1, by omega, by go_num, fun t h1 h2 => ht.out t h1 (by omega), by rw [← Nat.add_assoc, hms.out]; exact op.out, bp.out⟩
                case measure => simp [intOf]; omega
              · have hin' : ¬ 8 * (k : Int) + (j : Int) < (n : Int) := by omega
                by_cases hz : T (8 * k + j) = 0
                · have hmt := Lib.hid (hMt.out (8 * k + j) (by omega))
                  rw [hz] at hbt
                  replace hz := Lib.hid hz
                  have hbt' : ((V k : Nat) : Int) / 2 ^ (8 * j) % 256 = 0 := hbt
                  clear hbt
                  replace hoj := Lib.hid hoj
                  go_wp2
                  go_roundw
                  case rel => exact ⟨j + 1, by omega, by go_num, fun t h1 h2 => by
                    rcases Nat.lt_or_ge t (8 * k + j) with h | h
                    · exact ht.out t h1 h
                    · rw [show t = 8 * k + j by omega]; exact hz.out, by rw [← Nat.add_assoc, hmt.out]; exact hoj.out, hbj⟩
                  case measure => simp [intOf]; omega
                · have hnG : Hid (¬ G) := Lib.hid fun h => hz ((hG.out.1 h).2 (8 * k + j) (by omega) (by omega))
                  generalize hY : (T (8 * k + j)).toNat = y at hbt
                  have hy0 : ((y : Int) != 0) = true := by
                    rw [bne_iff_ne]; intro h; exact hz (BitVec.eq_of_toNat_eq (by have : y = 0 := by omega
                                                                                  rw [hY, this]; rfl))
                  replace hY := Lib.hid hY
                  replace hoj := Lib.hid hoj
                  clear hz
                  go_wp2
                  go_ret3
                  exact ⟨.inl ⟨hnG.out, rfl⟩, hb1.trans (hbj.mono (by rw [← hg.out]; exact hb1.size))⟩
            · obtain rfl : j = 8 := by omega
              replace hoj := Lib.hid hoj
              go_wp2
              go_roundw
              case rel => exact ⟨k + 1, by omega, by go_num, by rw [hNs'.out]; first | (rw [if_pos hk1.out]; go_num) | (rw [if_neg hk1.out]; go_num), hgood'.out, fun t h1 h2 => ht.out t h1 (by omega), by rw [Nat.mul_succ]; exact hoj.out, hbj⟩
              case measure => simp [intOf]; omega
    · obtain rfl : k = n2 := by omega
      have h8' : ¬ 8 * (k : Int) < (n : Int) := fun h => hlt' ((hlt.out k).2 (by omega))
      have hGy : Hid G := Lib.hid (hG.out.2 ⟨hgood.out, htail.out⟩)
      go_wp2
      go_ret3
      refine ⟨.inr ⟨hGy.out, _, n, rfl, ?_, fun y _ hy => ?_⟩, hb1.trans (hb.mono (by rw [← hg.out]; exact hb1.size))⟩
      · have := ho.out.rd.1
        rw [hMa.out] at this
        exact this
      · obtain ⟨a3, c3, e, _, _, h3, _⟩ := ho.out.shape
        injection e with e1 e2 e3
        exact (h3 y (by rw [← e1]; exact hy)).2
end Go.Proofs.YtjnpfnpeekpleaaDoor.EcWR
