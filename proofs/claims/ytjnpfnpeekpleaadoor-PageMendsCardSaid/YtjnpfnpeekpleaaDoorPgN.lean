/- The law of a page of which one bit was turned in each word, and in each mark. -/
import Derived.Test.YtjnpfnpeekpleaaDoorPgO
import Derived.StillTailTactics
namespace Go.Proofs.YtjnpfnpeekpleaaDoor.PgN
open Go.ChangeShapes Go.WideShapes Go.ChangeAt Go.RowKit
open EcM EcA EcB EcC EcT EcX EcY EcZ EcWM EcWP EcWR EcFM PgM PgA PgB PgC PgD PgE PgF PgO
set_option linter.unusedVariables false
set_option maxHeartbeats 4000000

set_option maxRecDepth 100000 in
theorem early (a a3 : Option Addr) (n c n3 c3 : Nat) (w : World) (hl : Laid w) (hm : n ≤ 9223372036854775807) (hm3 : n3 ≤ 9223372036854775807) (h : 512 < n ∨ n = 0 ∨ 100 < n3) :
    Calls Tryd.prog 4 #[.slice a n c, .slice a3 n3 c3] w fun e w' => e = .returned (.bool true) ∧ Below w.heap.size w w' := by
  have HK := Lib.hid (known w hl)
  clear hl
  rcases (show 512 < n ∨ (¬ 512 < n ∧ n = 0) ∨ (¬ 512 < n ∧ ¬ n = 0 ∧ 100 < n3) by omega) with h | ⟨h1, h2⟩ | ⟨h1, h2, h3⟩
  · have d1 : (512 : Int) < (n : Int) := by omega
    go_enter Tryd.func4, Tryd.ntmps4
    go_wp2_with fail
    refine HK.out.mono ?_
    rintro e w1 ⟨rfl, b1⟩
    replace b1 := Lib.hid b1
    go_wp2
    go_ret
    exact ⟨rfl, b1.out⟩
  · subst h2
    go_enter Tryd.func4, Tryd.ntmps4
    go_wp2_with fail
    refine HK.out.mono ?_
    rintro e w1 ⟨rfl, b1⟩
    replace b1 := Lib.hid b1
    go_wp2
    go_ret
    exact ⟨rfl, b1.out⟩
  · have d1 : ¬ (512 : Int) < (n : Int) := by omega
    have d2 : ((n : Int) == 0) = false := by simp; omega
    have d3 : (100 : Int) < (n3 : Int) := by omega
    go_enter Tryd.func4, Tryd.ntmps4
    go_wp2_with fail
    refine HK.out.mono ?_
    rintro e w1 ⟨rfl, b1⟩
    replace b1 := Lib.hid b1
    go_wp2
    go_ret
    exact ⟨rfl, b1.out⟩

theorem tot_none : ∀ k, tot (fun _ _ => none) k = 0
  | 0 => rfl
  | k + 1 => by rw [tot, tot_none k]; rfl

set_option maxRecDepth 100000 in
theorem law (a a3 : Option Addr) (l : List B8) (z : List Int) (n c n3 c3 k : Nat) (w : World) (hn : l.length = n) (hr : Rd w a l) (ha : ∀ x, 0 < l.length → a = some x → x.block < w.heap.size) (hz : Ints w a3 n3 z) (h1 : 1 ≤ n) (h512 : n ≤ 512) (h3 : n3 ≤ 100) (hk : k = (n - 1) / 64 + 1) (hl : Laid w) :
    Calls Tryd.prog 4 #[.slice a n c, .slice a3 n3 c3] w fun e w' => e = .returned (.bool true) ∧ Below w.heap.size w w' := by
  have hk1 : 1 ≤ k := by omega
  have hk8 : k ≤ 8 := by omega
  have hle : n ≤ 64 * k := by omega
  have HK := Lib.hid (known w hl)
  have hP := padT_len l (64 * k) (by omega)
  have HCk : Hid (∀ w, Calls Tryd.prog 16 #[.int .i64 (n : Int)] w fun e w' => e = .returned (.int .i64 (k : Int)) ∧ w' = w) := Lib.hid fun w => by
    have := chunksW (n : Int) (by omega) w
    have e : chunks (n : Int) = (k : Int) := by unfold chunks; rw [if_neg (by omega)]; omega
    rw [e] at this
    exact this
  have HL8 := Lib.hid (fun w' (hb : Below w.heap.size w w') => layW a l n c k w' hn (Rd.below hr hb ha) (fun x h0 e => Nat.lt_of_lt_of_le (ha x h0 e) hb.size) hk1 hk8 hle (hl.below hb))
  have HLd : Hid (∀ w', Below w.heap.size w w' → Laid w') := Lib.hid fun w' hb => hl.below hb
  have HZ : Hid (∀ w', Below w.heap.size w w' → Ints w' a3 n3 z) := Lib.hid fun w' hb => hz.below hb
  have HRl : Hid (∀ w', Below w.heap.size w w' → Rd w' a l) := Lib.hid fun w' hb => Rd.below hr hb ha
  have hlen := Lib.hid (layK_len (padT l (64 * k)) k hP k (Nat.le_refl _))
  have hS0 := Lib.hid (St.start (padT l (64 * k)) k hP)
  have hTold := Lib.hid (fun (ys : List B8) (i : Nat) (F : Nat → Nat → Option Nat) (o : List B8) (cn s : Nat) (h : St (padT l (64 * k)) ys k i F) (ht : PgM.Told ys (n : Int) o cn s) => h.told hP hk1 hk8 (n : Int) (by omega) (by omega) ht)
  have htk : Hid ((padT l (64 * k)).take n = l) := Lib.hid (by unfold padT; rw [List.take_append_of_le_length (by omega), List.take_of_length_le (by omega)])
  generalize hR : layK (padT l (64 * k)) k = R at *
  generalize padT l (64 * k) = PP at *
  have g1 : ¬ (512 : Int) < (n : Int) := by omega
  have g2 : ((n : Int) == 0) = false := by simp; omega
  have g3 : ¬ (100 : Int) < (n3 : Int) := by omega
  have g4 : ((73 * k : Nat) : Int) = 73 * (k : Int) := by omega
  replace hn := Lib.hid hn
  replace hR := Lib.hid hR
  clear hr ha hl hP hz hk
  go_enter Tryd.func4, Tryd.ntmps4
  go_wp2_with fail
  refine HK.out.mono ?_
  rintro e w1 ⟨rfl, b1⟩
  have B1 := Lib.hid b1
  clear b1 HK
  go_wp2_with fail
  refine (HCk.out _).mono ?_
  rintro e w' ⟨rfl, hw⟩
  obtain rfl := hw.symm
  go_wp2_with fail
  refine (HL8.out _ B1.out).mono ?_
  rintro e w2 ⟨ra, rc, rfl, HO, b2⟩
  have B2 := Lib.hid (B1.out.trans (b2.mono B1.out.size))
  obtain ⟨g, rfl, hgb, _⟩ := own_at HO (by omega)
  have hgw : Hid (w.heap.size ≤ g) := Lib.hid (by have := B1.out.size; omega)
  generalize hbase : w1.heap.size + 1 = base at *
  replace HO := Lib.hid HO
  clear b2 HL8 hbase hgb
  go_wp2_with fail
  go_loopw [9, 8] (fun v x wr => ∃ (i : Nat) (ys : List B8) (F : Nat → Nat → Option Nat), i ≤ 9 * k ∧ v = .int .i64 (i : Int) ∧ x = .int .i64 (tot F k : Int) ∧ St PP ys k i F ∧ Own wr base (.slice (some ⟨g, 0, none⟩) (73 * k) rc) ys ∧ Below w.heap.size w wr) (fun v _ _ => 9 * k - (intOf v).toNat)
  case atStart => exact ⟨0, R, fun _ _ => none, by omega, rfl, by rw [tot_none k]; rfl, hS0.out, HO.out, B2.out⟩
  case round =>
    clear HO B2 hS0
    obtain ⟨i, ys, F, hi, rfl, rfl, hS, hO, hB⟩ := hrel
    have hT8 := tot_le F k
    have hyl := hS.1
    by_cases hlt : i < 9 * k ∧ i < n3
    · obtain ⟨hik, hi3⟩ := hlt
      have hik' : (i : Int) < 9 * (k : Int) := by omega
      have hi3' : (i : Int) < (n3 : Int) := by omega
      obtain ⟨bz, oz, rfl, hbz, cz, z1, z2⟩ := (HZ.out _ hB).2 i hi3
      have czD : wr.drew.cell? ⟨bz, oz + i, none⟩ = some (.int .i64 (z.getD i 0)) := cz
      generalize z.getD i 0 = tn at *
      by_cases ht : tn < 0
      · have hS' := Lib.hid hS.skip
        replace hO := Lib.hid hO
        replace hB := Lib.hid hB
        clear czD hS hyl
        go_wp2
        go_roundw
        case rel => exact ⟨i + 1, ys, F, by omega, by go_num, rfl, hS'.out, hO.out, hB.out⟩
        case measure => simp [intOf]; omega
      · obtain ⟨cI, hcI⟩ : ∃ cI, cI = i / 9 := ⟨_, rfl⟩
        obtain ⟨at_, hat⟩ : ∃ at_, at_ = i % 9 := ⟨_, rfl⟩
        have hi9 : i = 9 * cI + at_ := by omega
        have hck : cI < k := by omega
        have ha9 : at_ < 9 := by omega
        have e1 : (i : Int) / 9 = (cI : Int) := by omega
        have e2 : (i : Int) % 9 = (at_ : Int) := by omega
        have ht0 : (0 : Int) ≤ tn := by omega
        clear hcI hat
        by_cases h8 : at_ = 8
        · have e8 : ((at_ : Int) == 8) = true := by simp; omega
          have hb : ∃ s : Nat, s < 8 ∧ tn % 8 = (s : Int) := ⟨(tn % 8).toNat, by omega, by omega⟩
          obtain ⟨s, hs8, hs⟩ := hb
          have HS := hS.mark hck (by omega) hs8
          have i1 : 73 * (cI : Int) + 72 = ((73 * cI + 72 : Nat) : Int) := by omega
          have iw1 : IntKind.i64.wrap (73 * (cI : Int)) = 73 * (cI : Int) := IntWalk.i64_in _ (by omega)
          have iw2 : IntKind.i64.wrap (73 * (cI : Int) + 72) = 73 * (cI : Int) + 72 := IntWalk.i64_in _ (by omega)
          have OD : Own wr.drew base (.slice (some ⟨g, 0, none⟩) (73 * k) rc) ys := hO
          have hql : 73 * cI + 72 < ys.length := by rw [hyl]; omega
          have cO := rd_at (Own.rd OD).1 (73 * cI + 72) hql
          rw [Nat.zero_add] at cO
          have zO := Own.free OD (73 * cI + 72)
          have HP := Lib.hid (Own.put OD (73 * cI + 72) hql (ys.getD (73 * cI + 72) 0 ^^^ bitB s))
          have HB := Lib.hid ((hB.drew).setCell (p := ⟨g, 73 * cI + 72, none⟩) hgw.out (.int .u8 ((ys.getD (73 * cI + 72) 0 ^^^ bitB s).toNat : Int)))
          have hxr := xor_bit s hs8 (ys.getD (73 * cI + 72) 0)
          have i2 : (0 : Int) ≤ ((73 * cI + 72 : Nat) : Int) := by omega
          have i3 : ((73 * cI + 72 : Nat) : Int) < ((73 * k : Nat) : Int) := by omega
          have i4 : ((73 * cI + 72 : Nat) : Int) < 73 * (k : Int) := by omega
          have iw3 : IntKind.i64.wrap ((73 * cI + 72 : Nat) : Int) = ((73 * cI + 72 : Nat) : Int) := IntWalk.i64_in _ (by omega)
          clear hS hyl
          change bits .xor .u8 ((ys.getD (73 * cI + 72) 0).toNat : Int) ((2 ^ s : Nat) : Int) = ((ys.getD (73 * cI + 72) 0 ^^^ bitB s).toNat : Int) at hxr
          generalize ys.getD (73 * cI + 72) 0 = X at *
          obtain ⟨Y, hY⟩ : ∃ Y, Y = X ^^^ bitB s := ⟨_, rfl⟩
          rw [← hY] at hxr HP HB HS
          obtain ⟨q, hq0⟩ : ∃ q, q = 73 * cI + 72 := ⟨_, rfl⟩
          rw [← hq0] at cO zO HP HB HS i1 i2 i3 i4 iw3
          clear hY hq0 OD hql
          replace hO := Lib.hid hO
          replace hB := Lib.hid hB
          replace HS := Lib.hid HS
          replace hi9 := Lib.hid hi9
          rcases (show s = 0 ∨ s = 1 ∨ s = 2 ∨ s = 3 ∨ s = 4 ∨ s = 5 ∨ s = 6 ∨ s = 7 by omega) with rfl | rfl | rfl | rfl | rfl | rfl | rfl | rfl
          · have hxr' : bits .xor .u8 (X.toNat : Int) 1 = (Y.toNat : Int) := hxr
            have hs' : tn % 8 = 0 := hs
            clear hxr hs
            go_wp2_with fail
            refine wp_region_still_tail 19 (by kernel_rfl) (by kernel_rfl) ?_
            simp only [List.take_succ_cons, List.take_zero, List.drop_succ_cons, List.drop_zero]
            change wpStill _ _ (World.drew wr) (fun a' => wpList _ _ _ _ a' (World.drew wr)) _ _
            generalize World.drew wr = wd at *
            repeat still_step
            try refine wpStill_nil ?_
            change wpList _ _ _ _ _ wd
            go_wp2
            go_roundw
            case rel => exact ⟨i + 1, _, F, by omega, by go_num, rfl, HS.out, HP.out, HB.out⟩
            case measure => simp [intOf]; omega
          · have hxr' : bits .xor .u8 (X.toNat : Int) 2 = (Y.toNat : Int) := hxr
            have hs' : tn % 8 = 1 := hs
            clear hxr hs
            go_wp2_with fail
            refine wp_region_still_tail 19 (by kernel_rfl) (by kernel_rfl) ?_
            simp only [List.take_succ_cons, List.take_zero, List.drop_succ_cons, List.drop_zero]
            change wpStill _ _ (World.drew wr) (fun a' => wpList _ _ _ _ a' (World.drew wr)) _ _
            generalize World.drew wr = wd at *
            repeat still_step
            try refine wpStill_nil ?_
            change wpList _ _ _ _ _ wd
            go_wp2
            go_roundw
            case rel => exact ⟨i + 1, _, F, by omega, by go_num, rfl, HS.out, HP.out, HB.out⟩
            case measure => simp [intOf]; omega
          · have hxr' : bits .xor .u8 (X.toNat : Int) 4 = (Y.toNat : Int) := hxr
            have hs' : tn % 8 = 2 := hs
            clear hxr hs
            go_wp2_with fail
            refine wp_region_still_tail 19 (by kernel_rfl) (by kernel_rfl) ?_
            simp only [List.take_succ_cons, List.take_zero, List.drop_succ_cons, List.drop_zero]
            change wpStill _ _ (World.drew wr) (fun a' => wpList _ _ _ _ a' (World.drew wr)) _ _
            generalize World.drew wr = wd at *
            repeat still_step
            try refine wpStill_nil ?_
            change wpList _ _ _ _ _ wd
            go_wp2
            go_roundw
            case rel => exact ⟨i + 1, _, F, by omega, by go_num, rfl, HS.out, HP.out, HB.out⟩
            case measure => simp [intOf]; omega
          · have hxr' : bits .xor .u8 (X.toNat : Int) 8 = (Y.toNat : Int) := hxr
            have hs' : tn % 8 = 3 := hs
            clear hxr hs
            go_wp2_with fail
            refine wp_region_still_tail 19 (by kernel_rfl) (by kernel_rfl) ?_
            simp only [List.take_succ_cons, List.take_zero, List.drop_succ_cons, List.drop_zero]
            change wpStill _ _ (World.drew wr) (fun a' => wpList _ _ _ _ a' (World.drew wr)) _ _
            generalize World.drew wr = wd at *
            repeat still_step
            try refine wpStill_nil ?_
            change wpList _ _ _ _ _ wd
            go_wp2
            go_roundw
            case rel => exact ⟨i + 1, _, F, by omega, by go_num, rfl, HS.out, HP.out, HB.out⟩
            case measure => simp [intOf]; omega
          · have hxr' : bits .xor .u8 (X.toNat : Int) 16 = (Y.toNat : Int) := hxr
            have hs' : tn % 8 = 4 := hs
            clear hxr hs
            go_wp2_with fail
            refine wp_region_still_tail 19 (by kernel_rfl) (by kernel_rfl) ?_
            simp only [List.take_succ_cons, List.take_zero, List.drop_succ_cons, List.drop_zero]
            change wpStill _ _ (World.drew wr) (fun a' => wpList _ _ _ _ a' (World.drew wr)) _ _
            generalize World.drew wr = wd at *
            repeat still_step
            try refine wpStill_nil ?_
            change wpList _ _ _ _ _ wd
            go_wp2
            go_roundw
            case rel => exact ⟨i + 1, _, F, by omega, by go_num, rfl, HS.out, HP.out, HB.out⟩
            case measure => simp [intOf]; omega
          · have hxr' : bits .xor .u8 (X.toNat : Int) 32 = (Y.toNat : Int) := hxr
            have hs' : tn % 8 = 5 := hs
            clear hxr hs
            go_wp2_with fail
            refine wp_region_still_tail 19 (by kernel_rfl) (by kernel_rfl) ?_
            simp only [List.take_succ_cons, List.take_zero, List.drop_succ_cons, List.drop_zero]
            change wpStill _ _ (World.drew wr) (fun a' => wpList _ _ _ _ a' (World.drew wr)) _ _
            generalize World.drew wr = wd at *
            repeat still_step
            try refine wpStill_nil ?_
            change wpList _ _ _ _ _ wd
            go_wp2
            go_roundw
            case rel => exact ⟨i + 1, _, F, by omega, by go_num, rfl, HS.out, HP.out, HB.out⟩
            case measure => simp [intOf]; omega
          · have hxr' : bits .xor .u8 (X.toNat : Int) 64 = (Y.toNat : Int) := hxr
            have hs' : tn % 8 = 6 := hs
            clear hxr hs
            go_wp2_with fail
            refine wp_region_still_tail 19 (by kernel_rfl) (by kernel_rfl) ?_
            simp only [List.take_succ_cons, List.take_zero, List.drop_succ_cons, List.drop_zero]
            change wpStill _ _ (World.drew wr) (fun a' => wpList _ _ _ _ a' (World.drew wr)) _ _
            generalize World.drew wr = wd at *
            repeat still_step
            try refine wpStill_nil ?_
            change wpList _ _ _ _ _ wd
            go_wp2
            go_roundw
            case rel => exact ⟨i + 1, _, F, by omega, by go_num, rfl, HS.out, HP.out, HB.out⟩
            case measure => simp [intOf]; omega
          · have hxr' : bits .xor .u8 (X.toNat : Int) 128 = (Y.toNat : Int) := hxr
            have hs' : tn % 8 = 7 := hs
            clear hxr hs
            go_wp2_with fail
            refine wp_region_still_tail 19 (by kernel_rfl) (by kernel_rfl) ?_
            simp only [List.take_succ_cons, List.take_zero, List.drop_succ_cons, List.drop_zero]
            change wpStill _ _ (World.drew wr) (fun a' => wpList _ _ _ _ a' (World.drew wr)) _ _
            generalize World.drew wr = wd at *
            repeat still_step
            try refine wpStill_nil ?_
            change wpList _ _ _ _ _ wd
            go_wp2
            go_roundw
            case rel => exact ⟨i + 1, _, F, by omega, by go_num, rfl, HS.out, HP.out, HB.out⟩
            case measure => simp [intOf]; omega
        · have e8 : ((at_ : Int) == 8) = false := by simp; omega
          obtain ⟨bt_, hbt⟩ : ∃ b : Nat, b = (tn % 72).toNat := ⟨_, rfl⟩
          have e3 : tn % 72 = (bt_ : Int) := by omega
          have hb72 : bt_ < 72 := by omega
          clear hbt
          have hF := hS.2.2.1 cI at_ (by omega)
          have htu := Lib.hid (tot_upd F cI at_ bt_ (by omega) hF k)
          rw [if_pos hck] at htu
          by_cases hb64 : bt_ < 64
          · have hb64' : (bt_ : Int) < 64 := by omega
            obtain ⟨b8, hb8⟩ : ∃ b8, b8 = bt_ / 8 := ⟨_, rfl⟩
            have e4 : (bt_ : Int) / 8 = (b8 : Int) := by omega
            have hb : ∃ s : Nat, s < 8 ∧ (bt_ : Int) % 8 = (s : Int) ∧ s = bt_ % 8 := ⟨bt_ % 8, by omega, by omega, rfl⟩
            obtain ⟨s, hs8, hs, hsb⟩ := hb
            have HS := hS.word hck (by omega) hi9 hb72 (73 * cI + (8 * at_ + b8)) (by rw [if_pos hb64, hb8]) s (by rw [if_pos hb64, hsb])
            have i1 : 73 * (cI : Int) + 8 * (at_ : Int) + (b8 : Int) = ((73 * cI + (8 * at_ + b8) : Nat) : Int) := by omega
            have OD : Own wr base (.slice (some ⟨g, 0, none⟩) (73 * k) rc) ys := hO
            have hql : 73 * cI + (8 * at_ + b8) < ys.length := by rw [hyl]; omega
            have cO := rd_at (Own.rd OD).1 (73 * cI + (8 * at_ + b8)) hql
            rw [Nat.zero_add] at cO
            have zO := Own.free OD (73 * cI + (8 * at_ + b8))
            have HP := Lib.hid (Own.put OD (73 * cI + (8 * at_ + b8)) hql (ys.getD (73 * cI + (8 * at_ + b8)) 0 ^^^ bitB s))
            have HB := Lib.hid ((hB).setCell (p := ⟨g, 73 * cI + (8 * at_ + b8), none⟩) hgw.out (.int .u8 ((ys.getD (73 * cI + (8 * at_ + b8)) 0 ^^^ bitB s).toNat : Int)))
            have hxr := xor_bit s hs8 (ys.getD (73 * cI + (8 * at_ + b8)) 0)
            have i2 : (0 : Int) ≤ ((73 * cI + (8 * at_ + b8) : Nat) : Int) := by omega
            have i3 : ((73 * cI + (8 * at_ + b8) : Nat) : Int) < ((73 * k : Nat) : Int) := by omega
            have i4 : ((73 * cI + (8 * at_ + b8) : Nat) : Int) < 73 * (k : Int) := by omega
            have iw3 : IntKind.i64.wrap ((73 * cI + (8 * at_ + b8) : Nat) : Int) = ((73 * cI + (8 * at_ + b8) : Nat) : Int) := IntWalk.i64_in _ (by omega)
            clear hS hyl hF czD hsb hb8
            change bits .xor .u8 ((ys.getD (73 * cI + (8 * at_ + b8)) 0).toNat : Int) ((2 ^ s : Nat) : Int) = ((ys.getD (73 * cI + (8 * at_ + b8)) 0 ^^^ bitB s).toNat : Int) at hxr
            generalize ys.getD (73 * cI + (8 * at_ + b8)) 0 = X at *
            obtain ⟨Y, hY⟩ : ∃ Y, Y = X ^^^ bitB s := ⟨_, rfl⟩
            rw [← hY] at hxr HP HB HS
            obtain ⟨q, hq0⟩ : ∃ q, q = 73 * cI + (8 * at_ + b8) := ⟨_, rfl⟩
            rw [← hq0] at cO zO HP HB HS i1 i2 i3 i4 iw3
            clear hY hq0 OD hql
            replace hO := Lib.hid hO
            replace hB := Lib.hid hB
            replace HS := Lib.hid HS
            replace hi9 := Lib.hid hi9
            rcases (show s = 0 ∨ s = 1 ∨ s = 2 ∨ s = 3 ∨ s = 4 ∨ s = 5 ∨ s = 6 ∨ s = 7 by omega) with rfl | rfl | rfl | rfl | rfl | rfl | rfl | rfl
            · have hxr' : bits .xor .u8 (X.toNat : Int) 1 = (Y.toNat : Int) := hxr
              have hs' : (bt_ : Int) % 8 = 0 := hs
              clear hxr hs
              go_wp2
              go_roundw
              case rel => exact ⟨i + 1, _, upd F cI at_ bt_, by omega, by go_num, by rw [htu.out]; go_num, HS.out, HP.out, HB.out⟩
              case measure => simp [intOf]; omega
            · have hxr' : bits .xor .u8 (X.toNat : Int) 2 = (Y.toNat : Int) := hxr
              have hs' : (bt_ : Int) % 8 = 1 := hs
              clear hxr hs
              go_wp2
              go_roundw
              case rel => exact ⟨i + 1, _, upd F cI at_ bt_, by omega, by go_num, by rw [htu.out]; go_num, HS.out, HP.out, HB.out⟩
              case measure => simp [intOf]; omega
            · have hxr' : bits .xor .u8 (X.toNat : Int) 4 = (Y.toNat : Int) := hxr
              have hs' : (bt_ : Int) % 8 = 2 := hs
              clear hxr hs
              go_wp2
              go_roundw
              case rel => exact ⟨i + 1, _, upd F cI at_ bt_, by omega, by go_num, by rw [htu.out]; go_num, HS.out, HP.out, HB.out⟩
              case measure => simp [intOf]; omega
            · have hxr' : bits .xor .u8 (X.toNat : Int) 8 = (Y.toNat : Int) := hxr
              have hs' : (bt_ : Int) % 8 = 3 := hs
              clear hxr hs
              go_wp2
              go_roundw
              case rel => exact ⟨i + 1, _, upd F cI at_ bt_, by omega, by go_num, by rw [htu.out]; go_num, HS.out, HP.out, HB.out⟩
              case measure => simp [intOf]; omega
            · have hxr' : bits .xor .u8 (X.toNat : Int) 16 = (Y.toNat : Int) := hxr
              have hs' : (bt_ : Int) % 8 = 4 := hs
              clear hxr hs
              go_wp2
              go_roundw
              case rel => exact ⟨i + 1, _, upd F cI at_ bt_, by omega, by go_num, by rw [htu.out]; go_num, HS.out, HP.out, HB.out⟩
              case measure => simp [intOf]; omega
            · have hxr' : bits .xor .u8 (X.toNat : Int) 32 = (Y.toNat : Int) := hxr
              have hs' : (bt_ : Int) % 8 = 5 := hs
              clear hxr hs
              go_wp2
              go_roundw
              case rel => exact ⟨i + 1, _, upd F cI at_ bt_, by omega, by go_num, by rw [htu.out]; go_num, HS.out, HP.out, HB.out⟩
              case measure => simp [intOf]; omega
            · have hxr' : bits .xor .u8 (X.toNat : Int) 64 = (Y.toNat : Int) := hxr
              have hs' : (bt_ : Int) % 8 = 6 := hs
              clear hxr hs
              go_wp2
              go_roundw
              case rel => exact ⟨i + 1, _, upd F cI at_ bt_, by omega, by go_num, by rw [htu.out]; go_num, HS.out, HP.out, HB.out⟩
              case measure => simp [intOf]; omega
            · have hxr' : bits .xor .u8 (X.toNat : Int) 128 = (Y.toNat : Int) := hxr
              have hs' : (bt_ : Int) % 8 = 7 := hs
              clear hxr hs
              go_wp2
              go_roundw
              case rel => exact ⟨i + 1, _, upd F cI at_ bt_, by omega, by go_num, by rw [htu.out]; go_num, HS.out, HP.out, HB.out⟩
              case measure => simp [intOf]; omega
          · have hb64' : ¬ (bt_ : Int) < 64 := by omega
            have hb : ∃ s : Nat, s < 8 ∧ (bt_ : Int) - 64 = (s : Int) ∧ s = bt_ - 64 := ⟨bt_ - 64, by omega, by omega, rfl⟩
            obtain ⟨s, hs8, hs, hsb⟩ := hb
            have HS := hS.word hck (by omega) hi9 hb72 (73 * cI + 64 + at_) (by rw [if_neg hb64]) s (by rw [if_neg hb64, hsb])
            have i1 : 73 * (cI : Int) + 64 + (at_ : Int) = ((73 * cI + 64 + at_ : Nat) : Int) := by omega
            have OD : Own wr base (.slice (some ⟨g, 0, none⟩) (73 * k) rc) ys := hO
            have hql : 73 * cI + 64 + at_ < ys.length := by rw [hyl]; omega
            have cO := rd_at (Own.rd OD).1 (73 * cI + 64 + at_) hql
            rw [Nat.zero_add] at cO
            have zO := Own.free OD (73 * cI + 64 + at_)
            have HP := Lib.hid (Own.put OD (73 * cI + 64 + at_) hql (ys.getD (73 * cI + 64 + at_) 0 ^^^ bitB s))
            have HB := Lib.hid ((hB).setCell (p := ⟨g, 73 * cI + 64 + at_, none⟩) hgw.out (.int .u8 ((ys.getD (73 * cI + 64 + at_) 0 ^^^ bitB s).toNat : Int)))
            have hxr := xor_bit s hs8 (ys.getD (73 * cI + 64 + at_) 0)
            have i2 : (0 : Int) ≤ ((73 * cI + 64 + at_ : Nat) : Int) := by omega
            have i3 : ((73 * cI + 64 + at_ : Nat) : Int) < ((73 * k : Nat) : Int) := by omega
            have i4 : ((73 * cI + 64 + at_ : Nat) : Int) < 73 * (k : Int) := by omega
            have iw3 : IntKind.i64.wrap ((73 * cI + 64 + at_ : Nat) : Int) = ((73 * cI + 64 + at_ : Nat) : Int) := IntWalk.i64_in _ (by omega)
            clear hS hyl hF czD hsb
            change bits .xor .u8 ((ys.getD (73 * cI + 64 + at_) 0).toNat : Int) ((2 ^ s : Nat) : Int) = ((ys.getD (73 * cI + 64 + at_) 0 ^^^ bitB s).toNat : Int) at hxr
            generalize ys.getD (73 * cI + 64 + at_) 0 = X at *
            obtain ⟨Y, hY⟩ : ∃ Y, Y = X ^^^ bitB s := ⟨_, rfl⟩
            rw [← hY] at hxr HP HB HS
            obtain ⟨q, hq0⟩ : ∃ q, q = 73 * cI + 64 + at_ := ⟨_, rfl⟩
            rw [← hq0] at cO zO HP HB HS i1 i2 i3 i4 iw3
            clear hY hq0 OD hql
            replace hO := Lib.hid hO
            replace hB := Lib.hid hB
            replace HS := Lib.hid HS
            replace hi9 := Lib.hid hi9
            rcases (show s = 0 ∨ s = 1 ∨ s = 2 ∨ s = 3 ∨ s = 4 ∨ s = 5 ∨ s = 6 ∨ s = 7 by omega) with rfl | rfl | rfl | rfl | rfl | rfl | rfl | rfl
            · have hxr' : bits .xor .u8 (X.toNat : Int) 1 = (Y.toNat : Int) := hxr
              have hs' : (bt_ : Int) - 64 = 0 := hs
              clear hxr hs
              go_wp2
              go_roundw
              case rel => exact ⟨i + 1, _, upd F cI at_ bt_, by omega, by go_num, by rw [htu.out]; go_num, HS.out, HP.out, HB.out⟩
              case measure => simp [intOf]; omega
            · have hxr' : bits .xor .u8 (X.toNat : Int) 2 = (Y.toNat : Int) := hxr
              have hs' : (bt_ : Int) - 64 = 1 := hs
              clear hxr hs
              go_wp2
              go_roundw
              case rel => exact ⟨i + 1, _, upd F cI at_ bt_, by omega, by go_num, by rw [htu.out]; go_num, HS.out, HP.out, HB.out⟩
              case measure => simp [intOf]; omega
            · have hxr' : bits .xor .u8 (X.toNat : Int) 4 = (Y.toNat : Int) := hxr
              have hs' : (bt_ : Int) - 64 = 2 := hs
              clear hxr hs
              go_wp2
              go_roundw
              case rel => exact ⟨i + 1, _, upd F cI at_ bt_, by omega, by go_num, by rw [htu.out]; go_num, HS.out, HP.out, HB.out⟩
              case measure => simp [intOf]; omega
            · have hxr' : bits .xor .u8 (X.toNat : Int) 8 = (Y.toNat : Int) := hxr
              have hs' : (bt_ : Int) - 64 = 3 := hs
              clear hxr hs
              go_wp2
              go_roundw
              case rel => exact ⟨i + 1, _, upd F cI at_ bt_, by omega, by go_num, by rw [htu.out]; go_num, HS.out, HP.out, HB.out⟩
              case measure => simp [intOf]; omega
            · have hxr' : bits .xor .u8 (X.toNat : Int) 16 = (Y.toNat : Int) := hxr
              have hs' : (bt_ : Int) - 64 = 4 := hs
              clear hxr hs
              go_wp2
              go_roundw
              case rel => exact ⟨i + 1, _, upd F cI at_ bt_, by omega, by go_num, by rw [htu.out]; go_num, HS.out, HP.out, HB.out⟩
              case measure => simp [intOf]; omega
            · have hxr' : bits .xor .u8 (X.toNat : Int) 32 = (Y.toNat : Int) := hxr
              have hs' : (bt_ : Int) - 64 = 5 := hs
              clear hxr hs
              go_wp2
              go_roundw
              case rel => exact ⟨i + 1, _, upd F cI at_ bt_, by omega, by go_num, by rw [htu.out]; go_num, HS.out, HP.out, HB.out⟩
              case measure => simp [intOf]; omega
            · have hxr' : bits .xor .u8 (X.toNat : Int) 64 = (Y.toNat : Int) := hxr
              have hs' : (bt_ : Int) - 64 = 6 := hs
              clear hxr hs
              go_wp2
              go_roundw
              case rel => exact ⟨i + 1, _, upd F cI at_ bt_, by omega, by go_num, by rw [htu.out]; go_num, HS.out, HP.out, HB.out⟩
              case measure => simp [intOf]; omega
            · have hxr' : bits .xor .u8 (X.toNat : Int) 128 = (Y.toNat : Int) := hxr
              have hs' : (bt_ : Int) - 64 = 7 := hs
              clear hxr hs
              go_wp2
              go_roundw
              case rel => exact ⟨i + 1, _, upd F cI at_ bt_, by omega, by go_num, by rw [htu.out]; go_num, HS.out, HP.out, HB.out⟩
              case measure => simp [intOf]; omega
    · have HRD := Lib.hid (readW (some ⟨g, 0, none⟩) ys (73 * k) rc (n : Int) wr hyl (Own.rd hO).1 (own_lt hO) (Own.rd hO).2.2.1 (Own.rd hO).2.2.2 (HLd.out _ hB))
      have HT := Lib.hid (fun o cn s ht => hTold.out ys i F o cn s hS ht)
      replace hB := Lib.hid hB
      replace hO := Lib.hid hO
      clear hS hyl
      rcases (show ¬ (i : Int) < 9 * (k : Int) ∨ ((i : Int) < 9 * (k : Int) ∧ ¬ (i : Int) < (n3 : Int)) by omega) with hj1 | ⟨hj1, hj2⟩
      all_goals
        clear hlt
        go_wp2_with fail
        refine HRD.out.mono ?_
        rintro e w5 ⟨⟨o, cn, s, a5, c5, rfl, hT, hR5, hlt5⟩, b5⟩
        obtain ⟨rfl, rfl, rfl⟩ := HT.out _ _ _ hT
        rw [Int.toNat_natCast, htk.out] at hR5 ⊢
        rw [hn.out]
        have B5 := Lib.hid (hB.out.trans (b5.mono hB.out.size))
        have hc1 := conv w5 a5 l n c5 hn.out hR5
        have hc2 := conv w5 a l n c hn.out (HRl.out _ B5.out)
        generalize strB l = S at *
        generalize tot F k = N at *
        clear hT hR5 hlt5 b5
        go_wp2
        go_ret
        exact ⟨rfl, B5.out⟩

theorem all (a : Option Addr) (n c : Nat) (zs : List Int) (a3 : Option Addr) (n3 c3 : Nat) (z3 : List Int) (w : World) (h : IsRow .u8 w a n c zs) (h3 : IsRow .i64 w a3 n3 c3 z3) (hl : Laid w) :
    Calls Tryd.prog 4 #[.slice a n c, .slice a3 n3 c3] w fun e w' => e = .returned (.bool true) ∧ Below w.heap.size w w' := by
  obtain ⟨l, hn, hr, _, ha⟩ := h.bytes
  have hm : n ≤ 9223372036854775807 := by have := hr.1; unfold maxLen at this; omega
  have hz := Ints.of h3
  have hm3 : n3 ≤ 9223372036854775807 := by have := hz.1; unfold maxLen at this; omega
  by_cases he : 512 < n ∨ n = 0 ∨ 100 < n3
  · exact PgN.early a a3 n c n3 c3 w hl hm hm3 he
  · exact law a a3 l z3 n c n3 c3 _ w hn hr (fun x h0 e => ha x (by omega) e) hz (by omega) (by omega) (by omega) rfl hl
end Go.Proofs.YtjnpfnpeekpleaaDoor.PgN
