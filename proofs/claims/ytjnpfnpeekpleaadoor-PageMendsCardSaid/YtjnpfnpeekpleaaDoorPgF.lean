/- The law of a page of which the first chunks alone were written. -/
import Derived.Test.YtjnpfnpeekpleaaDoorPgD
import Derived.StillTailTactics
namespace Go.Proofs.YtjnpfnpeekpleaaDoor.PgF
open Go.ChangeShapes Go.WideShapes Go.ChangeAt Go.RowKit
open EcM EcA EcB EcC EcT EcX EcY EcZ EcWM EcWP EcWR EcFM PgM PgA PgB PgC PgD
set_option linter.unusedVariables false
set_option maxHeartbeats 2000000

/-- Whole numbers that came in. -/
def Ints (w : World) (a : Option Addr) (n : Nat) (z : List Int) : Prop := n ≤ maxLen ∧ ∀ i, i < n → ∃ b off, a = some ⟨b, off, none⟩ ∧ b < w.heap.size ∧ w.cell? ⟨b, off + i, none⟩ = some (.int .i64 (z.getD i 0)) ∧ -9223372036854775808 ≤ z.getD i 0 ∧ z.getD i 0 ≤ 9223372036854775807
theorem Ints.below {w w' : World} {a : Option Addr} {n : Nat} {z : List Int} (h : Ints w a n z) (hb : Below w.heap.size w w') : Ints w' a n z := ⟨h.1, fun i hi => by
  obtain ⟨b, off, e, hl, hc, hz⟩ := h.2 i hi
  exact ⟨b, off, e, Nat.lt_of_lt_of_le hl hb.size, (hb.cell (p := ⟨b, off + i, none⟩) hl).trans hc, hz⟩⟩
theorem Ints.of {w : World} {a : Option Addr} {n c : Nat} {z : List Int} (h : IsRow .i64 w a n c z) : Ints w a n z := by
  rcases h with ⟨rfl, rfl, rfl, rfl⟩ | ⟨x, rfl, hl, hm, hz, hc, hw⟩
  · exact ⟨by simp [maxLen], fun i hi => absurd hi (by omega)⟩
  · refine ⟨by omega, fun i hi => ?_⟩
    obtain ⟨b, off, spot⟩ := x
    have hspot : spot = none := by simpa [Addr.add] using World.cell?_spot (hc 0 (by omega))
    subst hspot
    have h1 := hc i (by omega)
    rw [Addr.add_lit] at h1
    have hi' : i < z.length := by omega
    have h2 := hw (z.getD i 0) (by rw [List.getD_eq_getElem?_getD, List.getElem?_eq_getElem hi']; exact List.getElem_mem _)
    have h3 : -9223372036854775808 ≤ z.getD i 0 ∧ z.getD i 0 ≤ 9223372036854775807 := by simpa [Lit.wf, IntKind.min, IntKind.max, IntKind.signed, IntKind.bits] using h2
    exact ⟨b, off, rfl, World.block_lt_of_cell? w _ h1, h1, h3⟩

theorem mk_set (xs : List B8) (i j : Nat) (y : B8) (h : i < xs.length) : mk (xs.set i y) j = if 73 * j + 72 = i then y else mk xs j := by
  unfold mk
  by_cases e : 73 * j + 72 = i
  · subst e; rw [if_pos rfl]; simp [h]
  · rw [if_neg e]
    have : i ≠ 73 * j + 72 := fun h => e h.symm
    simp [this]
theorem marks_cut (xs : List B8) (k cut : Nat) (h : ∀ i, i < k → marked (mk xs i) = decide (i < cut)) : ∀ j, j ≤ k → marks xs j = min j cut
  | 0, _ => by simp [marks]
  | j + 1, hj => by
    rw [marks, marks_cut xs k cut h j (by omega), h j (by omega)]
    by_cases e : j < cut
    · rw [if_pos (by simpa using e)]; omega
    · rw [if_neg (by simpa using e)]; omega
def want (cut : Nat) : Nat := if cut = 0 then 0 else 1
theorem state_cut (xs : List B8) (k cut : Nat) (hl : xs.length = 73 * k) (h1 : 1 ≤ k) (h8 : k ≤ 8) (hc : cut < k) (h : ∀ i, i < k → marked (mk xs i) = decide (i < cut)) : stateOf xs = want cut := by
  have hd : xs.length / 73 = k := by omega
  have hm := marks_cut xs k cut h k (Nat.le_refl _)
  have hs : shaped xs := ⟨by omega, by omega, by omega⟩
  unfold stateOf want
  rw [if_neg (fun e => e hs), hd, hm]
  by_cases e : cut = 0
  · rw [if_pos (by omega), if_pos e]
  · rw [if_neg (by omega), if_neg (by omega), if_neg e]
theorem turn_mark (s : Nat) (hs : s < 8) : marked ((0 : B8) ^^^ BitVec.ofNat 8 (2 ^ s)) = true ∧ marked ((255 : B8) ^^^ BitVec.ofNat 8 (2 ^ s)) = false := by
  have H : ∀ s : Fin 8, marked ((0 : B8) ^^^ BitVec.ofNat 8 (2 ^ s.val)) = true ∧ marked ((255 : B8) ^^^ BitVec.ofNat 8 (2 ^ s.val)) = false := by decide +kernel
  exact H ⟨s, hs⟩
theorem xor_bit (s : Nat) (hs : s < 8) (x : B8) : bits .xor .u8 (x.toNat : Int) ((2 ^ s : Nat) : Int) = ((x ^^^ BitVec.ofNat 8 (2 ^ s)).toNat : Int) := by
  have H : ∀ (s : Fin 8) (x : B8), bits .xor .u8 (x.toNat : Int) ((2 ^ s.val : Nat) : Int) = ((x ^^^ BitVec.ofNat 8 (2 ^ s.val)).toNat : Int) := by decide +kernel
  exact H ⟨s, hs⟩ x

theorem early (a a3 : Option Addr) (n c n3 c3 : Nat) (k cut : Int) (w : World) (hl : Laid w) (hm : n ≤ 9223372036854775807) (h : k < 1 ∨ 8 < k ∨ 64 * k < n ∨ cut < 0 ∨ k ≤ cut) :
    Calls Tryd.prog 5 #[.slice a n c, .int .i64 k, .int .i64 cut, .slice a3 n3 c3] w fun e w' => e = .returned (.bool true) ∧ Below w.heap.size w w' := by
  have HK := Lib.hid (known w hl)
  clear hl
  rcases (show k < 1 ∨ (¬ k < 1 ∧ 8 < k) ∨ (¬ k < 1 ∧ ¬ 8 < k ∧ 64 * k < n) ∨ (¬ k < 1 ∧ ¬ 8 < k ∧ ¬ 64 * k < n ∧ cut < 0) ∨ (¬ k < 1 ∧ ¬ 8 < k ∧ ¬ 64 * k < n ∧ ¬ cut < 0 ∧ k ≤ cut) by omega) with h | ⟨h1, h2⟩ | ⟨h1, h2, h3⟩ | ⟨h1, h2, h3, h4⟩ | ⟨h1, h2, h3, h4, h5⟩
  all_goals
    go_enter Tryd.func5, Tryd.ntmps5
    go_wp2_with fail
    refine HK.out.mono ?_
    rintro e w1 ⟨rfl, b1⟩
    replace b1 := Lib.hid b1
    go_wp2
    go_ret
    exact ⟨rfl, b1.out⟩

set_option maxRecDepth 100000 in
theorem law (a a3 : Option Addr) (l : List B8) (z : List Int) (n c n3 c3 k cut : Nat) (w : World) (hn : l.length = n) (hr : Rd w a l) (ha : ∀ x, 0 < l.length → a = some x → x.block < w.heap.size) (hz : Ints w a3 n3 z) (h1 : 1 ≤ k) (h8 : k ≤ 8) (hle : n ≤ 64 * k) (hc : cut < k) (hl : Laid w) :
    Calls Tryd.prog 5 #[.slice a n c, .int .i64 (k : Int), .int .i64 (cut : Int), .slice a3 n3 c3] w fun e w' => e = .returned (.bool true) ∧ Below w.heap.size w w' := by
  have HK := Lib.hid (known w hl)
  have hP := padT_len l (64 * k) (by omega)
  have HL8 := Lib.hid (fun w' (hb : Below w.heap.size w w') => layW a l n c k w' hn (Rd.below hr hb ha) (fun x h0 e => Nat.lt_of_lt_of_le (ha x h0 e) hb.size) h1 h8 hle (hl.below hb))
  have HLd : Hid (∀ w', Below w.heap.size w w' → Laid w') := Lib.hid fun w' hb => hl.below hb
  have HZ : Hid (∀ w', Below w.heap.size w w' → Ints w' a3 n3 z) := Lib.hid fun w' hb => hz.below hb
  have hn3 : (n3 : Int) ≤ 9223372036854775807 := by have := hz.1; unfold maxLen at this; omega
  have hlen := Lib.hid (layK_len (padT l (64 * k)) k hP k (Nat.le_refl _))
  have hmk : Hid (∀ j, j < k → mk (layK (padT l (64 * k)) k) j = 0) := Lib.hid fun j hj => (lay_parts _ k j hP hj).2.2
  have hms := Lib.hid mk_set
  have htm := Lib.hid turn_mark
  have hst := Lib.hid (fun xs h2 h3 => state_cut xs k cut h2 h1 h8 hc h3)
  generalize layK (padT l (64 * k)) k = R at *
  have g1 : ¬ (k : Int) < 1 := by omega
  have g2 : ¬ (8 : Int) < (k : Int) := by omega
  have g3 : ¬ 64 * (k : Int) < (n : Int) := by omega
  have g4 : ¬ (cut : Int) < 0 := by omega
  have g5 : ¬ (k : Int) ≤ (cut : Int) := by omega
  replace hn := Lib.hid hn
  clear hr ha hl hP hz
  go_enter Tryd.func5, Tryd.ntmps5
  go_wp2_with fail
  refine HK.out.mono ?_
  rintro e w1 ⟨rfl, b1⟩
  have B1 := Lib.hid b1
  clear b1 HK
  go_wp2_with fail
  refine (HL8.out _ B1.out).mono ?_
  rintro e w2 ⟨ra, rc, rfl, HO, b2⟩
  have B2 := Lib.hid (B1.out.trans (b2.mono B1.out.size))
  obtain ⟨g, rfl, hgb, _⟩ := own_at HO (by omega)
  have hgw : Hid (w.heap.size ≤ g) := Lib.hid (by have := B1.out.size; omega)
  generalize hbase : w1.heap.size + 1 = base at *
  replace HO := Lib.hid HO
  clear b2 HL8 hbase hgb
  go_wp2_with fail
  go_loopw [11] (fun i wr => ∃ (p : Nat) (xs : List B8), 73 * cut ≤ p ∧ p ≤ 73 * k ∧ i = .int .i64 (p : Int) ∧ xs.length = 73 * k ∧ (∀ j, j < k → mk xs j = if cut ≤ j ∧ 73 * j + 72 < p then 255 else 0) ∧ Own wr base (.slice (some ⟨g, 0, none⟩) (73 * k) rc) xs ∧ Below w.heap.size w wr) (fun i _ => 73 * k - (intOf i).toNat)
  case atStart => exact ⟨73 * cut, R, by omega, by omega, by go_num, hlen.out, fun j hj => by rw [hmk.out j hj, if_neg (by omega)], HO.out, B2.out⟩
  case round =>
    clear HO B2
    obtain ⟨p, xs, hp1, hp2, rfl, hxl, hxm, hO, hB⟩ := hrel
    replace hxm := Lib.hid hxm
    replace hxl := Lib.hid hxl
    by_cases hlt : p < 73 * k
    · have hlt' : (p : Int) < ((73 * k : Nat) : Int) := by omega
      have hp0 : (0 : Int) ≤ (p : Int) := by omega
      have cO := rd_at (Own.rd hO).1 p (by rw [hxl.out]; exact hlt)
      rw [Nat.zero_add] at cO
      have zO := Own.free hO p
      have HP := Lib.hid (Own.put hO p (by rw [hxl.out]; exact hlt) 255)
      have HB := Lib.hid (hB.setCell (p := ⟨g, p, none⟩) hgw.out (.int .u8 255))
      have hx2 : Hid (∀ j, j < k → mk (xs.set p 255) j = if cut ≤ j ∧ 73 * j + 72 < p + 1 then 255 else 0) := Lib.hid fun j hj => by
        rw [hms.out xs p j 255 (by rw [hxl.out]; exact hlt)]
        by_cases e : 73 * j + 72 = p
        · rw [if_pos e, if_pos ⟨by omega, by omega⟩]
        · rw [if_neg e, hxm.out j hj]
          by_cases e2 : cut ≤ j ∧ 73 * j + 72 < p
          · rw [if_pos e2, if_pos ⟨e2.1, by omega⟩]
          · rw [if_neg e2, if_neg (by omega)]
      generalize xs.getD p 0 = old at cO
      clear hO hB
      go_wp2
      go_roundw
      case rel => exact ⟨p + 1, xs.set p 255, by omega, by omega, by go_num, by rw [List.length_set]; exact hxl.out, hx2.out, HP.out, HB.out⟩
      case measure => simp [intOf]; omega
    · obtain rfl : p = 73 * k := by omega
      have hxm2 : Hid (∀ j, j < k → mk xs j = if cut ≤ j then 255 else 0) := Lib.hid fun j hj => by
        rw [hxm.out j hj]
        by_cases e : cut ≤ j
        · rw [if_pos ⟨e, by omega⟩, if_pos e]
        · rw [if_neg (by omega), if_neg e]
      have hlt' : ¬ ((73 * k : Nat) : Int) < ((73 * k : Nat) : Int) := by omega
      replace hO := Lib.hid hO
      replace hB := Lib.hid hB
      clear hxm
      go_wp2_with fail
      go_loopw [12] (fun i wr => ∃ (j : Nat) (ys : List B8), j ≤ k ∧ i = .int .i64 (j : Int) ∧ ys.length = 73 * k ∧ (∀ i, i < k → marked (mk ys i) = decide (i < cut)) ∧ (∀ i, j ≤ i → i < k → mk ys i = if cut ≤ i then 255 else 0) ∧ Own wr base (.slice (some ⟨g, 0, none⟩) (73 * k) rc) ys ∧ Below w.heap.size w wr) (fun i _ => k - (intOf i).toNat)
      case atStart => exact ⟨0, xs, by omega, rfl, hxl.out, fun i hi => by
        rw [hxm2.out i hi]
        by_cases e : cut ≤ i
        · rw [if_pos e, decide_eq_false (by omega)]; decide
        · rw [if_neg e, decide_eq_true (by omega)]; decide, fun i _ hi => hxm2.out i hi, hO.out, hB.out⟩
      case round =>
        clear hO hB hxm2 hxl hlt' hlt hp1 hp2
        obtain ⟨j, ys, hj, rfl, hyl, hym, hyr, hO, hB⟩ := hrel
        replace hyl := Lib.hid hyl
        replace hym := Lib.hid hym
        replace hyr := Lib.hid hyr
        by_cases hlt : j < k ∧ j < n3
        · obtain ⟨hjk, hj3⟩ := hlt
          have hjk' : (j : Int) < (k : Int) := by omega
          have hj3' : (j : Int) < (n3 : Int) := by omega
          obtain ⟨bz, oz, rfl, hbz, cz, z1, z2⟩ := (HZ.out _ hB).2 j hj3
          have czD : wr.drew.cell? ⟨bz, oz + j, none⟩ = some (.int .i64 (z.getD j 0)) := cz
          generalize z.getD j 0 = tn at *
          by_cases ht : 0 ≤ tn
          · have hq : 73 * j + 72 < ys.length := by rw [hyl.out]; omega
            have OD : Own wr.drew base (.slice (some ⟨g, 0, none⟩) (73 * k) rc) ys := hO
            have cO := rd_at (Own.rd OD).1 (73 * j + 72) hq
            rw [Nat.zero_add] at cO
            have zO := Own.free OD (73 * j + 72)
            have hb : ∃ s : Nat, s < 8 ∧ tn % 8 = (s : Int) := ⟨(tn % 8).toNat, by omega, by omega⟩
            obtain ⟨s, hs8, hs⟩ := hb
            obtain ⟨X, hX⟩ : ∃ X, X = ys.getD (73 * j + 72) 0 := ⟨_, rfl⟩
            rw [← hX] at cO
            have hXv : X = if cut ≤ j then 255 else 0 := by rw [hX]; exact hyr.out j (Nat.le_refl _) hjk
            have hxr := xor_bit s hs8 X
            have HP := Lib.hid (Own.put OD (73 * j + 72) hq (X ^^^ BitVec.ofNat 8 (2 ^ s)))
            have HB := Lib.hid (hB.drew.setCell (p := ⟨g, 73 * j + 72, none⟩) hgw.out (.int .u8 ((X ^^^ BitVec.ofNat 8 (2 ^ s)).toNat : Int)))
            have hy1 : Hid (∀ i, i < k → marked (mk (ys.set (73 * j + 72) (X ^^^ BitVec.ofNat 8 (2 ^ s))) i) = decide (i < cut)) := Lib.hid fun i hi => by
              rw [hms.out ys _ i _ hq]
              by_cases e : 73 * i + 72 = 73 * j + 72
              · obtain rfl : i = j := by omega
                rw [if_pos rfl, hXv]
                by_cases e2 : cut ≤ i
                · rw [if_pos e2, (htm.out s hs8).2, decide_eq_false (by omega)]
                · rw [if_neg e2, (htm.out s hs8).1, decide_eq_true (by omega)]
              · rw [if_neg e]; exact hym.out i hi
            have hy2 : Hid (∀ i, j + 1 ≤ i → i < k → mk (ys.set (73 * j + 72) (X ^^^ BitVec.ofNat 8 (2 ^ s))) i = if cut ≤ i then 255 else 0) := Lib.hid fun i h5 hi => by
              rw [hms.out ys _ i _ hq, if_neg (by omega)]
              exact hyr.out i (by omega) hi
            have i1 : 73 * (j : Int) + 72 = ((73 * j + 72 : Nat) : Int) := by omega
            have iw1 : IntKind.i64.wrap (73 * (j : Int)) = 73 * (j : Int) := IntWalk.i64_in _ (by omega)
            have iw2 : IntKind.i64.wrap (73 * (j : Int) + 72) = 73 * (j : Int) + 72 := IntWalk.i64_in _ (by omega)
            have i2 : (0 : Int) ≤ ((73 * j + 72 : Nat) : Int) := by omega
            have i3 : ((73 * j + 72 : Nat) : Int) < ((73 * k : Nat) : Int) := by omega
            have i4 : ((73 * j + 72 : Nat) : Int) < 73 * (k : Int) := by omega
            have iw3 : IntKind.i64.wrap (((73 * j + 72 : Nat)) : Int) = ((73 * j + 72 : Nat) : Int) := IntWalk.i64_in _ (by omega)
            generalize X ^^^ BitVec.ofNat 8 (2 ^ s) = Y at *
            generalize hq1 : 73 * j + 72 = q at *
            clear hO OD hX hXv
            replace hB := Lib.hid hB
            replace hq1 := Lib.hid hq1
            rcases (show s = 0 ∨ s = 1 ∨ s = 2 ∨ s = 3 ∨ s = 4 ∨ s = 5 ∨ s = 6 ∨ s = 7 by omega) with rfl | rfl | rfl | rfl | rfl | rfl | rfl | rfl
            · have hxr' : bits .xor .u8 (X.toNat : Int) 1 = (Y.toNat : Int) := hxr
              have hs' : tn % 8 = 0 := hs
              clear hxr hs
              go_wp2_with fail
              refine wp_region_still_tail 19 (by kernel_rfl) (by kernel_rfl) ?_
              simp only [List.take_succ_cons, List.take_zero, List.drop_succ_cons, List.drop_zero]
              change wpStill _ _ (World.drew wr) (fun a' => wpList _ _ _ _ a' (World.drew wr)) _ _
              generalize World.drew wr = wd at *
              repeat still_step
              try refine wpStill_nil ?_
              change wpList _ _ _ _ _ wd
              go_wp2
              go_roundw
              case rel => exact ⟨j + 1, _, by omega, by go_num, by rw [List.length_set]; exact hyl.out, hy1.out, hy2.out, HP.out, HB.out⟩
              case measure => simp [intOf]; omega
            · have hxr' : bits .xor .u8 (X.toNat : Int) 2 = (Y.toNat : Int) := hxr
              have hs' : tn % 8 = 1 := hs
              clear hxr hs
              go_wp2_with fail
              refine wp_region_still_tail 19 (by kernel_rfl) (by kernel_rfl) ?_
              simp only [List.take_succ_cons, List.take_zero, List.drop_succ_cons, List.drop_zero]
              change wpStill _ _ (World.drew wr) (fun a' => wpList _ _ _ _ a' (World.drew wr)) _ _
              generalize World.drew wr = wd at *
              repeat still_step
              try refine wpStill_nil ?_
              change wpList _ _ _ _ _ wd
              go_wp2
              go_roundw
              case rel => exact ⟨j + 1, _, by omega, by go_num, by rw [List.length_set]; exact hyl.out, hy1.out, hy2.out, HP.out, HB.out⟩
              case measure => simp [intOf]; omega
            · have hxr' : bits .xor .u8 (X.toNat : Int) 4 = (Y.toNat : Int) := hxr
              have hs' : tn % 8 = 2 := hs
              clear hxr hs
              go_wp2_with fail
              refine wp_region_still_tail 19 (by kernel_rfl) (by kernel_rfl) ?_
              simp only [List.take_succ_cons, List.take_zero, List.drop_succ_cons, List.drop_zero]
              change wpStill _ _ (World.drew wr) (fun a' => wpList _ _ _ _ a' (World.drew wr)) _ _
              generalize World.drew wr = wd at *
              repeat still_step
              try refine wpStill_nil ?_
              change wpList _ _ _ _ _ wd
              go_wp2
              go_roundw
              case rel => exact ⟨j + 1, _, by omega, by go_num, by rw [List.length_set]; exact hyl.out, hy1.out, hy2.out, HP.out, HB.out⟩
              case measure => simp [intOf]; omega
            · have hxr' : bits .xor .u8 (X.toNat : Int) 8 = (Y.toNat : Int) := hxr
              have hs' : tn % 8 = 3 := hs
              clear hxr hs
              go_wp2_with fail
              refine wp_region_still_tail 19 (by kernel_rfl) (by kernel_rfl) ?_
              simp only [List.take_succ_cons, List.take_zero, List.drop_succ_cons, List.drop_zero]
              change wpStill _ _ (World.drew wr) (fun a' => wpList _ _ _ _ a' (World.drew wr)) _ _
              generalize World.drew wr = wd at *
              repeat still_step
              try refine wpStill_nil ?_
              change wpList _ _ _ _ _ wd
              go_wp2
              go_roundw
              case rel => exact ⟨j + 1, _, by omega, by go_num, by rw [List.length_set]; exact hyl.out, hy1.out, hy2.out, HP.out, HB.out⟩
              case measure => simp [intOf]; omega
            · have hxr' : bits .xor .u8 (X.toNat : Int) 16 = (Y.toNat : Int) := hxr
              have hs' : tn % 8 = 4 := hs
              clear hxr hs
              go_wp2_with fail
              refine wp_region_still_tail 19 (by kernel_rfl) (by kernel_rfl) ?_
              simp only [List.take_succ_cons, List.take_zero, List.drop_succ_cons, List.drop_zero]
              change wpStill _ _ (World.drew wr) (fun a' => wpList _ _ _ _ a' (World.drew wr)) _ _
              generalize World.drew wr = wd at *
              repeat still_step
              try refine wpStill_nil ?_
              change wpList _ _ _ _ _ wd
              go_wp2
              go_roundw
              case rel => exact ⟨j + 1, _, by omega, by go_num, by rw [List.length_set]; exact hyl.out, hy1.out, hy2.out, HP.out, HB.out⟩
              case measure => simp [intOf]; omega
            · have hxr' : bits .xor .u8 (X.toNat : Int) 32 = (Y.toNat : Int) := hxr
              have hs' : tn % 8 = 5 := hs
              clear hxr hs
              go_wp2_with fail
              refine wp_region_still_tail 19 (by kernel_rfl) (by kernel_rfl) ?_
              simp only [List.take_succ_cons, List.take_zero, List.drop_succ_cons, List.drop_zero]
              change wpStill _ _ (World.drew wr) (fun a' => wpList _ _ _ _ a' (World.drew wr)) _ _
              generalize World.drew wr = wd at *
              repeat still_step
              try refine wpStill_nil ?_
              change wpList _ _ _ _ _ wd
              go_wp2
              go_roundw
              case rel => exact ⟨j + 1, _, by omega, by go_num, by rw [List.length_set]; exact hyl.out, hy1.out, hy2.out, HP.out, HB.out⟩
              case measure => simp [intOf]; omega
            · have hxr' : bits .xor .u8 (X.toNat : Int) 64 = (Y.toNat : Int) := hxr
              have hs' : tn % 8 = 6 := hs
              clear hxr hs
              go_wp2_with fail
              refine wp_region_still_tail 19 (by kernel_rfl) (by kernel_rfl) ?_
              simp only [List.take_succ_cons, List.take_zero, List.drop_succ_cons, List.drop_zero]
              change wpStill _ _ (World.drew wr) (fun a' => wpList _ _ _ _ a' (World.drew wr)) _ _
              generalize World.drew wr = wd at *
              repeat still_step
              try refine wpStill_nil ?_
              change wpList _ _ _ _ _ wd
              go_wp2
              go_roundw
              case rel => exact ⟨j + 1, _, by omega, by go_num, by rw [List.length_set]; exact hyl.out, hy1.out, hy2.out, HP.out, HB.out⟩
              case measure => simp [intOf]; omega
            · have hxr' : bits .xor .u8 (X.toNat : Int) 128 = (Y.toNat : Int) := hxr
              have hs' : tn % 8 = 7 := hs
              clear hxr hs
              go_wp2_with fail
              refine wp_region_still_tail 19 (by kernel_rfl) (by kernel_rfl) ?_
              simp only [List.take_succ_cons, List.take_zero, List.drop_succ_cons, List.drop_zero]
              change wpStill _ _ (World.drew wr) (fun a' => wpList _ _ _ _ a' (World.drew wr)) _ _
              generalize World.drew wr = wd at *
              repeat still_step
              try refine wpStill_nil ?_
              change wpList _ _ _ _ _ wd
              go_wp2
              go_roundw
              case rel => exact ⟨j + 1, _, by omega, by go_num, by rw [List.length_set]; exact hyl.out, hy1.out, hy2.out, HP.out, HB.out⟩
              case measure => simp [intOf]; omega
          · have ht' : ¬ (0 : Int) ≤ tn := ht
            replace hO := Lib.hid hO
            replace hB := Lib.hid hB
            clear czD
            go_wp2
            go_roundw
            case rel => exact ⟨j + 1, ys, by omega, by go_num, hyl.out, hym.out, fun i h5 hi => hyr.out i (by omega) hi, hO.out, hB.out⟩
            case measure => simp [intOf]; omega
        · have hS : Hid (stateOf ys = want cut) := Lib.hid (hst.out ys hyl.out hym.out)
          have hw2 : Hid (want cut ≠ 2) := Lib.hid (by unfold want; split <;> decide)
          have HRD := Lib.hid (readW (some ⟨g, 0, none⟩) ys (73 * k) rc 1 wr hyl.out (Own.rd hO).1 (own_lt hO) (Own.rd hO).2.2.1 (Own.rd hO).2.2.2 (HLd.out _ hB))
          have hgl : Hid (g < wr.heap.size) := Lib.hid (own_lt hO _ (by rw [hyl.out]; omega) rfl)
          have HST := Lib.hid (fun w' (hb : Below wr.heap.size wr w') => stateW (some ⟨g, 0, none⟩) ys (73 * k) rc w' hyl.out (Rd.below (Own.rd hO).1 hb (own_lt hO)))
          rw [hS.out] at HST
          have hW : Hid (want cut = if cut = 0 then 0 else 1) := Lib.hid rfl
          replace hO := Lib.hid hO
          replace hB := Lib.hid hB
          have hend : ((j : Int) < (k : Int) → ¬ (j : Int) < (n3 : Int)) := by omega
          rcases (show ¬ (j : Int) < (k : Int) ∨ ((j : Int) < (k : Int) ∧ ¬ (j : Int) < (n3 : Int)) by omega) with hj1 | ⟨hj1, hj2⟩
          all_goals
            clear hend hlt
            go_wp2_with fail
            refine HRD.out.mono ?_
            rintro e w5 ⟨⟨o, cn, s, a5, c5, rfl, hT, hR5, hlt5⟩, b5⟩
            have hT2 : o = [] ∧ cn = 0 ∧ s = want cut := by
              rcases hT with ⟨h1, h2, h3, h4⟩ | ⟨h1, _⟩ | ⟨h1, _⟩
              · exact ⟨h2, h3, by rw [h4, hS.out]⟩
              · exact absurd (hS.out.symm.trans h1) hw2.out
              · exact absurd (hS.out.symm.trans h1) hw2.out
            obtain ⟨rfl, rfl, rfl⟩ := hT2
            have B5 := Lib.hid (hB.out.trans (b5.mono hB.out.size))
            replace HST := Lib.hid (HST.out w5 b5)
            clear hT hR5 hlt5 b5
            by_cases h0 : cut = 0
            · have hc0 : ((cut : Int) == 0) = true := by simp; omega
              have hwt : want cut = 0 := by rw [hW.out, if_pos h0]
              rw [hwt] at HST ⊢
              go_wp2_with (go_at_call 12; refine HST.out.mono ?_; rintro e w' ⟨rfl, hw⟩; obtain rfl := hw.symm)
              go_ret
              exact ⟨rfl, B5.out⟩
            · have hc0 : ((cut : Int) == 0) = false := by simp; omega
              have hwt : want cut = 1 := by rw [hW.out, if_neg h0]
              rw [hwt] at HST ⊢
              go_wp2_with (go_at_call 12; refine HST.out.mono ?_; rintro e w' ⟨rfl, hw⟩; obtain rfl := hw.symm)
              go_ret
              exact ⟨rfl, B5.out⟩

theorem all (a : Option Addr) (n c : Nat) (zs : List Int) (k cut : Int) (a3 : Option Addr) (n3 c3 : Nat) (z3 : List Int) (w : World) (h : IsRow .u8 w a n c zs) (h3 : IsRow .i64 w a3 n3 c3 z3) (hl : Laid w) :
    Calls Tryd.prog 5 #[.slice a n c, .int .i64 k, .int .i64 cut, .slice a3 n3 c3] w fun e w' => e = .returned (.bool true) ∧ Below w.heap.size w w' := by
  obtain ⟨l, hn, hr, _, ha⟩ := h.bytes
  have hm : n ≤ 9223372036854775807 := by have := hr.1; unfold maxLen at this; omega
  by_cases he : k < 1 ∨ 8 < k ∨ 64 * k < n ∨ cut < 0 ∨ k ≤ cut
  · exact PgF.early a a3 n c n3 c3 k cut w hl hm he
  · obtain ⟨kk, rfl⟩ := Int.eq_ofNat_of_zero_le (show 0 ≤ k by omega)
    obtain ⟨cc, rfl⟩ := Int.eq_ofNat_of_zero_le (show 0 ≤ cut by omega)
    exact law a a3 l z3 n c n3 c3 kk cc w hn hr (fun x h0 e => ha x (by omega) e) (Ints.of h3) (by omega) (by omega) (by omega) (by omega) hl
end Go.Proofs.YtjnpfnpeekpleaaDoor.PgF
