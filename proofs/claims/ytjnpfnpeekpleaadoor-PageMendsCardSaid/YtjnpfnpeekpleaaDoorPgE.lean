/- The law of what stands behind the data of a page. -/
import Derived.Test.YtjnpfnpeekpleaaDoorPgD
namespace Go.Proofs.YtjnpfnpeekpleaaDoor.PgE
open Go.ChangeShapes Go.WideShapes Go.ChangeAt Go.RowKit
open EcM EcA EcB EcC EcT EcX EcY EcZ EcWM EcWP EcWR EcFM PgM PgA PgB PgC PgD
set_option linter.unusedVariables false
set_option maxHeartbeats 2000000

theorem pad_get (l : List B8) (m i : Nat) : (padT l m).getD i 0 = if i < l.length then l.getD i 0 else 0 := by
  unfold padT
  split
  · rename_i h
    simp [List.getD_eq_getElem?_getD, List.getElem?_append_left h]
  · rename_i h
    rw [List.getD_eq_getElem?_getD, List.getElem?_append_right (by omega), List.getElem?_replicate]
    split <;> rfl
theorem pad_again (l : List B8) (m b : Nat) (h : l.length ≤ b) (hb : b ≤ m) : padT ((padT l m).take b) m = padT l m := by
  unfold padT
  have e : (l ++ List.replicate (m - l.length) 0#8).take b = l ++ List.replicate (b - l.length) 0#8 := by
    rw [List.take_append, List.take_of_length_le h, List.take_replicate, Nat.min_eq_left (by omega)]
  have e2 : (l ++ List.replicate (m - l.length) (0 : B8)).take b = l ++ List.replicate (b - l.length) (0 : B8) := e
  rw [e2, List.append_assoc, List.replicate_append_replicate]
  congr 2
  simp
  omega

theorem early (a : Option Addr) (n c : Nat) (k b : Int) (w : World) (hl : Laid w) (hm : n ≤ 9223372036854775807) (h : k < 1 ∨ 8 < k ∨ 64 * k < n ∨ b < 0 ∨ 64 * k < b) :
    Calls Tryd.prog 6 #[.slice a n c, .int .i64 k, .int .i64 b] w fun e w' => e = .returned (.bool true) ∧ Below w.heap.size w w' := by
  have HK := Lib.hid (known w hl)
  clear hl
  rcases (show k < 1 ∨ (¬ k < 1 ∧ 8 < k) ∨ (¬ k < 1 ∧ ¬ 8 < k ∧ 64 * k < n) ∨ (¬ k < 1 ∧ ¬ 8 < k ∧ ¬ 64 * k < n ∧ b < 0) ∨ (¬ k < 1 ∧ ¬ 8 < k ∧ ¬ 64 * k < n ∧ ¬ b < 0 ∧ 64 * k < b) by omega) with h | ⟨h1, h2⟩ | ⟨h1, h2, h3⟩ | ⟨h1, h2, h3, h4⟩ | ⟨h1, h2, h3, h4, h5⟩
  all_goals
    go_enter Tryd.func6, Tryd.ntmps6
    go_wp2_with fail
    refine HK.out.mono ?_
    rintro e w1 ⟨rfl, b1⟩
    replace b1 := Lib.hid b1
    go_wp2
    go_ret
    exact ⟨rfl, b1.out⟩

set_option maxRecDepth 100000 in
theorem law (a : Option Addr) (l : List B8) (n c k bb : Nat) (w : World) (hn : l.length = n) (hr : Rd w a l) (ha : ∀ x, 0 < l.length → a = some x → x.block < w.heap.size) (h1 : 1 ≤ k) (h8 : k ≤ 8) (hle : n ≤ 64 * k) (hb : bb ≤ 64 * k) (hl : Laid w) :
    Calls Tryd.prog 6 #[.slice a n c, .int .i64 (k : Int), .int .i64 (bb : Int)] w fun e w' => e = .returned (.bool true) ∧ Below w.heap.size w w' := by
  have HK := Lib.hid (known w hl)
  have HR : Hid (∀ w', Below w.heap.size w w' → Rd w' a l) := Lib.hid fun w' hb => Rd.below hr hb ha
  have hP := padT_len l (64 * k) (by omega)
  have HL8 := Lib.hid (fun w' (hb : Below w.heap.size w w') => layW a l n c k w' hn (Rd.below hr hb ha) (fun x h0 e => Nat.lt_of_lt_of_le (ha x h0 e) hb.size) h1 h8 hle (hl.below hb))
  have HLd : Hid (∀ w', Below w.heap.size w w' → Laid w') := Lib.hid fun w' hb => hl.below hb
  have HPg := Lib.hid (pad_get l (64 * k))
  have hPa : Hid (n ≤ bb → padT ((padT l (64 * k)).take bb) (64 * k) = padT l (64 * k)) := Lib.hid fun h => pad_again l (64 * k) bb (by omega) hb
  have hlen := Lib.hid (layK_len (padT l (64 * k)) k hP k (Nat.le_refl _))
  have hT := Lib.hid (fun o cn s h => lay_told l k (by omega) h1 h8 (bb : Int) (by omega) (by omega) (o := o) (n := cn) (s := s) h)
  have hol : Hid (((padT l (64 * k)).take bb).length = bb) := Lib.hid (by rw [List.length_take, hP]; omega)
  have hog : Hid (∀ i, i < bb → ((padT l (64 * k)).take bb).getD i 0 = (padT l (64 * k)).getD i 0) := Lib.hid fun i hi => by
    rw [List.getD_eq_getElem?_getD, List.getD_eq_getElem?_getD, List.getElem?_take, if_pos hi]
  have g1 : ¬ (k : Int) < 1 := by omega
  have g2 : ¬ (8 : Int) < (k : Int) := by omega
  have g3 : ¬ 64 * (k : Int) < (n : Int) := by omega
  have g4 : ¬ (bb : Int) < 0 := by omega
  have g5 : ¬ 64 * (k : Int) < (bb : Int) := by omega
  have hrn : Hid (∀ i, i < n → ∃ b off, a = some ⟨b, off, none⟩ ∧ b < w.heap.size ∧ w.cell? ⟨b, off + i, none⟩ = some (.int .u8 (l.getD i 0).toNat)) := Lib.hid fun i hi => by
    obtain ⟨b, off, e, hc⟩ := hr.2 i (by omega)
    exact ⟨b, off, e, ha _ (by omega) e, hc⟩
  replace hn := Lib.hid hn
  clear hr ha hl hP
  go_enter Tryd.func6, Tryd.ntmps6
  go_wp2_with fail
  refine HK.out.mono ?_
  rintro e w1 ⟨rfl, b1⟩
  have B1 := Lib.hid b1
  clear b1 HK
  go_wp2_with fail
  refine (HL8.out _ B1.out).mono ?_
  rintro e w2 ⟨ra, rc, rfl, HO, b2⟩
  have B2 := Lib.hid (B1.out.trans (b2.mono B1.out.size))
  have hrd := Lib.hid (Own.rd HO)
  have hrl := Lib.hid (own_lt HO)
  have HRD := Lib.hid (readW ra (layK (padT l (64 * k)) k) (73 * k) rc (bb : Int) w2 hlen.out hrd.out.1 hrl.out hrd.out.2.2.1 hrd.out.2.2.2 (HLd.out _ B2.out))
  clear b2 HO HL8
  go_wp2_with fail
  refine HRD.out.mono ?_
  rintro e w3 ⟨⟨o, cn, s, a3, c3, rfl, ht, hR, hlt⟩, b3⟩
  obtain ⟨rfl, rfl, rfl⟩ := hT.out _ _ _ ht
  rw [Int.toNat_natCast] at hR hlt ⊢
  rw [hol.out]
  rw [hol.out] at hlt
  have B3 := Lib.hid (B2.out.trans (b3.mono B2.out.size))
  have hraw : Hid (∀ w', Below w3.heap.size w3 w' → Rd w' ra (layK (padT l (64 * k)) k)) := Lib.hid fun w' hb' => Rd.below (Rd.below hrd.out.1 b3 hrl.out) hb' (fun x h0 e => Nat.lt_of_lt_of_le (hrl.out x h0 e) b3.size)
  have HL9 : Hid (Calls Tryd.prog 8 #[.slice a3 bb c3, .int .i64 (k : Int)] w3 fun e w' => ∃ a' c', e = .returned (.tuple #[.slice a' (73 * k) c', .int .i64 0]) ∧ Own w' (w3.heap.size + 1) (.slice a' (73 * k) c') (layK (padT ((padT l (64 * k)).take bb) (64 * k)) k) ∧ Below w3.heap.size w3 w') := Lib.hid (layW a3 ((padT l (64 * k)).take bb) bb c3 k w3 hol.out hR (fun x h0 e => hlt x (by rw [hol.out] at h0; exact h0) e) h1 h8 hb (HLd.out _ B3.out))
  have hcx : Hid (∀ i, i < bb → ∃ b off, a3 = some ⟨b, off, none⟩ ∧ w3.cell? ⟨b, off + i, none⟩ = some (.int .u8 (if i < n then l.getD i 0 else 0#8).toNat)) := Lib.hid fun i hi => by
    obtain ⟨b, off, e, hc⟩ := hR.2 i (by rw [hol.out]; exact hi)
    rw [hog.out i hi, HPg.out i, hn.out] at hc
    exact ⟨b, off, e, hc⟩
  clear b3 ht hR hlt HRD
  go_wp2_with fail
  go_loopw [12] (fun i wr => ∃ j : Nat, j ≤ bb ∧ i = .int .i64 (j : Int) ∧ wr = w3) (fun i _ => bb - (intOf i).toNat)
  case atStart => exact ⟨0, by omega, rfl, rfl⟩
  case round =>
    obtain ⟨j, hj, rfl, hwr⟩ := hrel
    obtain rfl := hwr.symm
    by_cases hlt : j < bb
    · have hlt' : (j : Int) < (bb : Int) := by omega
      obtain ⟨bx, ox, rfl, cx⟩ := hcx.out j hlt
      by_cases hjn : j < n
      · have hjn' : (j : Int) < (n : Int) := by omega
        obtain ⟨bd, od, rfl, hbd, cd⟩ := hrn.out j hjn
        replace cd := (B3.out.cell (p := ⟨bd, od + j, none⟩) hbd).trans cd
        rw [if_pos hjn] at cx
        generalize l.getD j 0 = y at *
        go_wp2
        go_roundw
        case rel => exact ⟨j + 1, by omega, by go_num, by trivial⟩
        case measure => simp [intOf]; omega
      · have hjn' : ¬ (j : Int) < (n : Int) := by omega
        rw [if_neg hjn] at cx
        have e0 : ((0#8).toNat : Int) = 0 := rfl
        rw [e0] at cx
        go_wp2
        go_roundw
        case rel => exact ⟨j + 1, by omega, by go_num, by trivial⟩
        case measure => simp [intOf]; omega
    · obtain rfl : j = bb := by omega
      go_wp2_with fail
      refine HL9.out.mono ?_
      rintro e w4 ⟨xa, xc, rfl, HX, b4⟩
      have B4 := Lib.hid (B3.out.trans (b4.mono B3.out.size))
      have hc1 := conv w4 ra (layK (padT l (64 * k)) k) (73 * k) rc hlen.out (hraw.out _ b4)
      by_cases hjn : j < n
      · have hjn' : (j : Int) < (n : Int) := by omega
        clear HX b4 hc1
        go_wp2
        go_ret
        exact ⟨rfl, B4.out⟩
      · have hjn' : ¬ (j : Int) < (n : Int) := by omega
        rw [hPa.out (by omega)] at HX
        have hc2 := conv w4 xa (layK (padT l (64 * k)) k) (73 * k) xc hlen.out (Own.rd HX).1
        generalize strB (layK (padT l (64 * k)) k) = S at *
        clear HX b4
        go_wp2
        go_ret
        exact ⟨rfl, B4.out⟩

theorem all (a : Option Addr) (n c : Nat) (zs : List Int) (k b : Int) (w : World) (h : IsRow .u8 w a n c zs) (hl : Laid w) :
    Calls Tryd.prog 6 #[.slice a n c, .int .i64 k, .int .i64 b] w fun e w' => e = .returned (.bool true) ∧ Below w.heap.size w w' := by
  obtain ⟨l, hn, hr, _, ha⟩ := h.bytes
  have hm : n ≤ 9223372036854775807 := by have := hr.1; unfold maxLen at this; omega
  by_cases he : k < 1 ∨ 8 < k ∨ 64 * k < n ∨ b < 0 ∨ 64 * k < b
  · exact PgE.early a n c k b w hl hm he
  · obtain ⟨kk, rfl⟩ := Int.eq_ofNat_of_zero_le (show 0 ≤ k by omega)
    obtain ⟨bb, rfl⟩ := Int.eq_ofNat_of_zero_le (show 0 ≤ b by omega)
    exact law a l n c kk bb w hn hr (fun x h0 e => ha x (by omega) e) (by omega) (by omega) (by omega) (by omega) hl
end Go.Proofs.YtjnpfnpeekpleaaDoor.PgE
