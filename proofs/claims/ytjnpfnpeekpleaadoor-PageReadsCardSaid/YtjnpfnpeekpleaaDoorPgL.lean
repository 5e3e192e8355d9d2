/- Contracts of the document's pages: laid. -/
import Derived.Test.YtjnpfnpeekpleaaDoorPgZ
import Derived.Test.YtjnpfnpeekpleaaDoorPgC
import Derived.Test.YtjnpfnpeekpleaaDoorEcZR
namespace Go.Proofs.YtjnpfnpeekpleaaDoor.PgL
open Go.ChangeShapes Go.WideShapes Go.ChangeAt Go.RowKit
open EcM EcA EcB EcC EcT EcX EcY EcZ EcZR EcWM EcWP EcWR EcFM PgM PgA PgB PgC PgZ
set_option linter.unusedVariables false
set_option maxHeartbeats 2000000

theorem layBadR (a : Option Addr) (n c : Nat) (k : Int) (w : World) (hm : n ≤ 9223372036854775807) (h : k < 1 ∨ 8 < k ∨ (1 ≤ k ∧ k ≤ 8 ∧ 64 * k < n)) :
    Calls Tryd.prog 9 #[.slice a n c, .int .i64 k] w fun e w' => e = .returned (.tuple #[.slice none 0 0, .int .i64 1]) ∧ w' = w := by
  rcases (show k < 1 ∨ (¬ k < 1 ∧ 8 < k) ∨ (¬ k < 1 ∧ ¬ 8 < k ∧ 64 * k < n) by omega) with h | ⟨h1, h2⟩ | ⟨h1, h2, h3⟩
  all_goals
    go_enter Tryd.func9, Tryd.ntmps9
    go_wp2
    go_ret2
    exact ⟨rfl, rfl⟩

theorem padRd {w : World} {g : Nat} {p : List B8} (h : Rd w (some ⟨g, 0, none⟩) p) (j : Nat) : Rd w (some ⟨g, 64 * j, none⟩) (ch p j) := by
  have := rd_sub h (64 * j) 64
  rwa [Nat.zero_add] at this
theorem lt_own {w : World} {base n c : Nat} {a : Option Addr} {xs : List B8} (h : Own w base (.slice a n c) xs) : ∀ y, 0 < xs.length → a = some y → y.block < w.heap.size := fun y h0 e => by
  have hn := (Own.rd h).2.1
  obtain ⟨g, hg, _, h3⟩ := own_at h (by omega)
  rw [hg] at e
  injection e with e
  subst e
  exact h3

set_option maxRecDepth 100000 in
theorem layR (a : Option Addr) (l : List B8) (n c k : Nat) (w : World) (hn : l.length = n) (hr : Rd w a l) (ha : ∀ x, 0 < l.length → a = some x → x.block < w.heap.size) (h1 : 1 ≤ k) (h8 : k ≤ 8) (hle : n ≤ 64 * k) :
    Calls Tryd.prog 9 #[.slice a n c, .int .i64 (k : Int)] w fun e w' => ∃ a' c', e = .returned (.tuple #[.slice a' (73 * k) c', .int .i64 0]) ∧ Own w' w.heap.size (.slice a' (73 * k) c') (layK (padT l (64 * k)) k) ∧ Below w.heap.size w w' := by
  have hP := Lib.hid (padT_len l (64 * k) (by omega))
  have hB0 := (Below.refl w.heap.size w).alloc (Nat.le_refl _) (.cells #[] 5)
  have HB0 : Hid (Below w.heap.size w (w.alloc (.cells #[] 5))) := Lib.hid hB0
  have HE : Hid (Own (w.alloc (.cells #[] 5)) w.heap.size (.slice (some ⟨w.heap.size, 0, none⟩) 0 0) []) := Lib.hid (Own.made w _ (Nat.le_refl _) #[] 0 [] rfl (by simp [maxLen]) rfl)
  have hrE : Hid (Rd (w.alloc (.cells #[] 5)) a l) := Lib.hid (Rd.below hr hB0 ha)
  have hpad : Hid (l ++ List.replicate (64 * k - n) 0#8 = padT l (64 * k)) := Lib.hid (by unfold padT; rw [hn]; rfl)
  have HLn := Lib.hid (fun j (hj : j ≤ k) => layK_len (padT l (64 * k)) k hP.out j hj)
  have HCn := Lib.hid (fun j (hj : j < k) => ch_len (padT l (64 * k)) j k hP.out hj)
  have HSn : Hid (∀ j, layK (padT l (64 * k)) j ++ ch (padT l (64 * k)) j ++ wordsTo (ch (padT l (64 * k)) j) 8 ++ [0] = layK (padT l (64 * k)) (j + 1)) := Lib.hid fun j => by
    show _ = layK (padT l (64 * k)) j ++ PgM.one (padT l (64 * k)) j
    unfold PgM.one
    simp only [List.append_assoc]
  have hL0 : Hid (layK (padT l (64 * k)) 0 = []) := Lib.hid rfl
  generalize padT l (64 * k) = PP at *
  have hk1 : ¬ (k : Int) < 1 := by omega
  have hk2 : ¬ (8 : Int) < (k : Int) := by omega
  have hk3 : ¬ 64 * (k : Int) < (n : Int) := by omega
  clear hr ha hB0
  replace hn := Lib.hid hn
  go_enter Tryd.func9, Tryd.ntmps9
  go_wp2_with (first
    | (at_builtin
       refine wpList_app rfl (.tmp 23) (.tmp 24) rfl w.heap.size (.slice (some ⟨w.heap.size, 0, none⟩) 0 0) [] rfl HE.out a l n c rfl hn.out hrE.out l n rfl hn.out (by omega) (by simp) ?_
       intro a1 c1 w1 hv1 hr1 hg1 hn1
       have hB1 := Lib.hid (HB0.out.grown hg1 (by simp) (fun q e => (HE.out.blocks q e).1))
       have hV1 := Lib.hid hv1
       clear hv1 hr1 hg1 hn1)
    | (at_builtin
       refine wpList_zeros rfl (.tmp 25) (.tmp 30) rfl w.heap.size (.slice a1 n c1) l rfl hV1.out (64 * k - n) (64 * (k : Int) - (n : Int)) (by omega) rfl PP (64 * k) hpad.out hP.out (by omega) hB1.out.size ?_
       intro a2 c2 w2 hv2 hg2
       have hB2 := Lib.hid (hB1.out.grown hg2 hB1.out.size (fun q e => (hV1.out.blocks q e).1))
       obtain ⟨g, rfl, hgb, hgs⟩ := own_at hv2 (by omega)
       have hc2 := Lib.hid (Own.rd hv2).2.2
       have hR2 := Lib.hid (Own.rd hv2).1
       replace hgs := Lib.hid hgs
       clear hv2 hg2 hgb))
  have HRP : Hid (∀ w', Below w2.heap.size w2 w' → Rd w' (some ⟨g, 0, none⟩) PP) := Lib.hid fun w' hb => Rd.below hR2.out hb (fun x _ e => by injection e with e; subst e; exact hgs.out)
  have hws := Lib.hid hB2.out.size
  have HB2 := Lib.hid (fun w' (hb : Below w2.heap.size w2 w') => hB2.out.trans (hb.mono hB2.out.size))
  have hN := Lib.hid (Own.nil w2 w2.heap.size)
  have hR0 := Lib.hid (Below.refl w2.heap.size w2)
  obtain ⟨bs, hbs⟩ : ∃ bs, bs = w2.heap.size := ⟨_, rfl⟩
  rw [← hbs] at HRP HB2 hN hR0 hws hgs
  replace hbs := Lib.hid hbs
  have hcc : 64 * k ≤ c2 := hc2.out.1
  have hcm : c2 ≤ 9223372036854775807 := by have := hc2.out.2; unfold maxLen at this; omega
  clear hR2 hc2 hB2 HB0 HE hrE hpad hV1
  go_loopw [8, 7] (fun i v wr => ∃ (j : Nat) (a' : Option Addr) (c' : Nat), j ≤ k ∧ i = .int .i64 (j : Int) ∧ v = .slice a' (73 * j) c' ∧ Own wr bs (.slice a' (73 * j) c') (layK PP j) ∧ Below bs w2 wr) (fun i _ _ => k - (intOf i).toNat)
  case atStart => exact ⟨0, _, _, by omega, rfl, rfl, by rw [hL0.out]; exact hN.out, hR0.out⟩
  case round =>
    clear hN hR0
    obtain ⟨j, a', c', hj, rfl, rfl, hO, hB⟩ := hrel
    by_cases hlt : j < k
    · have hlt' : (j : Int) < (k : Int) := by omega
      obtain ⟨p, hp⟩ : ∃ p, p = 64 * j := ⟨_, rfl⟩
      have i1 : 64 * (j : Int) = (p : Int) := by omega
      obtain ⟨r, hr64⟩ : ∃ r, r = p + 64 := ⟨_, rfl⟩
      have i2 : (p : Int) + 64 = (r : Int) := by omega
      have i3 : (0 : Int) ≤ (p : Int) := by omega
      have i4 : (p : Int) ≤ (r : Int) := by omega
      have i5 : (r : Int) ≤ (c2 : Int) := by omega
      have i6 : r - p = 64 := by omega
      have i7 : (p : Int) ≤ 448 := by omega
      replace hr64 := Lib.hid hr64
      have hcl := Lib.hid (HCn.out j hlt)
      have hll := Lib.hid (HLn.out j hj)
      have hll2 := Lib.hid (HLn.out (j + 1) hlt)
      have hsn := Lib.hid (HSn.out j)
      have hwl := Lib.hid (wordsTo_len (ch PP j) 8)
      have HRj : Hid (∀ w', Below bs w2 w' → Rd w' (some ⟨g, p, none⟩) (ch PP j)) := Lib.hid (fun w' h => by rw [hp]; exact padRd (HRP.out w' h) j)
      replace hp := Lib.hid hp
      have W8 : Hid (∀ w', Below bs w2 w' → Calls Tryd.prog 19 #[.slice (some ⟨g, p, none⟩) 64 (c2 - p)] w' fun e w'' => ∃ a' c', e = .returned (.slice a' 8 c') ∧ Own w'' w'.heap.size (.slice a' 8 c') (wordsTo (ch PP j) 8) ∧ Below w'.heap.size w' w'') := Lib.hid fun w' hb =>
        wordsR (some ⟨g, p, none⟩) (ch PP j) 64 (c2 - p) w' hcl.out (HRj.out w' hb) (fun x _ e => by injection e with e; subst e; have := hb.size; have := hgs.out; have := hbs.out; show g < _; omega) (by omega)
      generalize ch PP j = C at *
      generalize wordsTo C 8 = WC at *
      generalize layK PP j = X at *
      obtain ⟨Y, hY⟩ : ∃ Y, Y = layK PP (j + 1) := ⟨_, rfl⟩
      rw [← hY] at hll2 hsn
      replace hY := Lib.hid hY
      replace hO := Lib.hid hO
      have hbz : Hid (bs ≤ wr.heap.size) := Lib.hid (by have := hB.size; have := hbs.out; omega)
      replace hB := Lib.hid hB
      go_wp2_with (first
        | (at_builtin
           refine wpList_app rfl (.tmp 44) (.tmp 45) rfl bs (.slice a' (73 * j) c') X rfl hO.out (some ⟨g, p, none⟩) C 64 (c2 - p) rfl hcl.out (HRj.out _ hB.out) (X ++ C) (73 * j + 64) rfl (by rw [List.length_append, hll.out, hcl.out]) (by omega) hbz.out ?_
           intro a1 c1 w1 hv1 hr1 hg1 hn1
           have hB1 := Lib.hid (hB.out.grown hg1 hbz.out (fun q e => (hO.out.blocks q e).1))
           have hbz1 : Hid (bs ≤ w1.heap.size) := Lib.hid (Nat.le_trans hbz.out hg1.size)
           have hV1 := Lib.hid hv1
           clear hv1 hr1 hg1 hn1)
        | (go_at_call 19
           refine (W8.out w1 hB1.out).mono ?_
           rintro e w3 ⟨a2, c3, rfl, ho2, hb2⟩
           have hV2 := Lib.hid (Own.below hV1.out hb2)
           have hB2 := Lib.hid (hB1.out.trans (hb2.mono hbz1.out))
           have hbz2 : Hid (bs ≤ w3.heap.size) := Lib.hid (Nat.le_trans hbz1.out hb2.size)
           have ho2' := Lib.hid (Own.rd ho2).1
           clear ho2 hb2)
        | (at_builtin
           refine wpList_app rfl (.tmp 47) (.tmp 49) rfl bs (.slice a1 (73 * j + 64) c1) (X ++ C) rfl hV2.out a2 WC 8 c3 rfl hwl.out ho2'.out (X ++ C ++ WC) (73 * j + 72) rfl (by rw [List.length_append, List.length_append, hll.out, hcl.out, hwl.out]) (by omega) hbz2.out ?_
           intro a3 c4 w4 hv3 hr3 hg3 hn3
           have hB3 := Lib.hid (hB2.out.grown hg3 hbz2.out (fun q e => (hV2.out.blocks q e).1))
           have hbz3 : Hid (bs ≤ w4.heap.size) := Lib.hid (Nat.le_trans hbz2.out hg3.size)
           have hV3 := Lib.hid hv3
           clear hv3 hr3 hg3 hn3)
        | (at_builtin
           refine wpList_app rfl (.tmp 51) (.tmp 52) rfl bs (.slice a3 (73 * j + 72) c4) (X ++ C ++ WC) rfl (hV3.out.alloc _) _ [0] 1 _ rfl rfl (EcT.one _ 0 _ _ (by simp) rfl) Y (73 * (j + 1)) hsn.out hll2.out (by omega) (by have := hbz3.out; simp; omega) ?_
           intro a4 c5 w5 hv4 hr4 hg4 hn4
           have hB4 := Lib.hid ((hB3.out.alloc hbz3.out (.cells #[.int .u8 0] 5)).grown hg4 (by have := hbz3.out; simp; omega) (fun q e => (hV3.out.blocks q e).1))
           have hV4 := Lib.hid hv4
           clear hv4 hr4 hg4 hn4))
      go_roundw
      case rel => exact ⟨j + 1, a4, c5, by omega, by go_num, rfl, by rw [← hY.out]; exact hV4.out, hB4.out⟩
      case measure => simp [intOf]; omega
    · obtain rfl : j = k := by omega
      have hOb : Hid (Own wr w.heap.size (.slice a' (73 * j) c') (layK PP j)) := Lib.hid (Own.base hO hws.out)
      have hBb := Lib.hid (HB2.out _ hB)
      clear hO hB
      go_wp2
      go_ret2
      exact ⟨a', c', rfl, hOb.out, hBb.out⟩
end Go.Proofs.YtjnpfnpeekpleaaDoor.PgL
