/- The walk of the law on frames behind bytes that begin none. -/
import Derived.Test.YtafcjcpflkelcaaFrF
import Derived.Test.YtafcjcpflkelcaaFrG
import Derived.Test.YtafcjcpflkelcaaFrBurstW
namespace Go.Proofs.Ytafcjcpflkelcaa.FrFindW
open Go.ChangeShapes Go.WideShapes Go.ChangeAt Go.RowKit
open CrcM CrcB CrcL CrcQ FrA FrB FrT FrG FrD FrF FrBurstW
set_option linter.unusedVariables false
set_option maxHeartbeats 1000000

theorem early (a : Option Addr) (n c : Nat) (z : Int) (x : B32) (b : Option Addr) (m d : Nat) (w : World) (h : 1000 < n ∨ 1000 < m ∨ z < 0 ∨ 63 < z) :
    Calls Try.prog 13 #[.slice a n c, .agg #[.int .i64 z, .int .u32 x.toNat], .slice b m d] w fun e w' => e = .returned (.bool true) ∧ Below w.heap.size w w' := by
  have HK : Hid (∀ w', Below (w.heap.size + 1) (w.alloc (.cells #[.int .i64 z, .int .u32 x.toNat] 69)) w' → Below w.heap.size w w') := Lib.hid fun w' hb => ((Below.refl _ w).alloc (Nat.le_refl _) _).trans (hb.mono (by omega))
  have hc : ∀ w', Below (w.heap.size + 1) (w.alloc (.cells #[.int .i64 z, .int .u32 x.toNat] 69)) w' → _ := fun w' hb => argCells z x hb
  have HC := Lib.hid hc
  clear hc
  have go : ∀ (d1 d2 d3 d4 : Bool), decide ((1000 : Int) < (n : Int)) = d1 → decide ((1000 : Int) < (m : Int)) = d2 → decide (z < 0) = d3 → decide (63 < z) = d4 → (d1 || d2 || d3 || d4) = true →
      Calls Try.prog 13 #[.slice a n c, .agg #[.int .i64 z, .int .u32 x.toNat], .slice b m d] w fun e w' => e = .returned (.bool true) ∧ Below w.heap.size w w' := by
    intro d1 d2 d3 d4 h1 h2 h3 h4 hh
    cases d1 <;> cases d2 <;> cases d3 <;> cases d4 <;> first | (exact absurd hh (by decide)) | (
      clear hh
      go_enter Try.func13, Try.ntmps13
      go_wp2_with fail
      refine Calls.mono (known _) ?_
      rintro e w' ⟨rfl, hb⟩
      simp only [World.size_alloc] at hb
      obtain ⟨c0, c1⟩ := HC.out _ hb
      have hbb := HK.out _ hb
      clear hb
      go_wp2
      go_ret
      exact ⟨rfl, hbb⟩)
  refine go _ _ _ _ rfl rfl rfl rfl ?_
  simp only [Bool.or_eq_true, decide_eq_true_eq]
  omega

theorem Own.drew {w : World} {base : Nat} {v : Value} {xs : List B8} (h : Own w base v xs) : Own w.drew base v xs := h
theorem step_app {ops : Array Oper} {o : Oper} {a : Act} {w : World} {K : Act → World → Prop} {Q : Exit → Act → World → Prop} {E : Prop} (hgd : o.guard = none) (s x : Operand)
    (ho : o.op = .call { callee := .builtin .append, args := #[s, x], argTypes := #[24, 24] })
    (base : Nat) (v : Value) (xs : List B8) (hs : a.eval s = v) (h : Own w base v xs) (A : Option Addr) (l : List B8) (m c : Nat) (hx : a.eval x = .slice A m c) (hm : l.length = m) (hr : Rd w A l)
    (ys : List B8) (N : Nat) (hy : xs ++ l = ys) (hN : ys.length = N) (hroom : N ≤ 1000000) (hbase : base ≤ w.heap.size)
    (hK : ∀ a' c' w', Own w' base (.slice a' N c') ys → Rd w' a' ys → w.grownBy w' v.ownBlock → (∀ x, a' = some x → base ≤ x.block ∧ x.block < w'.heap.size) → K (a.put o.dst (.slice a' N c')) w') :
    if Region.wanted o (yielded ops a.tmps) = true then Oper.wp Try.prog o a w K Q else E := by
  have hw : Region.wanted o (yielded ops a.tmps) = true := by simp [Region.wanted, hgd]
  rw [if_pos hw]
  exact wp_app s x ho base v xs hs h A l m c hx hm hr ys N hy hN hroom hbase hK

theorem Rd.mid {w : World} {g : Nat} {s X r : List B8} {t : Nat} (ht : s.length = t) (h : Rd w (some ⟨g, 0, none⟩) (s ++ X ++ r)) : Rd w (some ⟨g, t, none⟩) X :=
  ⟨by have := h.1; simp at this; omega, fun i hi => by
    have hc := Rd.at h (t + i) (by simp; omega)
    refine ⟨g, t, rfl, ?_⟩
    rw [Nat.zero_add] at hc
    rw [hc]
    congr 3
    rw [List.append_assoc, List.getD_eq_getElem?_getD, List.getD_eq_getElem?_getD, List.getElem?_append_right (by omega), List.getElem?_append_left (by omega), show t + i - s.length = i by omega]⟩
theorem findAt (a : Option Addr) (l : List B8) (n c t : Nat) (w : World) (hn : l.length = n) (hr : Rd w a l) (hf : fnd l = t) :
    Calls Try.prog 47 #[.slice a n c] w fun e w' => e = .returned (.int .i64 t) ∧ w = w' := by
  subst hf; exact find a l n c w hn hr

theorem no2 (x : B8) : ((x.toNat : Int) / 64 != 1) = !Beg x := by rw [bne, begs]

set_option maxRecDepth 100000 in
theorem late (a : Option Addr) (l : List B8) (n c : Nat) (i : B8) (hi : i.toNat ≤ 63) (x : B32) (b : Option Addr) (r : List B8) (m d : Nat) (w : World) (hn : l.length = n) (hm : r.length = m) (h1 : n ≤ 1000) (h2 : m ≤ 1000)
    (hl : Rd w a l) (hr : Rd w b r) (ha : ∀ y, 0 < l.length → a = some y → y.block < w.heap.size) (hb : ∀ y, 0 < r.length → b = some y → y.block < w.heap.size) :
    Calls Try.prog 13 #[.slice a n c, .agg #[.int .i64 i.toNat, .int .u32 x.toNat], .slice b m d] w fun e w' => e = .returned (.bool true) ∧ Below w.heap.size w w' := by
  have HK : Hid (∀ w', Below (w.heap.size + 1) (w.alloc (.cells #[.int .i64 i.toNat, .int .u32 x.toNat] 69)) w' → Below w.heap.size w w') := Lib.hid fun w' hb => ((Below.refl _ w).alloc (Nat.le_refl _) _).trans (hb.mono (by omega))
  have hc : ∀ w', Below (w.heap.size + 1) (w.alloc (.cells #[.int .i64 i.toNat, .int .u32 x.toNat] 69)) w' → _ := fun w' hb => argCells i.toNat x hb
  have HC := Lib.hid hc
  have HL : Hid (∀ w', Below w.heap.size w w' → Rd w' a l) := Lib.hid fun w' hb' => Rd.below hl hb' ha
  have HR : Hid (∀ w', Below w.heap.size w w' → Rd w' b r) := Lib.hid fun w' hb' => Rd.below hr hb' hb
  have HN := Lib.hid hn
  have HM := Lib.hid hm
  clear hc hl hr ha hb hn hm
  have hx := x.isLt
  have d1 : decide ((1000 : Int) < (n : Int)) = false := by simp; omega
  have d2 : decide ((1000 : Int) < (m : Int)) = false := by simp; omega
  go_enter Try.func13, Try.ntmps13
  go_wp2_with fail
  refine Calls.mono (known _) ?_
  rintro e w2 ⟨rfl, hb⟩
  simp only [World.size_alloc] at hb
  obtain ⟨c0, c1⟩ := HC.out _ hb
  have hs2 := hb.size
  rw [World.size_alloc] at hs2
  go_wp2_with fail
  go_loopw [7, 8] (fun v j wr => ∃ (k t : Nat) (a' : Option Addr) (c' : Nat), k ≤ n ∧ j = .int .i64 k ∧ v = .slice a' t c' ∧ (rest (l.take k)).length = t ∧ Own wr (w.heap.size + 1) (.slice a' t c') (rest (l.take k)) ∧ Below (w.heap.size + 1) (w.alloc (.cells #[.int .i64 i.toNat, .int .u32 x.toNat] 69)) wr ∧ w.heap.size + 1 ≤ wr.heap.size) (fun _ j _ => n - (intOf j).toNat)
  case atStart => exact ⟨0, 0, none, 0, Nat.zero_le _, rfl, rfl, rfl, Own.nil _ _, hb, hs2⟩
  case round =>
    obtain ⟨k, t, a', c', hk, rfl, rfl, ht, hown, hbw, hsz⟩ := hrel
    clear hb hs2 c0 c1
    by_cases hlt : k < n
    · have hkl : k < l.length := by rw [HN.out]; omega
      obtain ⟨b1, o1, rfl, hcell⟩ := (HL.out wr (HK.out _ hbw)).2 k hkl
      obtain ⟨y, hy⟩ : ∃ y, y = l.getD k 0 := ⟨_, rfl⟩
      rw [← hy] at hcell
      have hn2 := no2 y
      have HS := Lib.hid (rest_snoc l k hkl)
      have HY := Lib.hid hy
      have HO := Lib.hid hown
      have HB := Lib.hid hbw
      have HT := Lib.hid ht
      have htn : t ≤ 1000 := by
        have := rest_len (l.take k)
        simp at this; omega
      clear hy hown hbw ht hkl
      cases hB : Beg y with
      | true =>
        rw [hB] at hn2
        go_wp2
        go_roundw
        case rel => exact ⟨k + 1, t, a', c', by omega, by go_num, rfl, by rw [HS.out, ← HY.out, hB, if_pos rfl, List.append_nil]; exact HT.out, by rw [HS.out, ← HY.out, hB, if_pos rfl, List.append_nil]; exact HO.out, HB.out, hsz⟩
        case measure => simp [intOf]; omega
      | false =>
        rw [hB] at hn2
        go_wp2_with (first
          | (at_builtin
             refine wpList_app rfl (.tmp 47) (.tmp 52) rfl (w.heap.size + 1) (.slice a' t c') (rest (l.take k)) rfl (HO.out.alloc _) _ [y] 1 _ rfl rfl (FrA.one _ y _ _ (by simp) rfl) (rest (l.take k) ++ [y]) (t + 1) rfl (by simp [HT.out]) (by omega) (by simp; omega) ?_
             intro a3 c3 w3 hv3 hr3 hg3 hn3
             have HB3 := Lib.hid ((HB.out.alloc hsz _).grown hg3 (by simp; omega) (HO.out.blocks · · |>.1))
             have HV3 := Lib.hid hv3
             have hsz3 : w.heap.size + 1 ≤ w3.heap.size := by
               have := hg3.size
               simp at this; omega
             clear hv3 hr3 hg3 hn3))
        go_roundw
        case rel => exact ⟨k + 1, t + 1, a3, c3, by omega, by go_num, by go_num, by rw [HS.out, ← HY.out, hB]; simp [HT.out], by rw [HS.out, ← HY.out, hB]; exact HV3.out, HB3.out, hsz3⟩
        case measure => simp [intOf]; omega
    · obtain rfl : k = n := by omega
      obtain ⟨c0, c1⟩ := HC.out _ hbw
      rw [List.take_of_length_le (by rw [HN.out]; exact Nat.le_refl _)] at ht hown
      obtain ⟨s, hs⟩ : ∃ s, s = rest l := ⟨_, rfl⟩
      have hno : ∀ y ∈ s, Beg y = false := by rw [hs]; exact rest_no l
      have htn : t ≤ 1000 := by
        have := rest_len l
        have := HN.out
        omega
      rw [← hs] at ht hown
      have HS := Lib.hid hno
      have HT := Lib.hid ht
      have HO := Lib.hid hown
      have HB := Lib.hid hbw
      clear hno hs ht hown hbw
      go_wp2_with fail
      refine Calls.mono (encode i hi x _) ?_
      rintro e w3 ⟨b0, b1, b2, b3, b4, b5, hf, rfl, hb3⟩
      have hsz3 := hb3.size
      have HG := Lib.hid (frm_good 1 i x (by decide) hi b0 b1 b2 b3 b4 b5 hf)
      have HB3 := Lib.hid (HB.out.trans (hb3.mono hsz))
      obtain ⟨W4, hW4⟩ : ∃ W4, W4 = w3.alloc (.cells #[.int .u8 b0.toNat, .int .u8 b1.toNat, .int .u8 b2.toNat, .int .u8 b3.toNat, .int .u8 b4.toNat, .int .u8 b5.toNat] 70) := ⟨_, rfl⟩
      have hb4 : Below (wr.heap.size) wr W4 := by rw [hW4]; exact hb3.alloc hsz3 _
      have hs4 : W4.heap.size = w3.heap.size + 1 := by rw [hW4]; simp
      have HA : Hid (∀ w', Below W4.heap.size W4 w' → Rd w' a' s) := Lib.hid fun w' hb' => Rd.below (Own.rd HO.out).1 (hb4.trans (hb'.mono (by omega))) (fun y _ hy => by
        obtain ⟨a2, c2, e, _, _, hk, _⟩ := HO.out.shape
        injection e with e
        exact (hk y (by rw [← e]; exact hy)).2)
      have HX : Hid (∀ w', Below W4.heap.size W4 w' → Row w' w3.heap.size [b0, b1, b2, b3, b4, b5]) := Lib.hid fun w' hb' => (hb'.block _ (by omega)).trans (by rw [hW4]; exact heap_alloc_new _ _)
      have HBe : Hid (∀ w', Below W4.heap.size W4 w' → Below (w.heap.size + 1) (w.alloc (.cells #[.int .i64 i.toNat, .int .u32 x.toNat] 69)) w') := Lib.hid fun w' hb' => HB.out.trans ((hb4.mono hsz).trans (hb'.mono (by omega)))
      have HW4 := Lib.hid hW4
      clear c0 c1 hf hb3 hb4 hW4
      unfold six
      have hbA : Below W4.heap.size W4 (W4.alloc (.cells #[] 5)).drew := ((Below.refl _ W4).alloc (Nat.le_refl _) _).drew
      have HO1 := Lib.hid (Own.drew (Own.made W4 W4.heap.size (Nat.le_refl _) #[] 0 [] rfl (Nat.zero_le _) rfl))
      go_wp2_with fail
      rw [← HW4.out]
      go_region_held3 (fun w' => True) (exact trivial)
        ((first
          | (refine step_app rfl (.tmp 61) (.tmp 62) rfl W4.heap.size (.slice (some ⟨W4.heap.size, 0, none⟩) 0 0) [] (by first | rfl | (simp [go_sem]; done)) HO1.out a' s t c' (by first | rfl | (simp [go_sem]; done)) HT.out (HA.out _ hbA) s t rfl HT.out (by omega) hbA.size ?_
             intro a5 c5 w5 hv5 hr5 hg5 hn5
             have hb5 := hbA.grown hg5 hbA.size (HO1.out.blocks · · |>.1)
             have HV5 := Lib.hid hv5
             clear hv5 hr5 hg5 hn5)
          | (refine step_app rfl (.tmp 63) (.tmp 64) rfl W4.heap.size (.slice a5 t c5) s (by first | rfl | (simp [go_sem]; done)) HV5.out (some ⟨w3.heap.size, 0, none⟩) [b0, b1, b2, b3, b4, b5] 6 6 (by first | rfl | (simp [go_sem]; done)) rfl ((HX.out _ hb5).rd (by simp [maxLen])) (s ++ [b0, b1, b2, b3, b4, b5]) (t + 6) rfl (by simp [HT.out]) (by omega) hb5.size ?_
             intro a6 c6 w6 hv6 hr6 hg6 hn6
             have hb6 := hb5.grown hg6 hb5.size (HV5.out.blocks · · |>.1)
             have HV6 := Lib.hid hv6
             clear hv6 hr6 hg6 hn6)
          | (refine step_app rfl (.tmp 65) (.tmp 66) rfl W4.heap.size (.slice a6 (t + 6) c6) (s ++ [b0, b1, b2, b3, b4, b5]) (by first | rfl | (simp [go_sem]; done)) HV6.out b r m d (by first | rfl | (simp [go_sem]; done)) HM.out (HR.out _ (HK.out _ (HBe.out _ hb6))) (s ++ [b0, b1, b2, b3, b4, b5] ++ r) (t + 6 + m) rfl (by simp [HT.out, HM.out]; omega) (by omega) hb6.size ?_
             intro a7 c7 w7 hv7 hr7 hg7 hn7
             have hb7 := hb6.grown hg7 hb6.size (HV6.out.blocks · · |>.1)
             have HV7 := Lib.hid hv7
             clear hv7 hr7 hg7 hn7)))
      have hg0 : Beg b0 = true := by unfold Beg; rw [HG.out.1]; decide
      have HF7 := Lib.hid (findAt a7 (s ++ [b0, b1, b2, b3, b4, b5] ++ r) (t + 6 + m) c7 t w7 (by simp [HT.out, HM.out]; omega) (Own.rd HV7.out).1 (by
        rw [List.append_assoc, List.cons_append, fnd_app s _ b0 HS.out hg0, HT.out]))
      have HF8 := Lib.hid (findAt a' s t c' t w7 HT.out (HA.out _ hb7) (by rw [fnd_all s HS.out, HT.out]))
      have hlen7 := (Own.rd HV7.out).2.1
      have hcap := (Own.rd HV7.out).2.2.1
      obtain ⟨g, o, e7, _⟩ := (Own.rd HV7.out).1.2 0 (by rw [hlen7]; omega)
      subst e7
      have ho : o = 0 := by
        obtain ⟨a2, c2, e, _, _, _, hz, _⟩ := HV7.out.shape
        injection e with e1
        have := hz _ (e1.symm.trans rfl)
        injection this
      subst ho
      have hg7 : g < w7.heap.size := by
        obtain ⟨a2, c2, e, _, _, hk, _⟩ := HV7.out.shape
        injection e with e1
        exact (hk _ (e1.symm.trans rfl)).2
      have HD := Lib.hid (FrD.decode g t (c7 - t) b0 b1 b2 b3 b4 b5 w7 (by omega) hg7 (Rd.mid HT.out (Own.rd HV7.out).1))
      have q1 : (t : Int) + 6 ≤ (c7 : Int) := by omega
      have q2 : ¬ c7 = t := by omega
      have q3 : (0 : Int) ≤ (t : Int) := Int.natCast_nonneg _
      have HB7 := Lib.hid hb7
      clear hlen7 hcap hg7 hg0 hb5 hb6 hb7 hbA
      go_wp2_with fail
      refine Calls.mono HF7.out ?_
      rintro e w' ⟨rfl, rfl⟩
      go_wp2_with fail
      refine Calls.mono HF8.out ?_
      rintro e w' ⟨rfl, rfl⟩
      go_wp2_with fail
      refine Calls.mono HD.out ?_
      rintro e w8 ⟨hb8, V, N, K, rfl, hV, hN, hh⟩
      rcases hh with ⟨_, rfl, hv, hnn⟩ | ⟨hg, _⟩
      · have V' : V = i.toNat := by rw [hv]; exact HG.out.2.2.2.1
        have N' : N = x.toNat := by rw [hnn]; exact HG.out.2.2.2.2
        subst V' N'
        clear hv hnn
        have hbe := HBe.out _ (HB7.out.trans (hb8.mono HB7.out.size))
        have hbf := hbe.alloc (by have := hb8.size; have := HB7.out.size; omega) (.cells #[.int .i64 i.toNat, .int .u32 x.toNat] 69)
        obtain ⟨c0, c1⟩ := HC.out _ hbf
        have HE := Lib.hid (HK.out _ hbf)
        clear hbe hbf hb8
        go_wp2
        go_ret
        exact ⟨rfl, HE.out⟩
      · exact absurd ⟨HG.out.1, HG.out.2.1, HG.out.2.2.1⟩ hg
end Go.Proofs.Ytafcjcpflkelcaa.FrFindW
