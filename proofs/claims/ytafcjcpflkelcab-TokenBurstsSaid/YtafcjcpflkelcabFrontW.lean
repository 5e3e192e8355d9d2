/- The walk of the law on fronts of laid blocks. -/
import Derived.Test.YtafcjcpflkelcabTokB
namespace Go.Proofs.Ytafcjcpflkelcab.FrontW
open Go.ChangeShapes Go.WideShapes Go.ChangeAt Go.RowKit
open CrcM CrcB CrcL CrcQ TokA TokB
set_option linter.unusedVariables false
set_option maxHeartbeats 1000000

theorem early (a b : Option Addr) (n c m d : Nat) (z f : Int) (w : World) (hn : n ≤ maxLen) (hm : m ≤ maxLen) (h : 4096 < n ∨ 4096 < m) :
    Calls Try.prog 5 #[.slice a n c, .int .i64 z, .slice b m d, .int .u8 f] w fun e w' => e = .returned (.bool true) ∧ Below w.heap.size w w' := by
  unfold maxLen at hn hm
  by_cases h1 : 4096 < n
  · have d1 : decide ((4096 : Int) < (n : Int)) = true := by simp; omega
    go_enter Try.func5, Try.ntmps5
    go_wp2_with (go_at_call 6; refine (known_any _).mono ?_; rintro e w' ⟨rfl, hb⟩)
    go_ret
    exact ⟨rfl, hb⟩
  · have d1 : decide ((4096 : Int) < (n : Int)) = false := by simp; omega
    have d2 : decide ((4096 : Int) < (m : Int)) = true := by simp; omega
    go_enter Try.func5, Try.ntmps5
    go_wp2_with (go_at_call 6; refine (known_any _).mono ?_; rintro e w' ⟨rfl, hb⟩)
    go_ret
    exact ⟨rfl, hb⟩

theorem Own.keep {w w' : World} {base : Nat} {v : Value} {xs : List B8} (h : Own w base v xs) (hk : ∀ k, v.ownBlock = some k → w'.heap[k]? = w.heap[k]?) : Own w' base v xs := by
  obtain ⟨h1, h2⟩ := h
  refine ⟨h1, ?_⟩
  rcases h2 with h2 | ⟨g, cap, cur, rfl, hg, hh, r⟩
  · exact .inl h2
  · exact .inr ⟨g, cap, cur, rfl, hg, (hk g rfl).trans hh, r⟩
theorem neqS (x : List B8) : ((strB x).toList != (strB x).toList) = false := by simp

set_option maxRecDepth 100000 in
theorem lateP (a b : Option Addr) (l r : List B8) (n c m d : Nat) (z : Int) (f : B8) (w : World) (hn : l.length = n) (hm : r.length = m) (hl : Rd w a l) (hr : Rd w b r)
    (ha : ∀ x, 0 < l.length → a = some x → x.block < w.heap.size) (hb : ∀ x, 0 < r.length → b = some x → x.block < w.heap.size) (h1 : n ≤ 4096) (h2 : m ≤ 4096) (q : Nat) (hq : q < n + 3) (hw : z.tmod ((n : Int) + 3) = (q : Int)) :
    Calls Try.prog 5 #[.slice a n c, .int .i64 z, .slice b m d, .int .u8 f.toNat] w fun e w' => e = .returned (.bool true) ∧ Below w.heap.size w w' := by
  have d1 : decide ((4096 : Int) < (n : Int)) = false := by simp; omega
  have d2 : decide ((4096 : Int) < (m : Int)) = false := by simp; omega
  have HL : Hid (∀ w', Below w.heap.size w w' → Rd w' a l) := Lib.hid fun w' hb' => Rd.below hl hb' ha
  have HR : Hid (∀ w', Below w.heap.size w w' → Rd w' b r) := Lib.hid fun w' hb' => Rd.below hr hb' hb
  have HA : Hid (∀ x, 0 < l.length → a = some x → x.block < w.heap.size) := Lib.hid ha
  have HN := Lib.hid hn
  have HM := Lib.hid hm
  clear hn hm hl hr ha hb
  go_enter Try.func5, Try.ntmps5
  go_wp2_with fail
  refine Calls.mono (known_any _) ?_
  rintro e w1 ⟨rfl, hb1⟩
  go_wp2_with fail
  refine Calls.mono (lay a l n c _ HN.out (HL.out _ hb1) (fun x h0 hx => Nat.lt_of_lt_of_le (HA.out x h0 hx) hb1.size) (by omega)) ?_
  rintro e w2 ⟨a2, c2, rfl, hv2, hb2'⟩
  have hb2 := hb1.trans (hb2'.mono hb1.size)
  have hrd2 := hv2.rd
  have hlen2 : (laid l).length = n + 3 := hrd2.2.1
  obtain ⟨g, o, e2, hcell⟩ := hrd2.1.2 0 (by omega)
  subst e2
  have ho : o = 0 := by
    obtain ⟨a', c', e, _, _, _, hz, _⟩ := hv2.shape
    injection e with e1
    have := hz _ (e1.symm.trans rfl)
    injection this
  subst ho
  have hgl : w1.heap.size ≤ g ∧ g < w2.heap.size := by
    obtain ⟨a', c', e, _, _, hk, _⟩ := hv2.shape
    injection e with e1
    exact hk _ e1.symm
  have hcl : n + 3 ≤ c2 := hrd2.2.2.1
  have HV2 := Lib.hid hv2
  have HRD2 := Lib.hid hrd2.1
  have HLEN2 := Lib.hid hlen2
  have HG : Hid (w1.heap.size ≤ g ∧ g < w2.heap.size) := Lib.hid hgl
  have HC0 : Hid (w2.cell? ⟨g, 0, none⟩ = some (.int .u8 254)) := Lib.hid (by simpa [laid] using hcell)
  have q0 : (q : Int) ≤ (c2 : Int) := by omega
  clear hv2 hb2' hrd2 hlen2 hcell hgl
  go_wp2_with fail
  refine Calls.mono (readFront (some ⟨g, 0, none⟩) l q c2 n _ HN.out (Rd.take HRD2.out q) hq h1) ?_
  rintro e w' ⟨rfl, rfl⟩
  unfold none3
  have hb3 := (Below.refl w2.heap.size w2).alloc (Nat.le_refl _) (.cells #[] 5)
  have HO := Lib.hid (Own.made w2 w2.heap.size (Nat.le_refl _) #[] 0 [] rfl (Nat.zero_le _) rfl)
  have HK : Hid (∀ w', Below w2.heap.size w2 w' → Rd w' (some ⟨g, 0, none⟩) (laid l)) := Lib.hid fun w' hb' => Rd.below HRD2.out hb' (fun x _ hx => by injection hx with hx; subst hx; exact HG.out.2)
  go_wp2_with (first
    | (at_builtin
       refine wpList_app rfl (.tmp 58) (.tmp 59) rfl w2.heap.size (.slice (some ⟨w2.heap.size, 0, none⟩) 0 0) [] rfl HO.out (some ⟨g, 0, none⟩) (laid l) (n + 3) c2 rfl HLEN2.out (HK.out _ hb3) (laid l) (n + 3) rfl HLEN2.out (by omega) hb3.size ?_
       intro a3 c3 w3 hv3 hr3 hg3 hn3
       clear hr3 hn3
       have hb4 := hb3.grown hg3 hb3.size (HO.out.blocks · · |>.1)
       have HV3 := Lib.hid hv3
       clear hv3 hg3)
    | (at_builtin
       refine wpList_app rfl (.tmp 60) (.tmp 61) rfl w2.heap.size (.slice a3 (n + 3) c3) (laid l) rfl HV3.out b r m d rfl HM.out (HR.out _ (hb2.trans (hb4.mono hb2.size))) (laid l ++ r) (n + 3 + m) rfl (by rw [List.length_append, HLEN2.out, HM.out]) (by omega) hb4.size ?_
       intro a4 c4 w4 hv4 hr4 hg4 hn4
       have hb5 := hb4.grown hg4 hb4.size (HV3.out.blocks · · |>.1)
       have HR4 := Lib.hid hr4
       have HN4 : Hid (∀ x, 0 < (laid l ++ r).length → a4 = some x → x.block < w4.heap.size) := Lib.hid fun x _ hx => (hn4 x hx).2
       have hc4 : n + 3 + m ≤ c4 := hv4.rd.2.2.1
       clear hv4 hg4 hr4 hn4))
  refine Calls.mono (readLaid a4 l r n (n + 3 + m) c4 n _ HN.out (by rw [List.length_append, HLEN2.out, HM.out]) HR4.out HN4.out h1 hc4) ?_
  rintro e w5 ⟨a5, c5, rfl, hr5, hb5'⟩
  have hb6 := hb5.trans (hb5'.mono hb5.size)
  have hbw := hb2.trans (hb6.mono hb2.size)
  have k1 := conv w5 a5 l n c5 HN.out hr5
  have k2 := conv w5 a l n c HN.out (HL.out _ hbw)
  have k3 := neqS l
  have hv6 : Own w5 w1.heap.size (.slice (some ⟨g, 0, none⟩) (n + 3) c2) (laid l) := Own.keep HV2.out fun k hk => by
    have e : g = k := by simpa [Value.ownBlock] using hk
    subst e
    exact hb6.block g HG.out.2
  have hcell : w5.cell? ⟨g, 0, none⟩ = some (.int .u8 254) := (hb6.cell (p := ⟨g, 0, none⟩) HG.out.2).trans HC0.out
  have hfree := hv6.free 0
  obtain ⟨w6, hw6⟩ : ∃ w6, w6 = w5.setCell ⟨g, 0, none⟩ (.int .u8 f.toNat) := ⟨_, rfl⟩
  have hv7 := hv6.put 0 (by rw [HLEN2.out]; omega) f
  rw [← hw6] at hv7
  have hb7 : Below w.heap.size w w6 := by rw [hw6]; exact hbw.setCell (Nat.le_trans hb1.size HG.out.1) _
  have hsz6 : w6.heap.size = w5.heap.size := by rw [hw6]; simp
  have HF := Lib.hid (readFirst (some ⟨g, 0, none⟩) l f c2 n w6 HN.out hv7.rd.1 (fun x _ hx => by
    injection hx with hx; subst hx
    have := hb6.size
    have := HG.out.2
    show g < w6.heap.size
    omega) h1 hcl)
  have HW6 := Lib.hid hw6
  clear hr5 hb5 hb5' hc4 hv6 hv7 hw6 hsz6 hb6
  go_wp2_with fail
  rw [← HW6.out]
  refine Calls.mono HF.out ?_
  rintro e w7 ⟨s, mm, gg, rfl, hg, hb8⟩
  have hb9 := hb7.trans (hb8.mono hb7.size)
  rcases hg with ⟨rfl, hf⟩ | ⟨rfl, hf⟩
  · have hf' : ((f.toNat : Int) == 254) = true := by rw [hf]; rfl
    clear k1 k2 k3 hcell hfree hf
    go_wp2
    go_ret
    exact ⟨rfl, hb9⟩
  · have hf' : ((f.toNat : Int) == 254) = false := by
      rw [beq_eq_false_iff_ne]
      intro e
      exact hf (BitVec.eq_of_toNat_eq (by have : f.toNat = 254 := by omega
                                          rw [this]; rfl))
    clear k1 k2 k3 hcell hfree hf
    go_wp2
    go_ret
    exact ⟨rfl, hb9⟩

set_option maxRecDepth 100000 in
theorem lateN (a b : Option Addr) (l r : List B8) (n c m d : Nat) (z : Int) (f : B8) (w : World) (hn : l.length = n) (hm : r.length = m) (hl : Rd w a l) (hr : Rd w b r)
    (ha : ∀ x, 0 < l.length → a = some x → x.block < w.heap.size) (hb : ∀ x, 0 < r.length → b = some x → x.block < w.heap.size) (h1 : n ≤ 4096) (h2 : m ≤ 4096) (q : Nat) (hq : q < n + 3) (hw : z.tmod ((n : Int) + 3) < 0) (hw2 : wrap64 (z.tmod ((n : Int) + 3) + ((n : Int) + 3)) = (q : Int)) :
    Calls Try.prog 5 #[.slice a n c, .int .i64 z, .slice b m d, .int .u8 f.toNat] w fun e w' => e = .returned (.bool true) ∧ Below w.heap.size w w' := by
  have d1 : decide ((4096 : Int) < (n : Int)) = false := by simp; omega
  have d2 : decide ((4096 : Int) < (m : Int)) = false := by simp; omega
  have HL : Hid (∀ w', Below w.heap.size w w' → Rd w' a l) := Lib.hid fun w' hb' => Rd.below hl hb' ha
  have HR : Hid (∀ w', Below w.heap.size w w' → Rd w' b r) := Lib.hid fun w' hb' => Rd.below hr hb' hb
  have HA : Hid (∀ x, 0 < l.length → a = some x → x.block < w.heap.size) := Lib.hid ha
  have HN := Lib.hid hn
  have HM := Lib.hid hm
  clear hn hm hl hr ha hb
  go_enter Try.func5, Try.ntmps5
  go_wp2_with fail
  refine Calls.mono (known_any _) ?_
  rintro e w1 ⟨rfl, hb1⟩
  go_wp2_with fail
  refine Calls.mono (lay a l n c _ HN.out (HL.out _ hb1) (fun x h0 hx => Nat.lt_of_lt_of_le (HA.out x h0 hx) hb1.size) (by omega)) ?_
  rintro e w2 ⟨a2, c2, rfl, hv2, hb2'⟩
  have hb2 := hb1.trans (hb2'.mono hb1.size)
  have hrd2 := hv2.rd
  have hlen2 : (laid l).length = n + 3 := hrd2.2.1
  obtain ⟨g, o, e2, hcell⟩ := hrd2.1.2 0 (by omega)
  subst e2
  have ho : o = 0 := by
    obtain ⟨a', c', e, _, _, _, hz, _⟩ := hv2.shape
    injection e with e1
    have := hz _ (e1.symm.trans rfl)
    injection this
  subst ho
  have hgl : w1.heap.size ≤ g ∧ g < w2.heap.size := by
    obtain ⟨a', c', e, _, _, hk, _⟩ := hv2.shape
    injection e with e1
    exact hk _ e1.symm
  have hcl : n + 3 ≤ c2 := hrd2.2.2.1
  have HV2 := Lib.hid hv2
  have HRD2 := Lib.hid hrd2.1
  have HLEN2 := Lib.hid hlen2
  have HG : Hid (w1.heap.size ≤ g ∧ g < w2.heap.size) := Lib.hid hgl
  have HC0 : Hid (w2.cell? ⟨g, 0, none⟩ = some (.int .u8 254)) := Lib.hid (by simpa [laid] using hcell)
  have q0 : (q : Int) ≤ (c2 : Int) := by omega
  clear hv2 hb2' hrd2 hlen2 hcell hgl
  go_wp2_with fail
  refine Calls.mono (readFront (some ⟨g, 0, none⟩) l q c2 n _ HN.out (Rd.take HRD2.out q) hq h1) ?_
  rintro e w' ⟨rfl, rfl⟩
  unfold none3
  have hb3 := (Below.refl w2.heap.size w2).alloc (Nat.le_refl _) (.cells #[] 5)
  have HO := Lib.hid (Own.made w2 w2.heap.size (Nat.le_refl _) #[] 0 [] rfl (Nat.zero_le _) rfl)
  have HK : Hid (∀ w', Below w2.heap.size w2 w' → Rd w' (some ⟨g, 0, none⟩) (laid l)) := Lib.hid fun w' hb' => Rd.below HRD2.out hb' (fun x _ hx => by injection hx with hx; subst hx; exact HG.out.2)
  go_wp2_with (first
    | (at_builtin
       refine wpList_app rfl (.tmp 58) (.tmp 59) rfl w2.heap.size (.slice (some ⟨w2.heap.size, 0, none⟩) 0 0) [] rfl HO.out (some ⟨g, 0, none⟩) (laid l) (n + 3) c2 rfl HLEN2.out (HK.out _ hb3) (laid l) (n + 3) rfl HLEN2.out (by omega) hb3.size ?_
       intro a3 c3 w3 hv3 hr3 hg3 hn3
       clear hr3 hn3
       have hb4 := hb3.grown hg3 hb3.size (HO.out.blocks · · |>.1)
       have HV3 := Lib.hid hv3
       clear hv3 hg3)
    | (at_builtin
       refine wpList_app rfl (.tmp 60) (.tmp 61) rfl w2.heap.size (.slice a3 (n + 3) c3) (laid l) rfl HV3.out b r m d rfl HM.out (HR.out _ (hb2.trans (hb4.mono hb2.size))) (laid l ++ r) (n + 3 + m) rfl (by rw [List.length_append, HLEN2.out, HM.out]) (by omega) hb4.size ?_
       intro a4 c4 w4 hv4 hr4 hg4 hn4
       have hb5 := hb4.grown hg4 hb4.size (HV3.out.blocks · · |>.1)
       have HR4 := Lib.hid hr4
       have HN4 : Hid (∀ x, 0 < (laid l ++ r).length → a4 = some x → x.block < w4.heap.size) := Lib.hid fun x _ hx => (hn4 x hx).2
       have hc4 : n + 3 + m ≤ c4 := hv4.rd.2.2.1
       clear hv4 hg4 hr4 hn4))
  refine Calls.mono (readLaid a4 l r n (n + 3 + m) c4 n _ HN.out (by rw [List.length_append, HLEN2.out, HM.out]) HR4.out HN4.out h1 hc4) ?_
  rintro e w5 ⟨a5, c5, rfl, hr5, hb5'⟩
  have hb6 := hb5.trans (hb5'.mono hb5.size)
  have hbw := hb2.trans (hb6.mono hb2.size)
  have k1 := conv w5 a5 l n c5 HN.out hr5
  have k2 := conv w5 a l n c HN.out (HL.out _ hbw)
  have k3 := neqS l
  have hv6 : Own w5 w1.heap.size (.slice (some ⟨g, 0, none⟩) (n + 3) c2) (laid l) := Own.keep HV2.out fun k hk => by
    have e : g = k := by simpa [Value.ownBlock] using hk
    subst e
    exact hb6.block g HG.out.2
  have hcell : w5.cell? ⟨g, 0, none⟩ = some (.int .u8 254) := (hb6.cell (p := ⟨g, 0, none⟩) HG.out.2).trans HC0.out
  have hfree := hv6.free 0
  obtain ⟨w6, hw6⟩ : ∃ w6, w6 = w5.setCell ⟨g, 0, none⟩ (.int .u8 f.toNat) := ⟨_, rfl⟩
  have hv7 := hv6.put 0 (by rw [HLEN2.out]; omega) f
  rw [← hw6] at hv7
  have hb7 : Below w.heap.size w w6 := by rw [hw6]; exact hbw.setCell (Nat.le_trans hb1.size HG.out.1) _
  have hsz6 : w6.heap.size = w5.heap.size := by rw [hw6]; simp
  have HF := Lib.hid (readFirst (some ⟨g, 0, none⟩) l f c2 n w6 HN.out hv7.rd.1 (fun x _ hx => by
    injection hx with hx; subst hx
    have := hb6.size
    have := HG.out.2
    show g < w6.heap.size
    omega) h1 hcl)
  have HW6 := Lib.hid hw6
  clear hr5 hb5 hb5' hc4 hv6 hv7 hw6 hsz6 hb6
  go_wp2_with fail
  rw [← HW6.out]
  refine Calls.mono HF.out ?_
  rintro e w7 ⟨s, mm, gg, rfl, hg, hb8⟩
  have hb9 := hb7.trans (hb8.mono hb7.size)
  rcases hg with ⟨rfl, hf⟩ | ⟨rfl, hf⟩
  · have hf' : ((f.toNat : Int) == 254) = true := by rw [hf]; rfl
    clear k1 k2 k3 hcell hfree hf
    go_wp2
    go_ret
    exact ⟨rfl, hb9⟩
  · have hf' : ((f.toNat : Int) == 254) = false := by
      rw [beq_eq_false_iff_ne]
      intro e
      exact hf (BitVec.eq_of_toNat_eq (by have : f.toNat = 254 := by omega
                                          rw [this]; rfl))
    clear k1 k2 k3 hcell hfree hf
    go_wp2
    go_ret
    exact ⟨rfl, hb9⟩

end Go.Proofs.Ytafcjcpflkelcab.FrontW
