/- The walk of the law on growing wear. -/
import Derived.Test.YtafcjcpflkelcaaWearP
namespace Go.Proofs.Ytafcjcpflkelcaa.WearG
open Go.ChangeShapes Go.WideShapes Go.ChangeAt Go.RowKit
open WearM WearA WearN WearP
set_option linter.unusedVariables false
set_option maxHeartbeats 1000000

abbrev big : Int := 1099511627776

/-- The plays that are let by at once. -/
theorem early (a : Option Addr) (n c : Nat) (at_ by_ f m t : Int) (w : World) (hn : n ≤ maxLen) (h : 1000 < n ∨ n = 0 ∨ by_ < 0 ∨ m < 0 ∨ 1099511627776 < f ∨ 1099511627776 < m) :
    Calls Try.prog 7 #[.slice a n c, .int .i64 at_, .int .i64 by_, .int .i64 f, .int .i64 m, .int .i64 t] w fun e w' => e = .returned (.bool true) ∧ Below w.heap.size w w' := by
  unfold maxLen at hn
  by_cases h1 : 1000 < n
  · have d1 : decide ((1000 : Int) < (n : Int)) = true := by simp; omega
    go_enter Try.func7, Try.ntmps7
    go_wp2_with (go_at_call 24; refine (known_any _).mono ?_; rintro e w' ⟨rfl, hb⟩)
    go_ret
    exact ⟨rfl, hb⟩
  have d1 : decide ((1000 : Int) < (n : Int)) = false := by simp; omega
  by_cases h2 : n = 0
  · subst h2
    go_enter Try.func7, Try.ntmps7
    go_wp2_with (go_at_call 24; refine (known_any _).mono ?_; rintro e w' ⟨rfl, hb⟩)
    go_ret
    exact ⟨rfl, hb⟩
  have d2 : ((n : Int) == 0) = false := by simp; omega
  by_cases h3 : by_ < 0
  · have d3 : decide (by_ < 0) = true := by simp; omega
    go_enter Try.func7, Try.ntmps7
    go_wp2_with (go_at_call 24; refine (known_any _).mono ?_; rintro e w' ⟨rfl, hb⟩)
    go_ret
    exact ⟨rfl, hb⟩
  have d3 : decide (by_ < 0) = false := by simp; omega
  by_cases h4 : m < 0
  · have d4 : decide (m < 0) = true := by simp; omega
    go_enter Try.func7, Try.ntmps7
    go_wp2_with (go_at_call 24; refine (known_any _).mono ?_; rintro e w' ⟨rfl, hb⟩)
    go_ret
    exact ⟨rfl, hb⟩
  have d4 : decide (m < 0) = false := by simp; omega
  by_cases h5 : 1099511627776 < f
  · have d5 : decide (1099511627776 < f) = true := by simp; omega
    go_enter Try.func7, Try.ntmps7
    go_wp2_with (go_at_call 24; refine (known_any _).mono ?_; rintro e w' ⟨rfl, hb⟩)
    go_ret
    exact ⟨rfl, hb⟩
  have d5 : decide (1099511627776 < f) = false := by simp; omega
  have d6 : decide (1099511627776 < m) = true := by simp; omega
  go_enter Try.func7, Try.ntmps7
  go_wp2_with (go_at_call 24; refine (known_any _).mono ?_; rintro e w' ⟨rfl, hb⟩)
  go_ret
  exact ⟨rfl, hb⟩

set_option maxRecDepth 100000 in
theorem lateP (b off : Nat) (l : List Int) (n c : Nat) (z by_ f m t : Int) (w : World) (hn : l.length = n) (hr : Rd w (some ⟨b, off, none⟩) l) (hbl : b < w.heap.size) (hz : I64 z) (hf : I64 f) (ht : I64 t)
    (h1 : n ≤ 1000) (h0 : 0 < n) (h3 : 0 ≤ by_) (h4 : 0 ≤ m) (h5 : f ≤ 1099511627776) (h6 : m ≤ 1099511627776) (q : Nat) (hq : q < n) (hw : z.tmod (n : Int) = (q : Int)) :
    Calls Try.prog 7 #[.slice (some ⟨b, off, none⟩) n c, .int .i64 z, .int .i64 by_, .int .i64 f, .int .i64 m, .int .i64 t] w fun e w' => e = .returned (.bool true) ∧ Below w.heap.size w w' := by
  have d1 : decide ((1000 : Int) < (n : Int)) = false := by simp; omega
  have d2 : ((n : Int) == 0) = false := by simp; omega
  have d3 : decide (by_ < 0) = false := by simp; omega
  have d4 : decide (m < 0) = false := by simp; omega
  have d5 : decide (1099511627776 < f) = false := by simp; omega
  have d6 : decide (1099511627776 < m) = false := by simp; omega
  have HR : Hid (∀ w', Below w.heap.size w w' → Rd w' (some ⟨b, off, none⟩) l) := Lib.hid fun w' hb => Rd.below hr hb (fun x _ e => by injection e with e; subst e; exact hbl)
  have HN := Lib.hid hn
  have HF := Lib.hid hf
  have HT := Lib.hid ht
  have HX := Lib.hid hr.2.2
  obtain ⟨v, hv⟩ : ∃ v, v = l.getD q 0 := ⟨_, rfl⟩
  have hv64 : I64 v := by
    rw [hv]
    have hql : q < l.length := by omega
    have : l.getD q 0 = l[q] := by simp [hql]
    rw [this]
    exact hr.2.2 _ (List.getElem_mem _)
  have HV := Lib.hid hv
  have HV64 := Lib.hid hv64
  clear hn hr hf ht hv hv64
  go_enter Try.func7, Try.ntmps7
  go_wp2_with fail
  refine Calls.mono (known_any _) ?_
  rintro e w1 ⟨rfl, hb1⟩
  have hb2 := hb1.alloc hb1.size (.cells #[] 3)
  have HO := Lib.hid (Own.made w1 w.heap.size hb1.size)
  go_wp2_with (first
    | (at_builtin
       refine wpList_app rfl (.tmp 42) (.tmp 43) rfl w.heap.size (.slice (some ⟨w1.heap.size, 0, none⟩) 0 0) rfl HO.out b off l n c rfl HN.out (HR.out _ hb2) h0 (by omega) hb2.size ?_
       intro g c2 w2 hv2 hg2 hge
       have hb3 := hb2.grown hg2 hb2.size (World.ownsRow.lt HO.out · · |>.1)
       have hcell := hv2.cell q (by rw [HN.out]; exact hq)
       rw [← HV.out] at hcell
       have hfree := hv2.free q
       have HV2 := Lib.hid hv2
       clear hv2 hg2))
  all_goals first | (go_ret; exact ⟨rfl, hb3⟩) | skip
  have hok : (v ≤ 1099511627776 ∧ by_ ≤ 1099511627776) ∧ -1099511627776 ≤ v := by assumption
  have hql : q < l.length := by rw [HN.out]; exact hq
  have hvv : l.getD q 0 ≤ v + by_ := by rw [← HV.out]; omega
  obtain ⟨A, hA⟩ : ∃ A, A = life l := ⟨_, rfl⟩
  obtain ⟨B, hB⟩ : ∃ B, B = life (l.set q (v + by_)) := ⟨_, rfl⟩
  obtain ⟨D, hD⟩ : ∃ D, D = debt f t := ⟨_, rfl⟩
  have hAB : A ≤ B := by rw [hA, hB]; exact life_set l q _ hql hvv
  have hA1 : 1 ≤ A := by rw [hA]; exact (life_bd l (by omega)).1
  have hB1 : B ≤ 11 := by rw [hB]; exact (life_bd _ (by rw [List.length_set]; omega)).2
  have hD0 : 0 ≤ D := by rw [hD]; exact (debt_bd f t).1
  have hD1 : D ≤ 16 := by rw [hD]; exact (debt_bd f t).2
  obtain ⟨w3, hw3⟩ : ∃ w3, w3 = w2.setCell ⟨g, q, none⟩ (.int .i64 (v + by_)) := ⟨_, rfl⟩
  have hv64 : I64 (v + by_) := by unfold I64; omega
  have HP : Hid (Rd w3 (some ⟨g, 0, none⟩) (l.set q (v + by_))) := Lib.hid (by
    rw [hw3]
    refine Own.rd (HV2.out.put q hql (v + by_)) fun x hx => ?_
    rcases List.mem_or_eq_of_mem_set hx with h | h
    · exact HX.out x h
    · rw [h]; exact hv64)
  have HLen : Hid ((l.set q (v + by_)).length = n) := Lib.hid (by rw [List.length_set]; exact HN.out)
  have HL1 : Hid (∀ W, Rd W (some ⟨g, 0, none⟩) l → Calls Try.prog 40 #[.slice (some ⟨g, 0, none⟩) n c2] W fun e w' => e = .returned (.int .i64 A) ∧ W = w') := Lib.hid fun W h => by
    rw [hA]; exact lifeW _ l n c2 W HN.out h (by omega)
  have HL2 : Hid (Calls Try.prog 40 #[.slice (some ⟨g, 0, none⟩) n c2] w3 fun e w' => e = .returned (.int .i64 B) ∧ w3 = w') := Lib.hid (by
    rw [hB]; exact lifeW _ _ n c2 w3 HLen.out HP.out (by omega))
  have HD2 : Hid (Calls Try.prog 36 #[.int .i64 f, .int .i64 t] w3 fun e w' => e = .returned (.int .i64 D) ∧ w3 = w') := Lib.hid (by
    rw [hD]; exact debtW f t HF.out HT.out w3)
  have hb4 : Below w.heap.size w w3 := by rw [hw3]; exact hb3.setCell hge _
  have HR2 := Lib.hid (Own.rd HV2.out HX.out)
  have HW3 := Lib.hid hw3
  have HDD := Lib.hid hD
  have hov : IntKind.i64.wrap (v + by_) = v + by_ := IntWalk.i64_in _ (by unfold I64 at hv64; exact hv64)
  clear hA hB hD hw3 hv64 hvv
  have q0 : (0 : Int) ≤ (q : Int) := Int.natCast_nonneg _
  have q1 : (q : Int) < (n : Int) := by omega
  refine Calls.mono (HL1.out _ HR2.out) ?_
  rintro e w' ⟨rfl, rfl⟩
  by_cases hf2 : f < -1099511627776
  · go_wp2_with fail
    rw [← HW3.out]
    refine Calls.mono HD2.out ?_
    rintro e w' ⟨rfl, rfl⟩
    go_wp2_with fail
    refine Calls.mono HL2.out ?_
    rintro e w' ⟨rfl, rfl⟩
    go_wp2_with fail
    refine Calls.mono HL2.out ?_
    rintro e w' ⟨rfl, rfl⟩
    go_wp2
    go_ret
    exact ⟨rfl, hb4⟩
  · obtain ⟨E, hE⟩ : ∃ E, E = debt (f + m) t := ⟨_, rfl⟩
    have hED : E ≤ D := by rw [hE, HDD.out]; exact debt_mono f m t h4
    have hf64 : I64 (f + m) := by unfold I64; omega
    have HD3 : Hid (Calls Try.prog 36 #[.int .i64 (f + m), .int .i64 t] w3 fun e w' => e = .returned (.int .i64 E) ∧ w3 = w') := Lib.hid (by
      rw [hE]; exact debtW (f + m) t hf64 HT.out w3)
    clear hE hf64
    go_wp2_with fail
    rw [← HW3.out]
    refine Calls.mono HD2.out ?_
    rintro e w' ⟨rfl, rfl⟩
    go_wp2_with fail
    refine Calls.mono HL2.out ?_
    rintro e w' ⟨rfl, rfl⟩
    go_wp2_with fail
    refine Calls.mono HL2.out ?_
    rintro e w' ⟨rfl, rfl⟩
    go_wp2_with fail
    refine Calls.mono HD3.out ?_
    rintro e w' ⟨rfl, rfl⟩
    go_wp2
    go_ret
    exact ⟨rfl, hb4⟩

set_option maxRecDepth 100000 in
theorem lateN (b off : Nat) (l : List Int) (n c : Nat) (z by_ f m t : Int) (w : World) (hn : l.length = n) (hr : Rd w (some ⟨b, off, none⟩) l) (hbl : b < w.heap.size) (hz : I64 z) (hf : I64 f) (ht : I64 t)
    (h1 : n ≤ 1000) (h0 : 0 < n) (h3 : 0 ≤ by_) (h4 : 0 ≤ m) (h5 : f ≤ 1099511627776) (h6 : m ≤ 1099511627776) (q : Nat) (hq : q < n) (hw : z.tmod (n : Int) < 0) (hw2 : 0 - z.tmod (n : Int) = (q : Int)) (hw3 : -z.tmod (n : Int) = (q : Int)) :
    Calls Try.prog 7 #[.slice (some ⟨b, off, none⟩) n c, .int .i64 z, .int .i64 by_, .int .i64 f, .int .i64 m, .int .i64 t] w fun e w' => e = .returned (.bool true) ∧ Below w.heap.size w w' := by
  have d1 : decide ((1000 : Int) < (n : Int)) = false := by simp; omega
  have d2 : ((n : Int) == 0) = false := by simp; omega
  have d3 : decide (by_ < 0) = false := by simp; omega
  have d4 : decide (m < 0) = false := by simp; omega
  have d5 : decide (1099511627776 < f) = false := by simp; omega
  have d6 : decide (1099511627776 < m) = false := by simp; omega
  have HR : Hid (∀ w', Below w.heap.size w w' → Rd w' (some ⟨b, off, none⟩) l) := Lib.hid fun w' hb => Rd.below hr hb (fun x _ e => by injection e with e; subst e; exact hbl)
  have HN := Lib.hid hn
  have HF := Lib.hid hf
  have HT := Lib.hid ht
  have HX := Lib.hid hr.2.2
  obtain ⟨v, hv⟩ : ∃ v, v = l.getD q 0 := ⟨_, rfl⟩
  have hv64 : I64 v := by
    rw [hv]
    have hql : q < l.length := by omega
    have : l.getD q 0 = l[q] := by simp [hql]
    rw [this]
    exact hr.2.2 _ (List.getElem_mem _)
  have HV := Lib.hid hv
  have HV64 := Lib.hid hv64
  clear hn hr hf ht hv hv64
  go_enter Try.func7, Try.ntmps7
  go_wp2_with fail
  refine Calls.mono (known_any _) ?_
  rintro e w1 ⟨rfl, hb1⟩
  have hb2 := hb1.alloc hb1.size (.cells #[] 3)
  have HO := Lib.hid (Own.made w1 w.heap.size hb1.size)
  go_wp2_with (first
    | (at_builtin
       refine wpList_app rfl (.tmp 42) (.tmp 43) rfl w.heap.size (.slice (some ⟨w1.heap.size, 0, none⟩) 0 0) rfl HO.out b off l n c rfl HN.out (HR.out _ hb2) h0 (by omega) hb2.size ?_
       intro g c2 w2 hv2 hg2 hge
       have hb3 := hb2.grown hg2 hb2.size (World.ownsRow.lt HO.out · · |>.1)
       have hcell := hv2.cell q (by rw [HN.out]; exact hq)
       rw [← HV.out] at hcell
       have hfree := hv2.free q
       have HV2 := Lib.hid hv2
       clear hv2 hg2))
  all_goals first | (go_ret; exact ⟨rfl, hb3⟩) | skip
  have hok : (v ≤ 1099511627776 ∧ by_ ≤ 1099511627776) ∧ -1099511627776 ≤ v := by assumption
  have hql : q < l.length := by rw [HN.out]; exact hq
  have hvv : l.getD q 0 ≤ v + by_ := by rw [← HV.out]; omega
  obtain ⟨A, hA⟩ : ∃ A, A = life l := ⟨_, rfl⟩
  obtain ⟨B, hB⟩ : ∃ B, B = life (l.set q (v + by_)) := ⟨_, rfl⟩
  obtain ⟨D, hD⟩ : ∃ D, D = debt f t := ⟨_, rfl⟩
  have hAB : A ≤ B := by rw [hA, hB]; exact life_set l q _ hql hvv
  have hA1 : 1 ≤ A := by rw [hA]; exact (life_bd l (by omega)).1
  have hB1 : B ≤ 11 := by rw [hB]; exact (life_bd _ (by rw [List.length_set]; omega)).2
  have hD0 : 0 ≤ D := by rw [hD]; exact (debt_bd f t).1
  have hD1 : D ≤ 16 := by rw [hD]; exact (debt_bd f t).2
  obtain ⟨w3, hw3⟩ : ∃ w3, w3 = w2.setCell ⟨g, q, none⟩ (.int .i64 (v + by_)) := ⟨_, rfl⟩
  have hv64 : I64 (v + by_) := by unfold I64; omega
  have HP : Hid (Rd w3 (some ⟨g, 0, none⟩) (l.set q (v + by_))) := Lib.hid (by
    rw [hw3]
    refine Own.rd (HV2.out.put q hql (v + by_)) fun x hx => ?_
    rcases List.mem_or_eq_of_mem_set hx with h | h
    · exact HX.out x h
    · rw [h]; exact hv64)
  have HLen : Hid ((l.set q (v + by_)).length = n) := Lib.hid (by rw [List.length_set]; exact HN.out)
  have HL1 : Hid (∀ W, Rd W (some ⟨g, 0, none⟩) l → Calls Try.prog 40 #[.slice (some ⟨g, 0, none⟩) n c2] W fun e w' => e = .returned (.int .i64 A) ∧ W = w') := Lib.hid fun W h => by
    rw [hA]; exact lifeW _ l n c2 W HN.out h (by omega)
  have HL2 : Hid (Calls Try.prog 40 #[.slice (some ⟨g, 0, none⟩) n c2] w3 fun e w' => e = .returned (.int .i64 B) ∧ w3 = w') := Lib.hid (by
    rw [hB]; exact lifeW _ _ n c2 w3 HLen.out HP.out (by omega))
  have HD2 : Hid (Calls Try.prog 36 #[.int .i64 f, .int .i64 t] w3 fun e w' => e = .returned (.int .i64 D) ∧ w3 = w') := Lib.hid (by
    rw [hD]; exact debtW f t HF.out HT.out w3)
  have hb4 : Below w.heap.size w w3 := by rw [hw3]; exact hb3.setCell hge _
  have HR2 := Lib.hid (Own.rd HV2.out HX.out)
  have HW3 := Lib.hid hw3
  have HDD := Lib.hid hD
  have hov : IntKind.i64.wrap (v + by_) = v + by_ := IntWalk.i64_in _ (by unfold I64 at hv64; exact hv64)
  clear hA hB hD hw3 hv64 hvv
  have q0 : (0 : Int) ≤ (q : Int) := Int.natCast_nonneg _
  have q1 : (q : Int) < (n : Int) := by omega
  refine Calls.mono (HL1.out _ HR2.out) ?_
  rintro e w' ⟨rfl, rfl⟩
  by_cases hf2 : f < -1099511627776
  · go_wp2_with fail
    rw [← HW3.out]
    refine Calls.mono HD2.out ?_
    rintro e w' ⟨rfl, rfl⟩
    go_wp2_with fail
    refine Calls.mono HL2.out ?_
    rintro e w' ⟨rfl, rfl⟩
    go_wp2_with fail
    refine Calls.mono HL2.out ?_
    rintro e w' ⟨rfl, rfl⟩
    go_wp2
    go_ret
    exact ⟨rfl, hb4⟩
  · obtain ⟨E, hE⟩ : ∃ E, E = debt (f + m) t := ⟨_, rfl⟩
    have hED : E ≤ D := by rw [hE, HDD.out]; exact debt_mono f m t h4
    have hf64 : I64 (f + m) := by unfold I64; omega
    have HD3 : Hid (Calls Try.prog 36 #[.int .i64 (f + m), .int .i64 t] w3 fun e w' => e = .returned (.int .i64 E) ∧ w3 = w') := Lib.hid (by
      rw [hE]; exact debtW (f + m) t hf64 HT.out w3)
    clear hE hf64
    go_wp2_with fail
    rw [← HW3.out]
    refine Calls.mono HD2.out ?_
    rintro e w' ⟨rfl, rfl⟩
    go_wp2_with fail
    refine Calls.mono HL2.out ?_
    rintro e w' ⟨rfl, rfl⟩
    go_wp2_with fail
    refine Calls.mono HL2.out ?_
    rintro e w' ⟨rfl, rfl⟩
    go_wp2_with fail
    refine Calls.mono HD3.out ?_
    rintro e w' ⟨rfl, rfl⟩
    go_wp2
    go_ret
    exact ⟨rfl, hb4⟩
end Go.Proofs.Ytafcjcpflkelcaa.WearG
