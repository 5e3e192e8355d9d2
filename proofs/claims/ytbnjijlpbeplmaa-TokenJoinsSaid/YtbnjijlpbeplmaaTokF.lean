/- Blocks on the wire: split, walked. -/
import Derived.Test.YtbnjijlpbeplmaaTokE
namespace Go.Proofs.Ytbnjijlpbeplmaa.TokF
open Go.ChangeShapes Go.WideShapes Go.ChangeAt Go.RowKit
open CrcM CrcB CrcL CrcQ TokA TokB TokC TokD TokE
set_option linter.unusedVariables false
set_option maxHeartbeats 1000000

set_option maxRecDepth 100000 in
theorem splitW (a : Option Addr) (l : List B8) (n c : Nat) (s : Int) (w : World) (hn : l.length = n) (hr : Rd w a l) (hc : n ≤ c) (hcm : c ≤ maxLen) (ha : ∀ x, 0 < l.length → a = some x → x.block < w.heap.size) (h1 : n ≤ 10000) :
    Calls Try.prog 52 #[.slice a n c, .int .i64 s] w fun e w' => ∃ v, e = .returned (.tuple #[v, .int .i64 ((spl l s (n + 1) 0).2.1 : Int), .int .i64 ((spl l s (n + 1) 0).2.2 : Int)]) ∧ RowsOf w' w.heap.size v (spl l s (n + 1) 0).1 ∧ Below w.heap.size w w' := by
  have HR : Hid (∀ w' t b off, Below w.heap.size w w' → t < n → a = some ⟨b, off, none⟩ → Calls Try.prog 50 #[.slice (some ⟨b, off + t, none⟩) ((n - t : Nat)) (c - t), .int .i64 s] w' (Gives (rdSpec (l.drop t) s) w')) := Lib.hid fun w' t b off hb' ht ea => by
    subst ea
    have hbb : b < w.heap.size := ha ⟨b, off, none⟩ (by omega) rfl
    have hr' := Rd.below hr hb' ha
    have hrd : Rd w' (some ⟨b, off + t, none⟩) (l.drop t) := ⟨by have := hr'.1; simp; omega, fun i hi => by
      have hi' : t + i < l.length := by simp at hi; omega
      obtain ⟨b', off', e, hcl⟩ := hr'.2 (t + i) hi'
      injection e with e
      injection e with e1 e2
      subst e1 e2
      exact ⟨b, off + t, rfl, by rw [Nat.add_assoc, hcl]; simp [List.getD_eq_getElem?_getD]⟩⟩
    exact readAny _ (l.drop t) (n - t) (c - t) s w' (by simp; omega) hrd (by omega) (fun x _ e => by injection e with e; subst e; exact Nat.lt_of_lt_of_le hbb hb'.size)
  have hA : Hid (0 < n → ∃ b off, a = some ⟨b, off, none⟩) := Lib.hid fun h => by
    obtain ⟨b, off, e, _⟩ := hr.2 0 (by omega)
    exact ⟨b, off, e⟩
  have hE := Lib.hid (fun f t => spl_end l s f t)
  have hB := Lib.hid (fun f t => spl_bad l s f t)
  have hO := Lib.hid (fun f t => spl_ok l s f t)
  have hK := Lib.hid (fun t => rd_ok (l.drop t) s)
  replace hn := Lib.hid hn
  have hN := Lib.hid (RowsOf.nil w w.heap.size)
  unfold maxLen at hcm
  clear hr ha
  generalize hT : spl l s (n + 1) 0 = T
  replace hT := Lib.hid hT
  generalize spl l s = S at hE hB hO hT
  go_enter Try.func52, Try.ntmps52
  go_wp2
  go_loopw [7, 8, 9, 10, 11, 16] (fun v i _ _ _ _ wr => ∃ (t fu : Nat) (dn : List (List B8)) (v' : Value), v' = v ∧ t ≤ n ∧ n < fu + t ∧ i = .int .i64 (t : Int) ∧ T = (dn ++ (S fu t).1, (S fu t).2) ∧ dn.length ≤ t ∧ RowsOf wr w.heap.size v' dn ∧ Below w.heap.size w wr) (fun _ i _ _ _ _ _ => n - (intOf i).toNat)
  case atStart => exact ⟨0, n + 1, [], _, rfl, by omega, by omega, rfl, by rw [← hT.out]; rfl, by simp, hN.out, Below.refl _ _⟩
  case round =>
    obtain ⟨t, fu, dn, v0, hv0, ht, hf, rfl, hS, hd, hrow, hb⟩ := hrel
    subst hv0
    replace hS := Lib.hid hS
    replace hrow := Lib.hid hrow
    by_cases hlt : t < n
    · obtain ⟨b, off, rfl⟩ := hA.out (by omega)
      obtain ⟨fu, rfl⟩ : ∃ f, fu = f + 1 := ⟨fu - 1, by omega⟩
      have HC := HR.out _ t b off hb hlt rfl
      have hbad := Lib.hid (hB.out fu t (by rw [hn.out]; exact hlt))
      have hok := Lib.hid (hO.out fu t (by rw [hn.out]; exact hlt))
      have hk := hK.out t
      rw [List.length_drop, hn.out] at hk
      generalize rdSpec (l.drop t) s = r at HC hbad hok hk
      obtain ⟨x, m, q⟩ := r
      unfold Gives at HC
      simp only at HC hbad hok hk
      have hct : ¬ c = t := by omega
      have hnt : (t : Int) ≤ (n : Int) := by omega
      have htc : (t : Int) ≤ (c : Int) := by omega
      have htn' : t ≤ n := by omega
      replace HC := Lib.hid HC
      by_cases hq : q = 0
      · obtain ⟨hm0, hm1⟩ := hk hq
        have hq1 := Lib.hid (hok.out hq)
        have hqb : ((q : Int) != 0) = false := by rw [bne_eq_false_iff_eq]; omega
        replace hq := Lib.hid hq
        clear hk
        go_wp2_with fail
        refine HC.out.mono ?_
        rintro e w1 ⟨⟨a1, c1, rfl, r1, n1⟩, b1⟩
        have hO1 : Hid (One w1 (.slice a1 x.length c1) x) := Lib.hid ⟨a1, c1, rfl, r1, fun y e => (n1 y e).2⟩
        have hv1 : Hid (RowsOf w1 w.heap.size v0 dn) := Lib.hid (RowsOf.below hrow.out b1)
        have hne : Hid (∀ a n c, Value.slice a1 x.length c1 = .slice (some a) n c → v0.ownBlock ≠ some a.block) := Lib.hid fun a n c e h => by
          injection e with e1 e2 e3
          have h2 := (n1 a e1).1
          obtain ⟨vs, ho, _⟩ := hrow.out
          have := (World.ownsRow.lt ho _ h).2
          omega
        have d1 := hb.trans (b1.mono hb.size)
        clear r1 n1 b1
        go_wp2_with (at_builtin
                     refine wpList_more rfl (.tmp 30) (.tmp 32) rfl w.heap.size v0 dn rfl (RowsOf.below hv1.out ((Below.refl _ _).alloc (Nat.le_refl _) _)) (.slice a1 x.length c1) x (One.below hO1.out ((Below.refl _ _).alloc (Nat.le_refl _) _)) hne.out w1.heap.size rfl (by simp) (by omega) (by have := d1.size; simp; omega) ?_
                     intro v3 w3 hv3 hg3
                     have d3 := (d1.alloc d1.size _).grown hg3 (by have := d1.size; simp; omega) (fun k hk => by
                       obtain ⟨vs, ho, _⟩ := hv1.out
                       exact (World.ownsRow.lt ho _ hk).1)
                     replace hv3 := Lib.hid hv3
                     clear hg3)
        go_roundw
        case rel => exact ⟨t + m, fu, dn ++ [x], v3, rfl, by omega, by omega, by go_num, by rw [hS.out, hq1.out]; simp, by simp; omega, hv3.out, d3⟩
        case measure => simp [intOf]; omega
      · have hq1 := Lib.hid (hbad.out hq)
        have hqb : ((q : Int) != 0) = true := by rw [bne_iff_ne]; omega
        replace hq := Lib.hid hq
        clear hk
        have hfin : Hid (T = (dn, t, q)) := Lib.hid (by rw [hS.out, hq1.out]; simp)
        go_wp2_with (go_at_call 50; refine HC.out.mono ?_; rintro e w1 ⟨⟨a1, c1, rfl, r1, n1⟩, b1⟩)
        go_ret3
        refine ⟨v0, by rw [hfin.out]; rfl, ?_, hb.trans (b1.mono hb.size)⟩
        rw [hfin.out]
        exact RowsOf.below hrow.out b1
    · obtain rfl : t = n := by omega
      have hfin : Hid (T = (dn, t, 0)) := Lib.hid (by rw [hS.out, hE.out fu t (by rw [hn.out]; exact Nat.le_refl _)]; simp)
      go_wp2
      go_ret3
      refine ⟨v0, by rw [hfin.out]; rfl, ?_, hb⟩
      rw [hfin.out]
      exact hrow.out


set_option maxRecDepth 100000 in
theorem splitR (a : Option Addr) (l : List B8) (n c : Nat) (s : Int) (w : World) (hn : l.length = n) (hr : Rd w a l) (hc : n ≤ c) (hcm : c ≤ maxLen) (ha : ∀ x, 0 < l.length → a = some x → x.block < w.heap.size) (h1 : n ≤ 10000) :
    Calls Try.prog 53 #[.slice a n c, .int .i64 s] w fun e w' => ∃ v, e = .returned (.tuple #[v, .int .i64 ((spl l s (n + 1) 0).2.1 : Int), .int .i64 ((spl l s (n + 1) 0).2.2 : Int)]) ∧ RowsOf w' w.heap.size v (spl l s (n + 1) 0).1 ∧ Below w.heap.size w w' := by
  have HR : Hid (∀ w' t b off, Below w.heap.size w w' → t < n → a = some ⟨b, off, none⟩ → Calls Try.prog 51 #[.slice (some ⟨b, off + t, none⟩) ((n - t : Nat)) (c - t), .int .i64 s] w' (Gives (rdSpec (l.drop t) s) w')) := Lib.hid fun w' t b off hb' ht ea => by
    subst ea
    have hbb : b < w.heap.size := ha ⟨b, off, none⟩ (by omega) rfl
    have hr' := Rd.below hr hb' ha
    have hrd : Rd w' (some ⟨b, off + t, none⟩) (l.drop t) := ⟨by have := hr'.1; simp; omega, fun i hi => by
      have hi' : t + i < l.length := by simp at hi; omega
      obtain ⟨b', off', e, hcl⟩ := hr'.2 (t + i) hi'
      injection e with e
      injection e with e1 e2
      subst e1 e2
      exact ⟨b, off + t, rfl, by rw [Nat.add_assoc, hcl]; simp [List.getD_eq_getElem?_getD]⟩⟩
    exact refAny _ (l.drop t) (n - t) (c - t) s w' (by simp; omega) hrd (by omega) (fun x _ e => by injection e with e; subst e; exact Nat.lt_of_lt_of_le hbb hb'.size)
  have hA : Hid (0 < n → ∃ b off, a = some ⟨b, off, none⟩) := Lib.hid fun h => by
    obtain ⟨b, off, e, _⟩ := hr.2 0 (by omega)
    exact ⟨b, off, e⟩
  have hE := Lib.hid (fun f t => spl_end l s f t)
  have hB := Lib.hid (fun f t => spl_bad l s f t)
  have hO := Lib.hid (fun f t => spl_ok l s f t)
  have hK := Lib.hid (fun t => rd_ok (l.drop t) s)
  replace hn := Lib.hid hn
  have hN := Lib.hid (RowsOf.nil w w.heap.size)
  unfold maxLen at hcm
  clear hr ha
  generalize hT : spl l s (n + 1) 0 = T
  replace hT := Lib.hid hT
  generalize spl l s = S at hE hB hO hT
  go_enter Try.func53, Try.ntmps53
  go_wp2
  go_loopw [7, 8, 9, 10, 11, 16] (fun v i _ _ _ _ wr => ∃ (t fu : Nat) (dn : List (List B8)) (v' : Value), v' = v ∧ t ≤ n ∧ n < fu + t ∧ i = .int .i64 (t : Int) ∧ T = (dn ++ (S fu t).1, (S fu t).2) ∧ dn.length ≤ t ∧ RowsOf wr w.heap.size v' dn ∧ Below w.heap.size w wr) (fun _ i _ _ _ _ _ => n - (intOf i).toNat)
  case atStart => exact ⟨0, n + 1, [], _, rfl, by omega, by omega, rfl, by rw [← hT.out]; rfl, by simp, hN.out, Below.refl _ _⟩
  case round =>
    obtain ⟨t, fu, dn, v0, hv0, ht, hf, rfl, hS, hd, hrow, hb⟩ := hrel
    subst hv0
    replace hS := Lib.hid hS
    replace hrow := Lib.hid hrow
    by_cases hlt : t < n
    · obtain ⟨b, off, rfl⟩ := hA.out (by omega)
      obtain ⟨fu, rfl⟩ : ∃ f, fu = f + 1 := ⟨fu - 1, by omega⟩
      have HC := HR.out _ t b off hb hlt rfl
      have hbad := Lib.hid (hB.out fu t (by rw [hn.out]; exact hlt))
      have hok := Lib.hid (hO.out fu t (by rw [hn.out]; exact hlt))
      have hk := hK.out t
      rw [List.length_drop, hn.out] at hk
      generalize rdSpec (l.drop t) s = r at HC hbad hok hk
      obtain ⟨x, m, q⟩ := r
      unfold Gives at HC
      simp only at HC hbad hok hk
      have hct : ¬ c = t := by omega
      have hnt : (t : Int) ≤ (n : Int) := by omega
      have htc : (t : Int) ≤ (c : Int) := by omega
      have htn' : t ≤ n := by omega
      replace HC := Lib.hid HC
      by_cases hq : q = 0
      · obtain ⟨hm0, hm1⟩ := hk hq
        have hq1 := Lib.hid (hok.out hq)
        have hqb : ((q : Int) != 0) = false := by rw [bne_eq_false_iff_eq]; omega
        replace hq := Lib.hid hq
        clear hk
        go_wp2_with fail
        refine HC.out.mono ?_
        rintro e w1 ⟨⟨a1, c1, rfl, r1, n1⟩, b1⟩
        have hO1 : Hid (One w1 (.slice a1 x.length c1) x) := Lib.hid ⟨a1, c1, rfl, r1, fun y e => (n1 y e).2⟩
        have hv1 : Hid (RowsOf w1 w.heap.size v0 dn) := Lib.hid (RowsOf.below hrow.out b1)
        have hne : Hid (∀ a n c, Value.slice a1 x.length c1 = .slice (some a) n c → v0.ownBlock ≠ some a.block) := Lib.hid fun a n c e h => by
          injection e with e1 e2 e3
          have h2 := (n1 a e1).1
          obtain ⟨vs, ho, _⟩ := hrow.out
          have := (World.ownsRow.lt ho _ h).2
          omega
        have d1 := hb.trans (b1.mono hb.size)
        clear r1 n1 b1
        go_wp2_with (at_builtin
                     refine wpList_more rfl (.tmp 30) (.tmp 32) rfl w.heap.size v0 dn rfl (RowsOf.below hv1.out ((Below.refl _ _).alloc (Nat.le_refl _) _)) (.slice a1 x.length c1) x (One.below hO1.out ((Below.refl _ _).alloc (Nat.le_refl _) _)) hne.out w1.heap.size rfl (by simp) (by omega) (by have := d1.size; simp; omega) ?_
                     intro v3 w3 hv3 hg3
                     have d3 := (d1.alloc d1.size _).grown hg3 (by have := d1.size; simp; omega) (fun k hk => by
                       obtain ⟨vs, ho, _⟩ := hv1.out
                       exact (World.ownsRow.lt ho _ hk).1)
                     replace hv3 := Lib.hid hv3
                     clear hg3)
        go_roundw
        case rel => exact ⟨t + m, fu, dn ++ [x], v3, rfl, by omega, by omega, by go_num, by rw [hS.out, hq1.out]; simp, by simp; omega, hv3.out, d3⟩
        case measure => simp [intOf]; omega
      · have hq1 := Lib.hid (hbad.out hq)
        have hqb : ((q : Int) != 0) = true := by rw [bne_iff_ne]; omega
        replace hq := Lib.hid hq
        clear hk
        have hfin : Hid (T = (dn, t, q)) := Lib.hid (by rw [hS.out, hq1.out]; simp)
        go_wp2_with (go_at_call 51; refine HC.out.mono ?_; rintro e w1 ⟨⟨a1, c1, rfl, r1, n1⟩, b1⟩)
        go_ret3
        refine ⟨v0, by rw [hfin.out]; rfl, ?_, hb.trans (b1.mono hb.size)⟩
        rw [hfin.out]
        exact RowsOf.below hrow.out b1
    · obtain rfl : t = n := by omega
      have hfin : Hid (T = (dn, t, 0)) := Lib.hid (by rw [hS.out, hE.out fu t (by rw [hn.out]; exact Nat.le_refl _)]; simp)
      go_wp2
      go_ret3
      refine ⟨v0, by rw [hfin.out]; rfl, ?_, hb⟩
      rw [hfin.out]
      exact hrow.out

end Go.Proofs.Ytbnjijlpbeplmaa.TokF
