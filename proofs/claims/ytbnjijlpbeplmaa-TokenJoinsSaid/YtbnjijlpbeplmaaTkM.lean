/- Blocks on the wire, joined: plain facts; split at length. -/
import Derived.Test.YtbnjijlpbeplmaaTokG
namespace Go.Proofs.Ytbnjijlpbeplmaa.TkM
open Go.ChangeShapes Go.WideShapes Go.ChangeAt Go.RowKit
open CrcM CrcB CrcL CrcQ TokA TokB TokC TokD TokE
set_option linter.unusedVariables false
set_option maxHeartbeats 1000000

def joinL (l : List (List B8)) : List B8 := l.flatMap laid
def padB (k : Nat) (x : List B8) : List B8 := x.take k ++ List.replicate (k - x.length) 0
theorem padB_len (k : Nat) (x : List B8) : (padB k x).length = k := by
  unfold padB
  rw [List.length_append, List.length_take, List.length_replicate]
  omega
theorem joinL_len (l : List (List B8)) (k : Nat) (h : ∀ x ∈ l, x.length = k) : (joinL l).length = l.length * (k + 3) := by
  induction l with
  | nil => simp [joinL]
  | cons x l ih =>
    have h1 := h x (by simp)
    have h2 := ih (fun y hy => h y (by simp [hy]))
    unfold joinL at h2 ⊢
    rw [List.flatMap_cons, List.length_append, laid_length, h1, h2, List.length_cons, Nat.add_mul, Nat.one_mul]
    omega
theorem joinL_snoc (l : List (List B8)) (j : Nat) (h : j < l.length) : joinL (l.take (j + 1)) = joinL (l.take j) ++ laid (l.getD j []) := by
  have e : l.getD j [] = l[j] := by simp [h]
  rw [e, List.take_succ_eq_append_getElem h]
  unfold joinL
  rw [List.flatMap_append, List.flatMap_singleton]

theorem rd_laid (x rest : List B8) (k : Nat) (hx : x.length = k) (hk : k ≤ 4096) : rdSpec (laid x ++ rest) (k : Int) = (x, k + 3, 0) := by
  have hl : (laid x ++ rest).length = k + 3 + rest.length := by rw [List.length_append, laid_length, hx]
  have hb : block (laid x ++ rest) k = x := by
    unfold block laid
    simp [← hx]
  have ht : (laid x ++ rest).take (k + 3) = laid x := by
    rw [List.take_append_of_le_length (by rw [laid_length, hx]; omega), List.take_of_length_le (by rw [laid_length, hx]; omega)]
  have h := (tail_sum (laid x ++ rest) k (by rw [hl]; omega)).1 (by rw [hb, ht])
  unfold rdSpec
  rw [if_neg (by intro e; rw [e] at hl; simp at hl; omega), if_neg (by intro e; rcases e with e | e; exact e h.1; omega), if_neg (by rw [hl]; omega), Int.toNat_natCast, if_neg (by simpa using h.2), hb]

theorem spl_join (k : Nat) (hk : k ≤ 4096) : ∀ (PS : List (List B8)) (pre : List B8) (f : Nat), (∀ x ∈ PS, x.length = k) → PS.length < f → spl (pre ++ joinL PS) (k : Int) f pre.length = (PS, (pre ++ joinL PS).length, 0)
  | [], pre, f, _, _ => by
    have e : pre ++ joinL [] = pre := by simp [joinL]
    rw [e]
    exact spl_end _ _ _ _ (Nat.le_refl _)
  | x :: PS, pre, f, h, hf => by
    obtain ⟨f, rfl⟩ : ∃ g, f = g + 1 := ⟨f - 1, by simp at hf; omega⟩
    have hx := h x (by simp)
    have e : pre ++ joinL (x :: PS) = (pre ++ laid x) ++ joinL PS := by simp [joinL]
    have hd : (pre ++ joinL (x :: PS)).drop pre.length = laid x ++ joinL PS := by simp [joinL]
    have hr := rd_laid x (joinL PS) k hx hk
    have hlt : pre.length < (pre ++ joinL (x :: PS)).length := by rw [e]; simp [laid_length]; omega
    rw [spl_ok _ _ _ _ hlt (by rw [hd, hr]), hd, hr]
    have ih := spl_join k hk PS (pre ++ laid x) f (fun y hy => h y (by simp [hy])) (by simp at hf; omega)
    have el : (pre ++ laid x).length = pre.length + (k + 3) := by rw [List.length_append, laid_length, hx]
    rw [el] at ih
    simp only
    rw [e, ih]

def cnt (stop : Int) (n : Nat) : Nat := if n = 0 then 0 else if stop < 1 then 1 else min n (stop + 1).toNat
theorem cnt_stop (stop : Int) (n i : Nat) (h : i < n) (h1 : i = 0 ∨ (i : Int) ≤ stop) (h2 : ¬ (i : Int) + 1 ≤ stop) : cnt stop n = i + 1 := by
  unfold cnt
  rw [if_neg (by omega)]
  split
  · omega
  · rw [Nat.min_eq_right (by omega)]; omega
theorem cnt_end (stop : Int) (n : Nat) (h1 : n = 0 ∨ (n : Int) ≤ stop) : cnt stop n = n := by
  unfold cnt
  split
  · omega
  · split
    · omega
    · exact Nat.min_eq_left (by omega)

set_option maxRecDepth 100000 in
theorem splitJ (a : Option Addr) (l : List B8) (n c : Nat) (s : Int) (w : World) (hn : l.length = n) (hr : Rd w a l) (hc : n ≤ c) (hcm : c ≤ maxLen) (ha : ∀ x, 0 < l.length → a = some x → x.block < w.heap.size) (h1 : n ≤ 100000) :
    Calls Try.prog 52 #[.slice a n c, .int .i64 s] w fun e w' => ∃ v, e = .returned (.tuple #[v, .int .i64 ((spl l s (n + 1) 0).2.1 : Int), .int .i64 ((spl l s (n + 1) 0).2.2 : Int)]) ∧ RowsOf w' w.heap.size v (spl l s (n + 1) 0).1 ∧ Below w.heap.size w w' := by
  have HR : Hid (∀ w' t b off, Below w.heap.size w w' → t < n → a = some ⟨b, off, none⟩ → Calls Try.prog 50 #[.slice (some ⟨b, off + t, none⟩) ((n - t : Nat)) (c - t), .int .i64 s] w' (Gives (rdSpec (l.drop t) s) w')) := Lib.hid fun w' t b off hb' ht ea => by
    subst ea
    have hbb : b < w.heap.size := ha ⟨b, off, none⟩ (by omega) rfl
    have hr' := Rd.below hr hb' ha
    have hrd : Rd w' (some ⟨b, off + t, none⟩) (l.drop t) := ⟨by have := hr'.1; simp; omega, fun i hi => by
      have hi' : t + i < l.length := by simp at hi; omega
      obtain ⟨b', off', e, hcl⟩ := hr'.2 (t + i) hi'
      injection e with e
      injection e with e1 e2
      subst e1 e2
      exact ⟨b, off + t, rfl, by rw [Nat.add_assoc, hcl]; simp [List.getD_eq_getElem?_getD]⟩⟩
    exact readAny _ (l.drop t) (n - t) (c - t) s w' (by simp; omega) hrd (by omega) (fun x _ e => by injection e with e; subst e; exact Nat.lt_of_lt_of_le hbb hb'.size)
  have hA : Hid (0 < n → ∃ b off, a = some ⟨b, off, none⟩) := Lib.hid fun h => by
    obtain ⟨b, off, e, _⟩ := hr.2 0 (by omega)
    exact ⟨b, off, e⟩
  have hE := Lib.hid (fun f t => spl_end l s f t)
  have hB := Lib.hid (fun f t => spl_bad l s f t)
  have hO := Lib.hid (fun f t => spl_ok l s f t)
  have hK := Lib.hid (fun t => rd_ok (l.drop t) s)
  replace hn := Lib.hid hn
  have hN := Lib.hid (RowsOf.nil w w.heap.size)
  unfold maxLen at hcm
  clear hr ha
  generalize hT : spl l s (n + 1) 0 = T
  replace hT := Lib.hid hT
  generalize spl l s = S at hE hB hO hT
  go_enter Try.func52, Try.ntmps52
  go_wp2
  go_loopw [7, 8, 9, 10, 11, 16] (fun v i _ _ _ _ wr => ∃ (t fu : Nat) (dn : List (List B8)) (v' : Value), v' = v ∧ t ≤ n ∧ n < fu + t ∧ i = .int .i64 (t : Int) ∧ T = (dn ++ (S fu t).1, (S fu t).2) ∧ dn.length ≤ t ∧ RowsOf wr w.heap.size v' dn ∧ Below w.heap.size w wr) (fun _ i _ _ _ _ _ => n - (intOf i).toNat)
  case atStart => exact ⟨0, n + 1, [], _, rfl, by omega, by omega, rfl, by rw [← hT.out]; rfl, by simp, hN.out, Below.refl _ _⟩
  case round =>
    obtain ⟨t, fu, dn, v0, hv0, ht, hf, rfl, hS, hd, hrow, hb⟩ := hrel
    subst hv0
    replace hS := Lib.hid hS
    replace hrow := Lib.hid hrow
    by_cases hlt : t < n
    · obtain ⟨b, off, rfl⟩ := hA.out (by omega)
      obtain ⟨fu, rfl⟩ : ∃ f, fu = f + 1 := ⟨fu - 1, by omega⟩
      have HC := HR.out _ t b off hb hlt rfl
      have hbad := Lib.hid (hB.out fu t (by rw [hn.out]; exact hlt))
      have hok := Lib.hid (hO.out fu t (by rw [hn.out]; exact hlt))
      have hk := hK.out t
      rw [List.length_drop, hn.out] at hk
      generalize rdSpec (l.drop t) s = r at HC hbad hok hk
      obtain ⟨x, m, q⟩ := r
      unfold Gives at HC
      simp only at HC hbad hok hk
      have hct : ¬ c = t := by omega
      have hnt : (t : Int) ≤ (n : Int) := by omega
      have htc : (t : Int) ≤ (c : Int) := by omega
      have htn' : t ≤ n := by omega
      replace HC := Lib.hid HC
      by_cases hq : q = 0
      · obtain ⟨hm0, hm1⟩ := hk hq
        have hq1 := Lib.hid (hok.out hq)
        have hqb : ((q : Int) != 0) = false := by rw [bne_eq_false_iff_eq]; omega
        replace hq := Lib.hid hq
        clear hk
        go_wp2_with fail
        refine HC.out.mono ?_
        rintro e w1 ⟨⟨a1, c1, rfl, r1, n1⟩, b1⟩
        have hO1 : Hid (One w1 (.slice a1 x.length c1) x) := Lib.hid ⟨a1, c1, rfl, r1, fun y e => (n1 y e).2⟩
        have hv1 : Hid (RowsOf w1 w.heap.size v0 dn) := Lib.hid (RowsOf.below hrow.out b1)
        have hne : Hid (∀ a n c, Value.slice a1 x.length c1 = .slice (some a) n c → v0.ownBlock ≠ some a.block) := Lib.hid fun a n c e h => by
          injection e with e1 e2 e3
          have h2 := (n1 a e1).1
          obtain ⟨vs, ho, _⟩ := hrow.out
          have := (World.ownsRow.lt ho _ h).2
          omega
        have d1 := hb.trans (b1.mono hb.size)
        clear r1 n1 b1
        go_wp2_with (at_builtin
                     refine wpList_more rfl (.tmp 30) (.tmp 32) rfl w.heap.size v0 dn rfl (RowsOf.below hv1.out ((Below.refl _ _).alloc (Nat.le_refl _) _)) (.slice a1 x.length c1) x (One.below hO1.out ((Below.refl _ _).alloc (Nat.le_refl _) _)) hne.out w1.heap.size rfl (by simp) (by omega) (by have := d1.size; simp; omega) ?_
                     intro v3 w3 hv3 hg3
                     have d3 := (d1.alloc d1.size _).grown hg3 (by have := d1.size; simp; omega) (fun k hk => by
                       obtain ⟨vs, ho, _⟩ := hv1.out
                       exact (World.ownsRow.lt ho _ hk).1)
                     replace hv3 := Lib.hid hv3
                     clear hg3)
        go_roundw
        case rel => exact ⟨t + m, fu, dn ++ [x], v3, rfl, by omega, by omega, by go_num, by rw [hS.out, hq1.out]; simp, by simp; omega, hv3.out, d3⟩
        case measure => simp [intOf]; omega
      · have hq1 := Lib.hid (hbad.out hq)
        have hqb : ((q : Int) != 0) = true := by rw [bne_iff_ne]; omega
        replace hq := Lib.hid hq
        clear hk
        have hfin : Hid (T = (dn, t, q)) := Lib.hid (by rw [hS.out, hq1.out]; simp)
        go_wp2_with (go_at_call 50; refine HC.out.mono ?_; rintro e w1 ⟨⟨a1, c1, rfl, r1, n1⟩, b1⟩)
        go_ret3
        refine ⟨v0, by rw [hfin.out]; rfl, ?_, hb.trans (b1.mono hb.size)⟩
        rw [hfin.out]
        exact RowsOf.below hrow.out b1
    · obtain rfl : t = n := by omega
      have hfin : Hid (T = (dn, t, 0)) := Lib.hid (by rw [hS.out, hE.out fu t (by rw [hn.out]; exact Nat.le_refl _)]; simp)
      go_wp2
      go_ret3
      refine ⟨v0, by rw [hfin.out]; rfl, ?_, hb⟩
      rw [hfin.out]
      exact hrow.out



end Go.Proofs.Ytbnjijlpbeplmaa.TkM
