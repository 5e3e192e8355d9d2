/- What is set once stays: plain facts. -/
import Derived.Test.YtnkbopmghekjdaaRegG
namespace Go.Proofs.Ytnkbopmghekjdaa.RegH
open Go.ChangeShapes Go.WideShapes Go.ChangeAt Go.RowKit
open RegA Mem RegB RegC RegD RegE RegF RegG
set_option linter.unusedVariables false
set_option maxHeartbeats 1000000

theorem reg_set (st : List Int) (n j v : Int) (hn : 0 ≤ n) (hj : 0 ≤ j) (hl : n.toNat < st.length) : reg (st.set n.toNat v) j = if j = n then v else reg st j := by
  unfold reg
  by_cases h : j = n
  · subst h
    rw [if_pos rfl]
    simp [hl]
  · rw [if_neg h]
    have : n.toNat ≠ j.toNat := by omega
    simp [this]

theorem writeS_cases (st : List Int) (n v : Int) : (writeS st n v).2 = st ∨ ((writeS st n v).2 = st.set n.toNat v ∧ mayB n v = true ∧ 0 ≤ n ∧ n ≤ 34 ∧
    (kind n = 1 ∨ (kind n = 3 ∧ ((n = 6 ∨ n = 13) → an (reg st n) v = 0) ∧ (¬ (n = 6 ∨ n = 13) → reg st 13 = 0)))) := by
  unfold writeS
  by_cases h0 : kind n = 0 ∨ kind n = 4
  · rw [if_pos h0]; exact .inl rfl
  · rw [if_neg h0]
    obtain ⟨b0, b1⟩ := kind_bd (n := n) (fun e => h0 (.inl e))
    cases hm : mayB n v with
    | false => rw [if_pos rfl]; exact .inl rfl
    | true =>
      rw [if_neg (by simp)]
      by_cases h1 : kind n = 1
      · rw [if_pos h1]; exact .inr ⟨rfl, rfl, b0, b1, .inl h1⟩
      · rw [if_neg h1]
        by_cases h2 : kind n = 2
        · rw [if_pos h2]; exact .inl rfl
        · rw [if_neg h2]
          have h3 : kind n = 3 := by have := kind_cases n; omega
          unfold fixS
          by_cases h6 : n = 6 ∨ n = 13
          · rw [if_pos h6]
            by_cases hz : an (reg st n) v = 0
            · rw [if_neg (by simpa using hz)]; exact .inr ⟨rfl, rfl, b0, b1, .inr ⟨h3, fun _ => hz, fun h => absurd h6 h⟩⟩
            · rw [if_pos hz]; exact .inl rfl
          · rw [if_neg h6]
            by_cases hz : reg st 13 = 0
            · rw [if_neg (by simpa using hz)]; exact .inr ⟨rfl, rfl, b0, b1, .inr ⟨h3, fun h => absurd h h6, fun _ => hz⟩⟩
            · rw [if_pos hz]; exact .inl rfl

theorem kind1 {n : Int} (h : kind n = 1) : n = 0 ∨ n = 1 ∨ n = 5 := by
  unfold kind at h
  (repeat' split at h) <;> first | assumption | (exact absurd h (by decide))
theorem kind4 {n : Int} (h : kind n = 4) : 32 ≤ n ∧ n ≤ 34 := by
  unfold kind at h
  (repeat' split at h) <;> first | assumption | (exact absurd h (by decide))
theorem may13 {v : Int} (h : mayB 13 v = true) : v ≤ 1 := by
  unfold mayB at h
  rw [if_neg (by omega), if_pos (by omega)] at h
  exact of_decide_eq_true h
theorem may6 {v : Int} (h : mayB 6 v = true) : v ≤ 3 := by
  unfold mayB at h
  rw [if_neg (by omega), if_neg (by omega), if_neg (by omega), if_pos (by omega)] at h
  exact of_decide_eq_true h

/-- While registers are set. -/
def Inv (st : List Int) : Prop := st.length = 64 ∧ (reg st 13 = 0 ∨ reg st 13 = 1) ∧ 0 ≤ reg st 6 ∧ reg st 6 ≤ 3
theorem Inv.zeros : Inv zeros := by
  refine ⟨rfl, .inl (by decide), by decide, by decide⟩
theorem Inv.write {st : List Int} (h : Inv st) (n v : Int) (hv : 0 ≤ v) : Inv (writeS st n v).2 := by
  rcases writeS_cases st n v with e | ⟨e, hm, b0, b1, _⟩
  · rw [e]; exact h
  · rw [e]
    obtain ⟨h1, h2, h3, h4⟩ := h
    have hl : n.toNat < st.length := by omega
    refine ⟨by rw [List.length_set]; exact h1, ?_, ?_, ?_⟩
    · rw [reg_set st n 13 v b0 (by omega) hl]
      split
      · rename_i hh
        subst hh
        have := may13 hm
        omega
      · exact h2
    · rw [reg_set st n 6 v b0 (by omega) hl]
      split
      · exact hv
      · exact h3
    · rw [reg_set st n 6 v b0 (by omega) hl]
      split
      · rename_i hh
        subst hh
        exact may6 hm
      · exact h4
theorem Inv.writes {l : List RegG.Act} (hv : ∀ y ∈ l, 0 ≤ y.v) : Inv (writes l RegE.zeros) := by
  suffices H : ∀ (l : List RegG.Act) (st : List Int), (∀ y ∈ l, 0 ≤ y.v) → Inv st → Inv (l.foldl (fun s x => (writeS s x.n x.v).2) st) from H l _ hv Inv.zeros
  intro l
  induction l with
  | nil => intro st _ h; exact h
  | cons x l ih => intro st hl h; exact ih _ (fun y hy => hl y (by simp [hy])) (h.write x.n x.v (hl x (by simp)))

theorem done (st : List Int) (h : Inv st) : (writeS st 13 1).2 = st.set 13 1 := by
  have e : writeS st 13 1 = fixS st 13 1 := by
    unfold writeS
    rw [if_neg (by decide), if_neg (by decide), if_neg (by decide), if_neg (by decide)]
  rw [e]
  unfold fixS
  rw [if_pos (by omega)]
  have : an (reg st 13) 1 = 0 := by
    rcases h.2.1 with h | h <;> rw [h] <;> decide
  rw [if_neg (by simpa using this)]
  rfl

theorem an_trans (a b c : Int) (a0 : 0 ≤ a) (a1 : a ≤ 3) (b0 : 0 ≤ b) (b1 : b ≤ 3) (c0 : 0 ≤ c) (c1 : c ≤ 3) (h1 : an a b = 0) (h2 : an b c = 0) : an a c = 0 := by
  have H : ∀ a b c : Fin 4, an (a.val : Int) (b.val : Int) = 0 → an (b.val : Int) (c.val : Int) = 0 → an (a.val : Int) (c.val : Int) = 0 := by decide +kernel
  have := H ⟨a.toNat, by omega⟩ ⟨b.toNat, by omega⟩ ⟨c.toNat, by omega⟩
  simp only [Int.toNat_of_nonneg a0, Int.toNat_of_nonneg b0, Int.toNat_of_nonneg c0] at this
  exact this h1 h2
theorem an_self (a : Int) (a0 : 0 ≤ a) (a1 : a ≤ 3) : an a a = 0 := by
  have H : ∀ a : Fin 4, an (a.val : Int) (a.val : Int) = 0 := by decide +kernel
  have := H ⟨a.toNat, by omega⟩
  simpa only [Int.toNat_of_nonneg a0] using this

/-- When all is done: s was so, st is so now. -/
def Inv2 (s st : List Int) : Prop := st.length = 64 ∧ reg st 13 = 1 ∧ (∀ j : Int, 8 ≤ j → j ≤ 12 → reg st j = reg s j) ∧ an (reg s 6) (reg st 6) = 0 ∧ 0 ≤ reg st 6 ∧ reg st 6 ≤ 3 ∧ 0 ≤ reg s 6 ∧ reg s 6 ≤ 3
theorem Inv2.start {st : List Int} (h : Inv st) : Inv2 (st.set 13 1) (st.set 13 1) := by
  obtain ⟨h1, _, h3, h4⟩ := h
  have e : reg (st.set 13 1) 6 = reg st 6 := by
    have := reg_set st 13 6 1 (by omega) (by omega) (by rw [h1]; decide)
    rw [if_neg (by omega)] at this
    exact this
  refine ⟨by rw [List.length_set]; exact h1, ?_, fun _ _ _ => rfl, ?_, ?_, ?_, ?_, ?_⟩
  · have := reg_set st 13 13 1 (by omega) (by omega) (by rw [h1]; decide)
    rw [if_pos rfl] at this
    exact this
  · rw [e]; exact an_self _ h3 h4
  all_goals (rw [e]; assumption)
theorem Inv2.keep {s st st' : List Int} (h : Inv2 s st) (hl : st'.length = 64) (hr : ∀ j : Int, 6 ≤ j → j ≤ 13 → reg st' j = reg st j) : Inv2 s st' := by
  obtain ⟨h1, h2, h3, h4, h5, h6, h7, h8⟩ := h
  refine ⟨hl, by rw [hr 13 (by omega) (by omega)]; exact h2, fun j a b => by rw [hr j (by omega) (by omega)]; exact h3 j a b, ?_, ?_, ?_, h7, h8⟩ <;> (rw [hr 6 (by omega) (by omega)]; assumption)
theorem Inv2.write {s st : List Int} (h : Inv2 s st) (n v : Int) (hv : 0 ≤ v) : Inv2 s (writeS st n v).2 := by
  rcases writeS_cases st n v with e | ⟨e, hm, b0, b1, hk⟩
  · rw [e]; exact h
  · rw [e]
    have hl : n.toNat < st.length := by have := h.1; omega
    have hlen : (st.set n.toNat v).length = 64 := by rw [List.length_set]; exact h.1
    rcases hk with hk | ⟨hk, hk1, hk2⟩
    · refine h.keep hlen fun j a b => ?_
      have := kind1 hk
      rw [reg_set st n j v b0 (by omega) hl, if_neg (by omega)]
    · by_cases h6 : n = 6 ∨ n = 13
      · rcases h6 with rfl | rfl
        · have hz := hk1 (.inl rfl)
          have hv3 := may6 hm
          obtain ⟨q1, q2, q3, q4, q5, q6, q7, q8⟩ := h
          have e6 : reg (st.set (6 : Int).toNat v) 6 = v := by rw [reg_set st 6 6 v (by omega) (by omega) hl, if_pos rfl]
          refine ⟨hlen, ?_, fun j a b => ?_, ?_, ?_, ?_, q7, q8⟩
          · rw [reg_set st 6 13 v (by omega) (by omega) hl, if_neg (by omega)]; exact q2
          · rw [reg_set st 6 j v (by omega) (by omega) hl, if_neg (by omega)]; exact q3 j a b
          · rw [e6]; exact an_trans _ _ _ q7 q8 q5 q6 hv hv3 q4 hz
          · rw [e6]; exact hv
          · rw [e6]; exact hv3
        · have hz := hk1 (.inr rfl)
          have hv1 := may13 hm
          rw [h.2.1] at hz
          have hv' : v = 1 := by
            rcases (show v = 0 ∨ v = 1 by omega) with rfl | rfl
            · exact absurd hz (by decide)
            · rfl
          subst hv'
          refine h.keep hlen fun j a b => ?_
          rw [reg_set st 13 j 1 (by omega) (by omega) hl]
          split
          · rename_i hh
            rw [hh, h.2.1]
          · rfl
      · have := hk2 h6
        rw [h.2.1] at this
        exact absurd this (by decide)
theorem Inv2.show_ {s st : List Int} (h : Inv2 s st) (n v : Int) : Inv2 s (showS st n v) := by
  unfold showS
  by_cases hk : kind n = 4
  · rw [if_pos hk]
    have := kind4 hk
    have hl : n.toNat < st.length := by have := h.1; omega
    refine h.keep (by rw [List.length_set]; exact h.1) fun j a b => ?_
    rw [reg_set st n j v (by omega) (by omega) hl, if_neg (by omega)]
  · rw [if_neg hk]; exact h
theorem up_keep (st : List Int) (hl : st.length = 64) (k : Nat) (hk : k ≤ 64) : (upS st k).length = 64 ∧ ∀ j : Int, 6 ≤ j → j ≤ 13 → reg (upS st k) j = reg st j := by
  induction k with
  | zero => exact ⟨hl, fun _ _ _ => rfl⟩
  | succ k ih =>
    obtain ⟨h1, h2⟩ := ih (by omega)
    unfold upS
    split
    · rename_i hh
      have := kind1 hh
      refine ⟨by rw [List.length_set]; exact h1, fun j a b => ?_⟩
      have e := reg_set (upS st k) k j 0 (by omega) (by omega) (by omega)
      rw [if_neg (by omega)] at e
      exact e.trans (h2 j a b)
    · exact ⟨h1, h2⟩
theorem Inv2.power {s st : List Int} (h : Inv2 s st) : Inv2 s (powerS st) := by
  obtain ⟨h1, h2⟩ := up_keep st h.1 64 (by omega)
  exact h.keep h1 h2

theorem Inv2.last {s st : List Int} (h : Inv2 s st) (hs : reg s 13 = 1) (i : Nat) (h1 : 1 ≤ i) (h7 : i < 7) : (lastK st 7).getD i 0 = (lastK s 7).getD i 0 := by
  have e : ∀ t : List Int, (lastK t 7).getD i 0 = reg t (lk i : Int) := fun t => by
    simp [lastK, h7, reg]
  rw [e, e]
  by_cases h6 : i = 6
  · subst h6
    show reg st 13 = reg s 13
    rw [hs, h.2.1]
  · refine h.2.2.1 _ ?_ ?_
    · match i, h1, h7 with
      | 1, _, _ => decide
      | 2, _, _ => decide
      | 3, _, _ => decide
      | 4, _, _ => decide
      | 5, _, _ => decide
      | 6, _, _ => decide
    · match i, h1, h7 with
      | 1, _, _ => decide
      | 2, _, _ => decide
      | 3, _, _ => decide
      | 4, _, _ => decide
      | 5, _, _ => decide
      | 6, _, _ => exact absurd rfl h6
end Go.Proofs.Ytnkbopmghekjdaa.RegH
