/- Blocks on the wire: split. -/
import Derived.Test.YtbnjijlpbeplmaaTokD
namespace Go.Proofs.Ytbnjijlpbeplmaa.TokE
open Go.ChangeShapes Go.WideShapes Go.ChangeAt Go.RowKit
open CrcM CrcB CrcL CrcQ TokA TokB TokC TokD
set_option linter.unusedVariables false
set_option maxHeartbeats 1000000

/-- All blocks that stand behind one another from a place on. -/
def spl (l : List B8) (s : Int) : Nat → Nat → List (List B8) × Nat × Nat
  | 0, t => ([], t, 0)
  | f + 1, t => if t < l.length then
      if (rdSpec (l.drop t) s).2.2 = 0 then ((rdSpec (l.drop t) s).1 :: (spl l s f (t + (rdSpec (l.drop t) s).2.1)).1, (spl l s f (t + (rdSpec (l.drop t) s).2.1)).2)
      else ([], t, (rdSpec (l.drop t) s).2.2)
    else ([], t, 0)
theorem rd_ok (l : List B8) (s : Int) (h : (rdSpec l s).2.2 = 0) : 0 < (rdSpec l s).2.1 ∧ (rdSpec l s).2.1 ≤ l.length := by
  unfold rdSpec at h ⊢
  split at h
  · simp at h
  · split at h
    · simp at h
    · split at h
      · simp at h
      · split at h
        · simp at h
        · rename_i h1 h2 h3 h4
          rw [if_neg h1, if_neg h2, if_neg h3, if_neg h4]
          simp only
          omega
theorem spl_end (l : List B8) (s : Int) (f t : Nat) (h : l.length ≤ t) : spl l s f t = ([], t, 0) := by
  cases f with
  | zero => rfl
  | succ f => unfold spl; rw [if_neg (by omega)]
theorem spl_bad (l : List B8) (s : Int) (f t : Nat) (h : t < l.length) (he : (rdSpec (l.drop t) s).2.2 ≠ 0) : spl l s (f + 1) t = ([], t, (rdSpec (l.drop t) s).2.2) := by
  unfold spl; rw [if_pos h, if_neg he]
theorem spl_ok (l : List B8) (s : Int) (f t : Nat) (h : t < l.length) (he : (rdSpec (l.drop t) s).2.2 = 0) :
    spl l s (f + 1) t = ((rdSpec (l.drop t) s).1 :: (spl l s f (t + (rdSpec (l.drop t) s).2.1)).1, (spl l s f (t + (rdSpec (l.drop t) s).2.1)).2) := by
  conv => lhs; unfold spl
  rw [if_pos h, if_pos he]

/-- One of the rows that a row of rows holds. -/
def One (w : World) (v : Value) (x : List B8) : Prop := ∃ a c, v = .slice a x.length c ∧ Rd w a x ∧ ∀ y, a = some y → y.block < w.heap.size
theorem One.below {w w' : World} {v : Value} {x : List B8} (h : One w v x) (hb : Below w.heap.size w w') : One w' v x := by
  obtain ⟨a, c, e, hr, hl⟩ := h
  exact ⟨a, c, e, Rd.below hr hb (fun y _ e => hl y e), fun y e => Nat.lt_of_lt_of_le (hl y e) hb.size⟩
/-- A row of rows that reads so, of the call's own. -/
def RowsOf (w : World) (base : Nat) (v : Value) (xss : List (List B8)) : Prop :=
  ∃ vs : List Value, w.ownsRow base 24 1 v xss.length vs ∧ ∀ i, i < xss.length → ∃ u, vs[i]? = some u ∧ One w u (xss.getD i []) ∧ ∀ a n c, u = .slice (some a) n c → v.ownBlock ≠ some a.block
theorem RowsOf.nil (w : World) (base : Nat) : RowsOf w base (.slice none 0 0) [] := ⟨[], World.ownsRow_nil w base 24 1, fun i hi => absurd hi (by simp)⟩
theorem RowsOf.below {w w' : World} {base : Nat} {v : Value} {xss : List (List B8)} (h : RowsOf w base v xss) (hb : Below w.heap.size w w') : RowsOf w' base v xss := by
  obtain ⟨vs, ho, hi⟩ := h
  refine ⟨vs, World.ownsRow.kept (row := none) ho ⟨hb.os, hb.tape, hb.output, hb.size, fun k hk _ => hb.block k hk⟩ (by cases v.ownBlock <;> simp), fun i hi' => ?_⟩
  obtain ⟨u, h1, h2, h3⟩ := hi i hi'
  exact ⟨u, h1, h2.below hb, h3⟩
theorem RowsOf.shape {w : World} {base : Nat} {v : Value} {xss : List (List B8)} (h : RowsOf w base v xss) :
    ∃ a c, v = .slice a xss.length c ∧ ∀ i, i < xss.length → ∃ g u, a = some ⟨g, 0, none⟩ ∧ w.cell? ⟨g, i, none⟩ = some u ∧ One w u (xss.getD i []) := by
  obtain ⟨vs, ho, hi⟩ := h
  have ho' := ho
  rcases ho.2 with ⟨rfl, hn⟩ | ⟨g, cap, cur, rfl, hg, hh, _⟩
  · exact ⟨none, 0, by rw [hn], fun i h => by omega⟩
  · refine ⟨some ⟨g, 0, none⟩, cap, rfl, fun i h => ?_⟩
    obtain ⟨u, h1, h2, _⟩ := hi i h
    have := World.ownsRow.cells ho' (g := g) rfl i u h1
    rw [Addr.add_lit, Nat.zero_add] at this
    exact ⟨g, u, rfl, this, h2⟩

theorem info24 : (Try.prog.info? 24).map (fun i => (i.zero, i.size, i.bytes)) = some (some (.slice none 0 0), 1, 24) := by kernel_rfl
theorem i24 : ∃ i, Try.prog.info? 24 = some i ∧ i.zero = some (.slice none 0 0) ∧ i.size = 1 ∧ i.bytes = 24 := by
  obtain ⟨i, h1, h2, h3, h4⟩ := info_parts info24
  exact ⟨i, h1, h2, h3, h4⟩

/-- One row more behind a row of rows. -/
theorem run_more (w : World) (ty : TypeId) (base : Nat) (v : Value) (xss : List (List B8)) (h : RowsOf w base v xss) (u : Value) (x : List B8) (hu : One w u x) (hne : ∀ a n c, u = .slice (some a) n c → v.ownBlock ≠ some a.block) (g : Nat) (hg : w.cell? ⟨g, 0, none⟩ = some u) (hn : xss.length ≤ 100000) (hbase : base ≤ w.heap.size) :
    ∃ v' w', (Builtin.append_ #[92, 92] ty #[v, .slice (some ⟨g, 0, none⟩) 1 1]).run Try.prog w = .ok v' w' ∧ RowsOf w' base v' (xss ++ [x]) ∧ w.grownBy w' v.ownBlock := by
  obtain ⟨vs, ho, hi⟩ := h
  obtain ⟨i, hi1, hz, hs, hb⟩ := i24
  have hone : u.oneCell' = true := by
    obtain ⟨a, c, e, _⟩ := hu
    rw [e]; rfl
  obtain ⟨v', w', h1, h2, h3, _, h5⟩ := run_append_own_at (P := Try.prog) w base 92 ty 24 i (.slice none 0 0) 1 24 Try.underlying92 hi1 hz hs hb rfl (by omega) v xss.length vs ho ⟨g, 0, none⟩ 1 1 [u] rfl
    (fun j y hy => by
      have hj : j = 0 := by
        have := (List.getElem?_eq_some_iff.1 hy).1
        simpa using this
      subst hj
      have e : u = y := by simpa using hy
      rw [Addr.add_lit, ← e]; exact hg)
    (fun y hy => by have e : y = u := by simpa using hy
                    rw [e]; exact hone) (by simp only [maxLen]; omega) (by omega) hbase
  have keep : ∀ (y : Value) (z : List B8), One w y z → (∀ a n c, y = .slice (some a) n c → v.ownBlock ≠ some a.block) → One w' y z := by
    rintro y z ⟨a, c, e, hr, hl⟩ hne
    refine ⟨a, c, e, ⟨hr.1, fun j hj => ?_⟩, fun x hx => Nat.lt_of_lt_of_le (hl x hx) h3.size⟩
    obtain ⟨b, off, ea, hc⟩ := hr.2 j hj
    subst ea
    exact ⟨b, off, rfl, h3.cell hc (by have := hne _ _ _ e; simpa using Ne.symm this)⟩
  have away : ∀ (y : Value) (z : List B8), One w y z → (∀ a n c, y = .slice (some a) n c → v.ownBlock ≠ some a.block) → ∀ a n c, y = .slice (some a) n c → v'.ownBlock ≠ some a.block := by
    rintro y z ⟨a, c, e, hr, hl⟩ hne b n c' e'
    rcases h5 with h5 | h5
    · rw [h5]; exact hne b n c' e'
    · rw [h5]
      intro h6
      rw [e] at e'
      injection e' with e1 e2 e3
      have := hl b e1
      injection h6 with h6
      omega
  refine ⟨v', w', h1, ⟨vs ++ [u], by rw [List.length_append]; exact h2, fun j hj => ?_⟩, h3⟩
  have hlen : vs.length = xss.length := by simpa using ho.1
  by_cases hjl : j < xss.length
  · obtain ⟨y, e1, e2, e3⟩ := hi j hjl
    have hg2 : (xss ++ [x]).getD j [] = xss.getD j [] := by simp [List.getD_eq_getElem?_getD, List.getElem?_append_left hjl]
    rw [hg2]
    exact ⟨y, by rw [List.getElem?_append_left (by omega)]; exact e1, keep y _ e2 e3, away y _ e2 e3⟩
  · have hje : j = xss.length := by simp at hj; omega
    subst hje
    have hg2 : (xss ++ [x]).getD xss.length [] = x := by simp
    rw [hg2]
    exact ⟨u, by rw [← hlen]; simp, keep u x hu hne, away u x hu hne⟩

theorem wpList_more {ops : Array Oper} {rest : List Oper} {o : Oper} {a : Act} {w : World} {Q : Exit → Act → World → Prop} (hgd : Region.wanted o (yielded ops a.tmps) = true) (s x : Operand)
    (ho : o.op = .call { callee := .builtin .append, args := #[s, x], argTypes := #[92, 92] })
    (base : Nat) (v : Value) (xss : List (List B8)) (hs : a.eval s = v) (h : RowsOf w base v xss) (u : Value) (z : List B8) (hu : One w u z) (hne : ∀ a n c, u = .slice (some a) n c → v.ownBlock ≠ some a.block) (g : Nat) (hx : a.eval x = .slice (some ⟨g, 0, none⟩) 1 1) (hg : w.cell? ⟨g, 0, none⟩ = some u) (hn : xss.length ≤ 100000) (hbase : base ≤ w.heap.size)
    (hK : ∀ v' w', RowsOf w' base v' (xss ++ [z]) → w.grownBy w' v.ownBlock → wpList Try.prog ops Q rest (a.put o.dst v') w') : wpList Try.prog ops Q (o :: rest) a w :=
  BigFrame.wpList_want hgd fun _ hK' => by
    obtain ⟨v', w', hrun, h2, h3⟩ := run_more w o.type base v xss h u z hu hne g hg hn hbase
    unfold Oper.wp execOp
    simp only [ho, resolve, invoke, builtin, Sem.run_bind, Sem.run_pure, Result.andThen_ok, List.map_toArray, List.map_cons, List.map_nil, hs, hx, hrun]
    exact hK' _ _ (hK v' w' h2 h3)
end Go.Proofs.Ytbnjijlpbeplmaa.TokE
