/- The law of parts: its facts. -/
import Derived.Test.YtlfohiejlajmaaaDoorShW
namespace Go.Proofs.YtlfohiejlajmaaaDoor.ShY
open Go.ChangeShapes Go.WideShapes Go.ChangeAt Go.RowKit
open ShM ShA ShB ShC ShD ShE ShF ShG ShH ShI ShJ ShK ShL ShN ShO ShP ShQ ShR ShS ShU Mem
open ShT (Rd vals vals_length vals_one)
set_option linter.unusedVariables false
set_option maxHeartbeats 2000000

/-- Rows of bytes, in a row of the call's own; each lies where the call began. -/
def Prts (w0 w : World) (base : Nat) (v : Value) (xss : List (List ShM.B8)) : Prop :=
  ∃ vs : List Value, w.ownsRow base 22 1 v xss.length vs ∧ ∀ i, i < xss.length → ∃ u, vs[i]? = some u ∧ ShN.One w0 u (xss.getD i [])
theorem Prts.nil (w0 w : World) (base : Nat) : Prts w0 w base (.slice none 0 0) [] := ⟨[], World.ownsRow_nil w base 22 1, fun i hi => absurd hi (by simp)⟩
theorem Prts.gb {w0 w w' : World} {base : Nat} {v : Value} {xss : List (List ShM.B8)} {row : Option Nat} (h : Prts w0 w base v xss) (hg : w.grownBy w' row) (hne : v.ownBlock = none ∨ v.ownBlock ≠ row) : Prts w0 w' base v xss := by
  obtain ⟨vs, ho, hi⟩ := h
  exact ⟨vs, World.ownsRow.kept (row := row) ho hg hne, hi⟩
theorem Prts.blocks {w0 w : World} {base : Nat} {v : Value} {xss : List (List ShM.B8)} (h : Prts w0 w base v xss) : ∀ k, v.ownBlock = some k → base ≤ k ∧ k < w.heap.size := by
  obtain ⟨vs, ho, _⟩ := h
  exact World.ownsRow.lt ho
theorem Prts.alloc {w0 w : World} {base : Nat} {v : Value} {xss : List (List ShM.B8)} (h : Prts w0 w base v xss) (o : Obj) : Prts w0 (w.alloc o) base v xss := by
  obtain ⟨vs, ho, hi⟩ := h
  exact ⟨vs, World.ownsRow.alloc ho o, hi⟩
theorem Prts.shape {w0 w : World} {base : Nat} {v : Value} {xss : List (List ShM.B8)} (h : Prts w0 w base v xss) (hb : Below w0.heap.size w0 w) : ∃ a c, v = .slice a xss.length c ∧ Arg w a xss := by
  obtain ⟨vs, ho, hi⟩ := h
  have ho' := ho
  rcases ho.2 with ⟨rfl, hn⟩ | ⟨g, cap, cur, rfl, hg, hh, _⟩
  · exact ⟨none, 0, by rw [hn], fun i h => by omega⟩
  · refine ⟨some ⟨g, 0, none⟩, cap, rfl, fun i h => ?_⟩
    obtain ⟨u, h1, h2⟩ := hi i h
    have := World.ownsRow.cells ho' (g := g) rfl i u h1
    rw [Addr.add_lit] at this
    have hl := (World.ownsRow.lt ho' g rfl).2
    exact ⟨g, 0, u, rfl, this, hl, h2.below hb⟩
theorem info22 : (Tryd.prog.info? 22).map (fun i => (i.zero, i.size, i.bytes)) = some (some (.slice none 0 0), 1, 24) := by kernel_rfl
theorem i22 : ∃ i, Tryd.prog.info? 22 = some i ∧ i.zero = some (.slice none 0 0) ∧ i.size = 1 ∧ i.bytes = 24 := by
  obtain ⟨i, h1, h2, h3, h4⟩ := info_parts info22
  exact ⟨i, h1, h2, h3, h4⟩
/-- One row more. -/
theorem run_more (w0 w : World) (ty : TypeId) (base : Nat) (v : Value) (xss : List (List ShM.B8)) (h : Prts w0 w base v xss) (u : Value) (x : List ShM.B8) (hu : ShN.One w0 u x) (g : Nat) (hg : w.cell? ⟨g, 0, none⟩ = some u) (hn : xss.length ≤ 100000) (hbase : base ≤ w.heap.size) :
    ∃ v' w', (Builtin.append_ #[23, 23] ty #[v, .slice (some ⟨g, 0, none⟩) 1 1]).run Tryd.prog w = .ok v' w' ∧ Prts w0 w' base v' (xss ++ [x]) ∧ w.grownBy w' v.ownBlock := by
  obtain ⟨vs, ho, hi⟩ := h
  obtain ⟨i, hi1, hz, hs, hb⟩ := i22
  have hone : u.oneCell' = true := by
    obtain ⟨a, c, e, _⟩ := hu
    rw [e]; rfl
  obtain ⟨v', w', h1, h2, h3, _, h5⟩ := run_append_own_at (P := Tryd.prog) w base 23 ty 22 i (.slice none 0 0) 1 24 Tryd.underlying23 hi1 hz hs hb rfl (by omega) v xss.length vs ho ⟨g, 0, none⟩ 1 1 [u] rfl
    (fun j y hy => by
      have hj : j = 0 := by
        have := (List.getElem?_eq_some_iff.1 hy).1
        simpa using this
      subst hj
      have e : u = y := by simpa using hy
      rw [Addr.add_lit, ← e]; exact hg)
    (fun y hy => by have e : y = u := by simpa using hy
                    rw [e]; exact hone) (by simp only [maxLen]; omega) (by omega) hbase
  refine ⟨v', w', h1, ⟨vs ++ [u], by rw [List.length_append]; exact h2, fun j hj => ?_⟩, h3⟩
  have hlen : vs.length = xss.length := by simpa using ho.1
  by_cases hjl : j < xss.length
  · obtain ⟨y, e1, e2⟩ := hi j hjl
    have hg2 : (xss ++ [x]).getD j [] = xss.getD j [] := by simp [List.getD_eq_getElem?_getD, List.getElem?_append_left hjl]
    rw [hg2]
    exact ⟨y, by rw [List.getElem?_append_left (by omega)]; exact e1, e2⟩
  · have hje : j = xss.length := by simp at hj; omega
    subst hje
    have hg2 : (xss ++ [x]).getD xss.length [] = x := by simp
    rw [hg2]
    exact ⟨u, by rw [← hlen]; simp, hu⟩
theorem wpList_more {ops : Array Oper} {rest : List Oper} {o : Oper} {a : Act} {w : World} {Q : Exit → Act → World → Prop} (hgd : Region.wanted o (yielded ops a.tmps) = true) (s x : Operand)
    (ho : o.op = .call { callee := .builtin .append, args := #[s, x], argTypes := #[23, 23] })
    (w0 : World) (base : Nat) (v : Value) (xss : List (List ShM.B8)) (hs : a.eval s = v) (h : Prts w0 w base v xss) (u : Value) (z : List ShM.B8) (hu : ShN.One w0 u z) (g : Nat) (hx : a.eval x = .slice (some ⟨g, 0, none⟩) 1 1) (hg : w.cell? ⟨g, 0, none⟩ = some u) (hn : xss.length ≤ 100000) (hbase : base ≤ w.heap.size)
    (hK : ∀ v' w', Prts w0 w' base v' (xss ++ [z]) → w.grownBy w' v.ownBlock → wpList Tryd.prog ops Q rest (a.put o.dst v') w') : wpList Tryd.prog ops Q (o :: rest) a w :=
  BigFrame.wpList_want hgd fun _ hK' => by
    obtain ⟨v', w', hrun, h2, h3⟩ := run_more w0 w o.type base v xss h u z hu g hg hn hbase
    unfold Oper.wp execOp
    simp only [ho, resolve, invoke, builtin, Sem.run_bind, Sem.run_pure, Result.andThen_ok, List.map_toArray, List.map_cons, List.map_nil, hs, hx, hrun]
    exact hK' _ _ (hK v' w' h2 h3)
/-- A digest stays where another block is written. -/
theorem Dd.gb {w w' : World} {g : Nat} {K : Option (List ShM.B8)} {m : List ShM.B8} {row : Option Nat} (h : Dd w g K m) (hg : w.grownBy w' row) (hne : row ≠ some g) : Dd w' g K m := by
  obtain ⟨t, f, o, hd, h2⟩ := h
  have hne' : some g ≠ row := fun e => hne e.symm
  have hc : ∀ i, w'.cell? ⟨g, i, none⟩ = w.cell? ⟨g, i, none⟩ := fun i => hg.cell_far ⟨g, i, none⟩ hd.lt hne'
  have hf : ∀ i, w'.frozen? ⟨g, i, none⟩ = w.frozen? ⟨g, i, none⟩ := fun i => hg.frozen_far ⟨g, i, none⟩ hd.lt hne'
  exact ⟨t, f, o, ⟨Nat.lt_of_lt_of_le hd.lt hg.size, fun j v hj => (hc _).trans (hd.b j v hj), fun j v hj => (hc _).trans (hd.first j v hj), fun j v hj => (hc _).trans (hd.outer j v hj), (hc _).trans hd.keyed, fun j hj => by rw [hc, hf]; exact hd.there j hj⟩, h2⟩
/-- A part of a row that came in. -/
theorem One.mid {w : World} {b off n c : Nat} {l : List ShM.B8} (h : ShN.One w (.slice (some ⟨b, off, none⟩) n c) l) (A E : Nat) (hA : A ≤ E) (hE : E ≤ l.length) (hlt : A < l.length) : ShN.One w (.slice (some ⟨b, off + A, none⟩) (E - A) (c - A)) ((l.drop A).take (E - A)) := by
  obtain ⟨a', c', e, hr, h1, h2, h3⟩ := h
  injection e with e1 e2 e3
  subst e1 e3
  have hl : ((l.drop A).take (E - A)).length = E - A := by rw [List.length_take, List.length_drop]; omega
  refine ⟨some ⟨b, off + A, none⟩, c - A, by rw [hl], ⟨by have := hr.1; omega, fun i hi => ⟨b, off + A, rfl, ?_⟩⟩, by omega, by omega, fun y h0 e => ?_⟩
  · rw [hl] at hi
    obtain ⟨b', off', e, hc⟩ := hr.2 (A + i) (by omega)
    injection e with e
    injection e with e1 e2
    subst e1 e2
    rw [Nat.add_assoc, hc]
    simp [hi]
  · injection e with e
    subst e
    exact h3 ⟨b, off, none⟩ (by omega) rfl
theorem take_mid (l : List ShM.B8) (A E : Nat) (hA : A ≤ E) : l.take A ++ (l.drop A).take (E - A) = l.take E := by
  rw [← List.take_add, Nat.add_sub_cancel' hA]
theorem One.sr {w0 w : World} {g : Nat} {a : Option Addr} {n c : Nat} {l : List ShM.B8} (h : ShN.One w0 (.slice a n c) l) (hb : Below w0.heap.size w0 w) (hg : w0.heap.size ≤ g) : Sr w g a l ∧ l.length = n ∧ n ≤ c ∧ c ≤ maxLen := by
  obtain ⟨a', c', e, hr, h1, h2, h3⟩ := h
  injection e with e1 e2 e3
  subst e1 e2 e3
  exact ⟨⟨ShT.Rd.below hr hb h3, fun x h0 e => ⟨by have := h3 x h0 e; have := hb.size; omega, by have := h3 x h0 e; omega⟩⟩, rfl, h1, h2⟩
theorem eqSame {ops : Array Oper} {rest : List Oper} {op : Oper} {a : Act} {w : World} {Q : Exit → Act → World → Prop} (x y : Operand) (ho : op.op = .binOp .eql 28 x y 28) (A : Array Value) (hA : ∃ l, A = b32 l) (h1 : a.eval x = .agg A) (h2 : a.eval y = .agg A) (hgd : Region.wanted op (yielded ops a.tmps) = true)
    (h : wpList Tryd.prog ops Q rest (a.put op.dst (.bool true)) w) : wpList Tryd.prog ops Q (op :: rest) a w :=
  BigFrame.wpList_want hgd fun _ hK => by
    obtain ⟨l, rfl⟩ := hA
    have hg := gEql x y (b32 l) (b32 l) w
    have he := eql28 l l w
    rw [decide_eq_true (fun _ _ => rfl)] at he
    unfold Oper.wp execOp
    simp only [ho, h1, h2, Sem.run_bind, Sem.run_pure, Result.andThen_ok, hg, he]
    exact hK _ _ h
end Go.Proofs.YtlfohiejlajmaaaDoor.ShY
