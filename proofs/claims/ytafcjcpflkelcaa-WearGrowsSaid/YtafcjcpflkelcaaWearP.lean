/- Appends of numbers to a row of the call's own; a number that is written. -/
import Derived.Test.YtafcjcpflkelcaaWearN
import Derived.Maps.AppendAt
import Derived.OwnWalk
import Derived.Deep.Draws
import Derived.Laws.Rows
namespace Go.Proofs.Ytafcjcpflkelcaa.WearP
open Go.ChangeShapes Go.WideShapes Go.ChangeAt Go.RowKit
open WearM WearA WearN
set_option linter.unusedVariables false
set_option maxHeartbeats 1000000

theorem info3 : (Try.prog.info? 3).map (fun i => (i.zero, i.size, i.bytes)) = some (some (.int .i64 0), 1, 8) := by kernel_rfl
theorem i3 : ∃ i, Try.prog.info? 3 = some i ∧ i.zero = some (.int .i64 0) ∧ i.size = 1 ∧ i.bytes = 8 := by
  obtain ⟨i, h1, h2, h3, h4⟩ := info_parts info3
  exact ⟨i, h1, h2, h3, h4⟩

def vals (l : List Int) : List Value := l.map fun x => Value.int .i64 x
theorem vals_append (a b : List Int) : vals (a ++ b) = vals a ++ vals b := by simp [vals]
theorem vals_length (l : List Int) : (vals l).length = l.length := by simp [vals]
theorem vals_one (l : List Int) : ∀ u ∈ vals l, u.oneCell' = true := by
  intro u hu
  obtain ⟨x, _, rfl⟩ := List.mem_map.1 hu
  rfl
def Own (w : World) (base : Nat) (v : Value) (xs : List Int) : Prop := w.ownsRow base 3 1 v xs.length (vals xs)

theorem lt_of_heap {w : World} {g : Nat} {o : Obj} (h : w.heap[g]? = some o) : g < w.heap.size := by
  rcases Nat.lt_or_ge g w.heap.size with h' | h'
  · exact h'
  · rw [Array.getElem?_eq_none h'] at h; cases h

theorem Own.shape {w : World} {base : Nat} {v : Value} {xs : List Int} (h : Own w base v xs) :
    (xs = [] ∧ ∃ c, v = .slice none 0 c) ∨ ∃ g c cur, v = .slice (some ⟨g, 0, none⟩) xs.length c ∧ base ≤ g ∧ w.heap[g]? = some (.cells cur 3 (0, 0)) ∧ cur.size = c ∧ xs.length ≤ c ∧ c ≤ maxLen ∧ cur.toList.take xs.length = vals xs := by
  obtain ⟨hl, h2⟩ := h
  rcases h2 with ⟨rfl, hn⟩ | ⟨g, cap, cur, rfl, hg, hh, hnc, hcm, hcs, ht⟩
  · exact .inl ⟨List.eq_nil_of_length_eq_zero hn, 0, rfl⟩
  · exact .inr ⟨g, cap, cur, rfl, hg, hh, by omega, hnc, hcm, by simpa using ht⟩

theorem Own.cell {w : World} {base g c n : Nat} {xs : List Int} (h : Own w base (.slice (some ⟨g, 0, none⟩) n c) xs) (i : Nat) (hi : i < xs.length) : w.cell? ⟨g, i, none⟩ = some (.int .i64 (xs.getD i 0)) := by
  have hc := World.ownsRow.cells h (g := g) rfl i (.int .i64 (xs.getD i 0)) (by simp [vals, hi])
  simpa [Addr.add_lit] using hc
theorem Own.free {w : World} {base g c n : Nat} {xs : List Int} (h : Own w base (.slice (some ⟨g, 0, none⟩) n c) xs) (i : Nat) : w.frozen? ⟨g, i, none⟩ = false := by
  rcases h.shape with ⟨_, c', e⟩ | ⟨g', c', cur, e, _, hh, _⟩
  · cases e
  · injection e with e1; injection e1 with e1; injection e1 with e1
    subst e1
    simp [World.frozen?, hh]
theorem Own.put {w : World} {base g c n : Nat} {xs : List Int} (h : Own w base (.slice (some ⟨g, 0, none⟩) n c) xs) (j : Nat) (hj : j < xs.length) (y : Int) :
    Own (w.setCell ⟨g, j, none⟩ (.int .i64 y)) base (.slice (some ⟨g, 0, none⟩) n c) (xs.set j y) := by
  rcases h.shape with ⟨_, c', e⟩ | ⟨g', c', cur, e, hg, hh, hs, hnc, hcm, ht⟩
  · cases e
  · injection e with e1 e2 e3; injection e1 with e1; injection e1 with e1
    subst e1 e3
    refine ⟨by rw [vals_length, List.length_set]; omega, .inr ⟨g, c, cur.setIfInBounds j (.int .i64 y), by rw [List.length_set, ← e2], hg, by simp [World.setCell, Array.getElem?_modify, hh], by rw [List.length_set]; omega, hcm, by simp [hs], ?_⟩⟩
    rw [List.length_set, Array.toList_setIfInBounds]
    have hv : vals (xs.set j y) = (vals xs).set j (.int .i64 y) := by simp [vals, List.map_set]
    rw [hv, ← ht, List.take_set, Nat.mul_one]

theorem news_of (w : World) (b off : Nat) (l : List Int) (hr : Rd w (some ⟨b, off, none⟩) l) (j : Nat) (u : Value) (hu : (vals l)[j]? = some u) : w.cell? ((⟨b, off, none⟩ : Addr).add j) = some u := by
  have hj : j < l.length := by have := (List.getElem?_eq_some_iff.1 hu).1; rw [vals_length] at this; exact this
  obtain ⟨b', off', e, hc⟩ := hr.2.1 j hj
  injection e with e
  injection e with e1 e2
  subst e1 e2
  rw [Addr.add_lit, hc, ← hu]
  simp [vals, hj]

theorem run_app (w : World) (ty : TypeId) (base : Nat) (b off : Nat) (l : List Int) (c : Nat) (v : Value) (h : Own w base v []) (hr : Rd w (some ⟨b, off, none⟩) l)
    (hroom : l.length ≤ 1000000) (hbase : base ≤ w.heap.size) :
    ∃ v' w', (Builtin.append_ #[59, 59] ty #[v, .slice (some ⟨b, off, none⟩) l.length c]).run Try.prog w = .ok v' w' ∧ Own w' base v' l ∧ w.grownBy w' v.ownBlock := by
  obtain ⟨i, hi, hz, hs, hb⟩ := i3
  have hm : 0 + l.length ≤ maxLen := by simp only [maxLen]; omega
  have hbt : (0 + l.length) * 8 ≤ 140737488355328 := by omega
  obtain ⟨v', w', h1, h2, h3, _, h5⟩ := run_append_own_at (P := Try.prog) w base 59 ty 3 i (.int .i64 0) 1 8 Try.underlying59 hi hz hs hb rfl (by omega) v 0 [] h ⟨b, off, none⟩ l.length c (vals l) (by rw [vals_length, Nat.mul_one]) (news_of w b off l hr) (vals_one l) hm hbt hbase
  refine ⟨v', w', h1, ?_, h3⟩
  unfold Own
  rw [Nat.zero_add, List.nil_append] at h2
  exact h2

theorem wpList_app {ops : Array Oper} {rest : List Oper} {o : Oper} {a : Act} {w : World} {Q : Exit → Act → World → Prop} (hgd : Region.wanted o (yielded ops a.tmps) = true) (s x : Operand)
    (ho : o.op = .call { callee := .builtin .append, args := #[s, x], argTypes := #[59, 59] })
    (base : Nat) (v : Value) (hs : a.eval s = v) (h : Own w base v []) (b off : Nat) (l : List Int) (n c : Nat) (hx : a.eval x = .slice (some ⟨b, off, none⟩) n c) (hn : l.length = n) (hr : Rd w (some ⟨b, off, none⟩) l)
    (hpos : 0 < n) (hroom : n ≤ 1000000) (hbase : base ≤ w.heap.size)
    (hK : ∀ g c' w', Own w' base (.slice (some ⟨g, 0, none⟩) n c') l → w.grownBy w' v.ownBlock → base ≤ g → wpList Try.prog ops Q rest (a.put o.dst (.slice (some ⟨g, 0, none⟩) n c')) w') : wpList Try.prog ops Q (o :: rest) a w := by
  subst hn
  refine BigFrame.wpList_want hgd fun _ hK' => ?_
  obtain ⟨v', w', hrun, h2, h3⟩ := run_app w o.type base b off l c v h hr hroom hbase
  unfold Oper.wp execOp
  simp only [ho, resolve, invoke, builtin, Sem.run_bind, Sem.run_pure, Result.andThen_ok, List.map_toArray, List.map_cons, List.map_nil, hs, hx, hrun]
  rcases h2.shape with ⟨e, _⟩ | ⟨g, c', cur, rfl, hg, _⟩
  · have e0 : l.length = 0 := by rw [e]; rfl
    omega
  · exact hK' _ _ (hK g c' w' h2 h3 hg)

theorem Own.made (w : World) (base : Nat) (hb : base ≤ w.heap.size) : Own (w.alloc (.cells #[] 3)) base (.slice (some ⟨w.heap.size, 0, none⟩) 0 0) [] :=
  ⟨by simp [vals], .inr ⟨w.heap.size, 0, #[], rfl, hb, heap_alloc_new w _, Nat.le_refl _, by simp [maxLen], by simp, by simp [vals]⟩⟩
theorem Own.rd {w : World} {base g c n : Nat} {xs : List Int} (h : Own w base (.slice (some ⟨g, 0, none⟩) n c) xs) (hx : ∀ x ∈ xs, I64 x) : Rd w (some ⟨g, 0, none⟩) xs := by
  refine ⟨?_, fun i hi => ⟨g, 0, rfl, by rw [Nat.zero_add]; exact h.cell i hi⟩, hx⟩
  rcases h.shape with ⟨_, c', e⟩ | ⟨g', c', cur, e, _, hh, _, h1, h2, _⟩
  · cases e
  · omega
end Go.Proofs.Ytafcjcpflkelcaa.WearP
