/- The contract of a choice. -/
import Derived.Test.YtbnjijlpbeplmaaWearD
import Derived.Laws.StructEq
namespace Go.Proofs.Ytbnjijlpbeplmaa.WearE
open Go.ChangeShapes Go.WideShapes Go.ChangeAt Go.RowKit
open WearVM Mem WearC WearD
set_option linter.unusedVariables false
set_option maxHeartbeats 1000000

theorem i55 : (Try.prog.info? 55).map (·.size) = some 7 := by kernel_rfl

theorem eql55 (a b : WearVM.Blk) (w : World) : (binOp .eql 55 (.agg (cs a)) (.agg (cs b))).run Try.prog w = .ok (.bool (decide (a = b))) w := by
  obtain ⟨n, live, pages, worn, opn, one, bad⟩ := a
  obtain ⟨n', live', pages', worn', opn', one', bad'⟩ := b
  simp only [cs, run_eql_struct]
  rw [run_equalIn_struct w 9999 55 _ _ (by kernel_rfl) (by kernel_rfl)]
  simp [Program.fieldsOf, Try.underlying55, Op.eqFields, go_sem]
  (repeat' split) <;> simp_all
theorem neq55 (a b : WearVM.Blk) (w : World) : (binOp .neq 55 (.agg (cs a)) (.agg (cs b))).run Try.prog w = .ok (.bool (decide (a ≠ b))) w := by
  obtain ⟨n, live, pages, worn, opn, one, bad⟩ := a
  obtain ⟨n', live', pages', worn', opn', one', bad'⟩ := b
  simp only [cs, run_neq_struct]
  rw [run_equalIn_struct w 9999 55 _ _ (by kernel_rfl) (by kernel_rfl)]
  simp [Program.fieldsOf, Try.underlying55, Op.eqFields, go_sem]
  (repeat' split) <;> simp_all

theorem cs_all (b : WearVM.Blk) : (cs b).all (·.oneCell') = true := by
  simp [cs, Value.oneCell']

/-- A row of blocks. -/
def RdB (w : World) (a : Option Addr) (l : List WearVM.Blk) : Prop :=
  l.length ≤ maxLen ∧ ∀ i, i < l.length → ∃ b off, a = some ⟨b, off, none⟩ ∧ b < w.heap.size ∧ w.rangeAt b (off + i * 7) (cs (l.getD i zero)).toList
theorem RdB.below {w w' : World} {a : Option Addr} {l : List WearVM.Blk} (h : RdB w a l) (hb : Below w.heap.size w w') : RdB w' a l :=
  ⟨h.1, fun i hi => by
    obtain ⟨b, off, e, hl, hr⟩ := h.2 i hi
    exact ⟨b, off, e, Nat.lt_of_lt_of_le hl hb.size, range_below hr hb hl⟩⟩
theorem RdB.at {w : World} {b off : Nat} {l : List WearVM.Blk} (h : RdB w (some ⟨b, off, none⟩) l) (i : Nat) (hi : i < l.length) : b < w.heap.size ∧ w.rangeAt b (off + i * 7) (cs (l.getD i zero)).toList := by
  obtain ⟨b', off', e, hl, hr⟩ := h.2 i hi
  injection e with e
  injection e with e1 e2
  subst e1 e2
  exact ⟨hl, hr⟩

theorem chosen_may (may : WearVM.Blk → Bool) (ahead : WearVM.Blk → WearVM.Blk → Bool) (l : List WearVM.Blk) : chosen may ahead l ≠ zero → may (chosen may ahead l) = true := by
  suffices H : ∀ (l : List WearVM.Blk) (best : WearVM.Blk), (best ≠ zero → may best = true) → l.foldl (WearVM.step may ahead) best ≠ zero → may (l.foldl (WearVM.step may ahead) best) = true from
    H l zero (fun h => absurd rfl h)
  intro l
  induction l with
  | nil => intro best h; exact h
  | cons x l ih =>
    intro best h
    rw [List.foldl_cons]
    refine ih _ ?_
    unfold WearVM.step
    split
    · rename_i h1
      intro _
      simp only [Bool.and_eq_true] at h1
      exact h1.1
    · exact h

theorem ret_pair (n1 l1 p1 k1 : Int) (o1 e1 b1 : Bool) (X : WearVM.Blk) (h : (⟨n1, l1, p1, k1, o1, e1, b1⟩ : WearVM.Blk) = X) :
    Ending.returned (.tuple #[.agg (cs ⟨n1, l1, p1, k1, o1, e1, b1⟩), .bool (!decide (n1 = 0) || (!decide (l1 = 0) || (!decide (p1 = 0) || (!decide (k1 = 0) || (o1 || (e1 || b1))))))]) = .returned (.tuple #[val X, .bool (decide (X ≠ zero))]) := by
  subst h
  have e : (!decide (n1 = 0) || (!decide (l1 = 0) || (!decide (p1 = 0) || (!decide (k1 = 0) || (o1 || (e1 || b1)))))) = decide ((⟨n1, l1, p1, k1, o1, e1, b1⟩ : WearVM.Blk) ≠ zero) := by
    unfold zero
    by_cases h1 : n1 = 0 <;> by_cases h2 : l1 = 0 <;> by_cases h3 : p1 = 0 <;> by_cases h4 : k1 = 0 <;> cases o1 <;> cases e1 <;> cases b1 <;> simp [h1, h2, h3, h4]
  rw [e]; rfl

theorem chosen_snoc (may : WearVM.Blk → Bool) (ahead : WearVM.Blk → WearVM.Blk → Bool) (l : List WearVM.Blk) (k : Nat) (h : k < l.length) :
    chosen may ahead (l.take (k + 1)) = WearVM.step may ahead (chosen may ahead (l.take k)) (l.getD k zero) := by
  rw [List.take_succ_eq_append_getElem h]
  simp only [chosen, List.foldl_append, List.foldl_cons, List.foldl_nil]; simp [h]

end Go.Proofs.Ytbnjijlpbeplmaa.WearE
