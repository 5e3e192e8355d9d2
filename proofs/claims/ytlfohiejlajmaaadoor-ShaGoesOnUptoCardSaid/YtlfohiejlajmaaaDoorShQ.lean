/- Digests: a struct of three blocks and a mark is built. -/
import Derived.Test.YtlfohiejlajmaaaDoorShP
namespace Go.Proofs.YtlfohiejlajmaaaDoor.ShQ
open Go.ChangeShapes Go.WideShapes Go.ChangeAt Go.RowKit
open ShM ShA ShB ShC ShD ShE ShF ShG ShH ShI ShJ ShK ShL ShN ShO ShP Mem
open ShT (Rd vals vals_length vals_one)
set_option linter.unusedVariables false
set_option maxHeartbeats 2000000

def putOne (off : Nat) (cs : Array Value) (p : Value × Nat) : Array Value := cs.setIfInBounds (off + p.2) p.1
theorem putList (off : Nat) : ∀ (vs : List Value) (n : Nat) (cs : Array Value), ((vs.zipIdx n).foldl (putOne off) cs).size = cs.size ∧ ∀ k, ((vs.zipIdx n).foldl (putOne off) cs)[k]? = if off + n ≤ k ∧ k < off + n + vs.length ∧ k < cs.size then vs[k - (off + n)]? else cs[k]?
  | [], n, cs => ⟨rfl, fun k => by rw [if_neg (by rintro ⟨h1, h2, _⟩; simp only [List.length_nil] at h2; omega)]; rfl⟩
  | v :: vs, n, cs => by
    obtain ⟨h1, h2⟩ := putList off vs (n + 1) (putOne off cs (v, n))
    have hs : (putOne off cs (v, n)).size = cs.size := by simp [putOne]
    refine ⟨by rw [List.zipIdx_cons, List.foldl_cons, h1, hs], fun k => ?_⟩
    rw [List.zipIdx_cons, List.foldl_cons, h2 k, hs]
    have hk : (putOne off cs (v, n))[k]? = if off + n = k then (if off + n < cs.size then some v else none) else cs[k]? := by
      show (cs.setIfInBounds (off + n) v)[k]? = _
      rw [Array.getElem?_setIfInBounds]
    rw [hk, List.length_cons]
    by_cases e : off + n = k
    · subst e
      rw [if_neg (by omega), if_pos rfl]
      by_cases hlt : off + n < cs.size
      · rw [if_pos hlt, if_pos ⟨Nat.le_refl _, by omega, hlt⟩]
        simp
      · rw [if_neg hlt, if_neg (by omega), Array.getElem?_eq_none (by omega)]
    · rw [if_neg e]
      by_cases hin : off + (n + 1) ≤ k ∧ k < off + (n + 1) + vs.length ∧ k < cs.size
      · rw [if_pos hin, if_pos ⟨by omega, by omega, hin.2.2⟩]
        obtain ⟨j, hj⟩ : ∃ j, k - (off + n) = j + 1 := ⟨k - (off + n) - 1, by omega⟩
        rw [hj, List.getElem?_cons_succ]
        congr 1
        omega
      · rw [if_neg hin, if_neg (by omega)]
theorem foldZip (vs cs : Array Value) (off : Nat) : (vs.zipIdx.foldl (fun cs (c, j) => cs.setIfInBounds (off + j) c) cs) = (vs.toList.zipIdx 0).foldl (putOne off) cs := by
  rw [← Array.foldl_toList, Array.toList_zipIdx]
  rfl
theorem fields63 : ∃ it fs, Tryd.prog.info? 63 = some it ∧ Tryd.prog.underlying 63 = some (.struct fs) ∧ (fs.toList.mapM fun f => (Tryd.prog.info? f.type).map fun i => (f.offset, i.size)) = some [(0, 74), (74, 74), (148, 74), (222, 1)] ∧ ∃ z, it.zero = some z ∧ z.cells.size = 223 := ⟨_, _, rfl, rfl, by kernel_rfl, _, rfl, by kernel_rfl⟩
theorem built63 (A B C : Array Value) (hA : A.size = 74) (hB : B.size = 74) (hC : C.size = 74) : ∃ X : Array Value, Tryd.prog.built 63 [(0, .agg A), (1, .agg B), (2, .agg C), (3, .bool true)] = some X ∧ X.toList = A.toList ++ (B.toList ++ (C.toList ++ [Value.bool true])) := by
  obtain ⟨it, fs, h1, h2, h3, z, h4, h5⟩ := fields63
  obtain ⟨s1, p1⟩ := putList 0 A.toList 0 z.cells
  obtain ⟨s2, p2⟩ := putList 74 B.toList 0 ((A.toList.zipIdx 0).foldl (putOne 0) z.cells)
  obtain ⟨s3, p3⟩ := putList 148 C.toList 0 ((B.toList.zipIdx 0).foldl (putOne 74) ((A.toList.zipIdx 0).foldl (putOne 0) z.cells))
  obtain ⟨s4, p4⟩ := putList 222 [Value.bool true] 0 ((C.toList.zipIdx 0).foldl (putOne 148) ((B.toList.zipIdx 0).foldl (putOne 74) ((A.toList.zipIdx 0).foldl (putOne 0) z.cells)))
  rw [s1, h5] at s2
  rw [s2] at s3
  rw [s3] at s4
  have hb : ∀ v : Bool, (Value.bool v).cells = #[.bool v] := fun _ => rfl
  have ha : ∀ v, (Value.agg v).cells = v := fun _ => rfl
  refine ⟨([Value.bool true].zipIdx 0).foldl (putOne 222) ((C.toList.zipIdx 0).foldl (putOne 148) ((B.toList.zipIdx 0).foldl (putOne 74) ((A.toList.zipIdx 0).foldl (putOne 0) z.cells))), ?_, ?_⟩
  · simp only [Program.built, h1, h2, h3, h4]
    simp only [Instr.fill, ha, hb, foldZip, hA, hB, hC, h5]
    simp only [List.getElem?_toArray, List.getElem?_cons_zero, List.getElem?_cons_succ, ne_eq, not_true_eq_false, decide_false, Bool.false_or]
    rw [if_neg (by simp), if_neg (by rw [s1, h5]; simp), if_neg (by rw [s2]; simp), if_neg (by rw [s3]; simp)]
  · apply List.ext_getElem?
    intro k
    rw [Array.getElem?_toList]
    have lA : A.toList.length = 74 := by simp [hA]
    have lB : B.toList.length = 74 := by simp [hB]
    have lC : C.toList.length = 74 := by simp [hC]
    rw [p4 k, p3 k, p2 k, p1 k, s1, s2, s3, h5, lA, lB, lC]
    by_cases k1 : k < 74
    · rw [if_neg (by omega), if_neg (by omega), if_neg (by omega), if_pos (by omega), List.getElem?_append_left (by omega)]
      rfl
    · rw [List.getElem?_append_right (by omega), lA]
      by_cases k2 : k < 148
      · rw [if_neg (by omega), if_neg (by omega), if_pos (by omega), List.getElem?_append_left (by omega)]
      · rw [List.getElem?_append_right (by omega), lB]
        by_cases k3 : k < 222
        · rw [if_neg (by omega), if_pos (by omega), List.getElem?_append_left (by omega)]
          congr 1
          try omega
        · rw [List.getElem?_append_right (by omega), lC]
          by_cases k4 : k = 222
          · subst k4
            rw [if_pos (by simp)]
          · rw [if_neg (by simp; omega), if_neg (by omega), if_neg (by omega), if_neg (by omega), Array.getElem?_eq_none (by omega), List.getElem?_eq_none (by simp; omega)]
theorem build63W {ops : Array Oper} {rest : List Oper} {op : Oper} {a : Act} {w : World} {Q : Exit → Act → World → Prop} (ho : op.op = .build 63 #[(0, .tmp 16), (1, .tmp 17), (2, .tmp 18), (3, .const (.bool true))]) (hgd : op.guard = none) (A B C X : Array Value) (hX : Tryd.prog.built 63 [(0, .agg A), (1, .agg B), (2, .agg C), (3, .bool true)] = some X)
    (h1 : a.eval (.tmp 16) = .agg A) (h2 : a.eval (.tmp 17) = .agg B) (h3 : a.eval (.tmp 18) = .agg C)
    (h : wpList Tryd.prog ops Q rest (a.put op.dst (.agg X)) w) : wpList Tryd.prog ops Q (op :: rest) a w :=
  wpList_plain hgd fun _ hK => by
    have hrun := run_build (P := Tryd.prog) w 63 #[(0, .agg A), (1, .agg B), (2, .agg C), (3, .bool true)] X hX
    have h4 : a.eval (.const (.bool true)) = .bool true := rfl
    unfold Oper.wp execOp
    simp only [ho, Sem.run_bind, Sem.run_pure, Result.andThen_ok, List.map_toArray, List.map_cons, List.map_nil, h1, h2, h3, h4, hrun]
    exact hK _ _ h
/-- A whole struct is written; all other blocks stay. -/
theorem storeBlk2 {ops : Array Oper} {rest : List Oper} {op : Oper} {a : Act} {w : World} {Q : Exit → Act → World → Prop} (T : TypeId) (x y : Operand) (ho : op.op = .store T x y)
    (g : Nat) (hx : a.eval x = .pointer (some ⟨g, 0, none⟩)) (old cs : Array Value) (hy : a.eval y = .agg cs) (t : TypeId) (hg : Mem.Blk w g t old) (hi : (Tryd.prog.info? T).map (·.size) = some cs.size) (ho' : old.size = cs.size) (h1 : cs.all (·.oneCell') = true)
    (hgd : Region.wanted op (yielded ops a.tmps) = true)
    (h : ∀ w', Mem.Blk w' g t cs → w.grownBy w' (some g) → wpList Tryd.prog ops Q rest (a.put op.dst undef) w') : wpList Tryd.prog ops Q (op :: rest) a w :=
  BigFrame.wpList_want hgd fun _ hK => by
    unfold Oper.wp execOp
    simp only [ho, hx, hy, Instr.storeAt, Instr.sureAddr, Sem.run_bind, Sem.run_pure, Result.andThen_ok, run_storeVar_row w g t T old cs hg hi ho' h1]
    exact hK _ _ (h _ (setRow_heap w g _ _ t _ hg) ⟨rfl, rfl, rfl, by simp [World.setRow], fun q hq hne => setRow_other w g q cs (fun e => hne (by rw [e]))⟩)
end Go.Proofs.YtlfohiejlajmaaaDoor.ShQ
