/- Digests: a block is taken in. -/
import Derived.Test.YtlfohiejlajmaaaDoorShB
import Derived.Deep.CutRange
namespace Go.Proofs.YtlfohiejlajmaaaDoor.ShC
open Go.ChangeShapes Go.WideShapes Go.ChangeAt Go.RowKit
open ShM ShA ShB Mem
set_option linter.unusedVariables false
set_option maxHeartbeats 4000000

theorem not32 (x : W) : bits .xor .u32 IntKind.u32.max (x.toNat : Int) = ((~~~x).toNat : Int) := by
  have h : (IntKind.u32.max : Int) = ((BitVec.allOnes 32).toNat : Int) := by decide
  rw [h, x32, BitVec.allOnes_xor]
theorem alg (a b c d e f g h K V : W) : ∃ R6 R11 R25 R2 R13 R22 X1 B1 EF NE NG CH H1 H2 H3 T1 Y1 B0 AB AC BC M1 MO Z1 Z D1 : W, (R6 = rr e 6 ∧ R11 = rr e 11 ∧ R25 = rr e 25 ∧ R2 = rr a 2 ∧ R13 = rr a 13 ∧ R22 = rr a 22) ∧ (bits .xor .u32 (R6.toNat : Int) (R11.toNat : Int) = (X1.toNat : Int) ∧ bits .xor .u32 (X1.toNat : Int) (R25.toNat : Int) = (B1.toNat : Int) ∧ bits .and .u32 (e.toNat : Int) (f.toNat : Int) = (EF.toNat : Int) ∧ bits .xor .u32 IntKind.u32.max (e.toNat : Int) = (NE.toNat : Int) ∧ bits .and .u32 (NE.toNat : Int) (g.toNat : Int) = (NG.toNat : Int) ∧ bits .xor .u32 (EF.toNat : Int) (NG.toNat : Int) = (CH.toNat : Int) ∧ IntKind.u32.wrap ((h.toNat : Int) + (B1.toNat : Int)) = (H1.toNat : Int) ∧ IntKind.u32.wrap ((H1.toNat : Int) + (CH.toNat : Int)) = (H2.toNat : Int) ∧ IntKind.u32.wrap ((H2.toNat : Int) + (K.toNat : Int)) = (H3.toNat : Int) ∧ IntKind.u32.wrap ((H3.toNat : Int) + (V.toNat : Int)) = (T1.toNat : Int) ∧ bits .xor .u32 (R2.toNat : Int) (R13.toNat : Int) = (Y1.toNat : Int) ∧ bits .xor .u32 (Y1.toNat : Int) (R22.toNat : Int) = (B0.toNat : Int) ∧ bits .and .u32 (a.toNat : Int) (b.toNat : Int) = (AB.toNat : Int) ∧ bits .and .u32 (a.toNat : Int) (c.toNat : Int) = (AC.toNat : Int) ∧ bits .and .u32 (b.toNat : Int) (c.toNat : Int) = (BC.toNat : Int) ∧ bits .xor .u32 (AB.toNat : Int) (AC.toNat : Int) = (M1.toNat : Int) ∧ bits .xor .u32 (M1.toNat : Int) (BC.toNat : Int) = (MO.toNat : Int) ∧ IntKind.u32.wrap ((T1.toNat : Int) + (B0.toNat : Int)) = (Z1.toNat : Int) ∧ IntKind.u32.wrap ((Z1.toNat : Int) + (MO.toNat : Int)) = (Z.toNat : Int) ∧ IntKind.u32.wrap ((d.toNat : Int) + (T1.toNat : Int)) = (D1.toNat : Int)) ∧ ShM.round ⟨a, b, c, d, e, f, g, h⟩ K V = ⟨Z, a, b, c, D1, e, f, g⟩ := by
  refine ⟨rr e 6, rr e 11, rr e 25, rr a 2, rr a 13, rr a 22, rr e 6 ^^^ rr e 11, rr e 6 ^^^ rr e 11 ^^^ rr e 25, e &&& f, ~~~ e, ~~~ e &&& g, (e &&& f) ^^^ (~~~ e &&& g), h + (rr e 6 ^^^ rr e 11 ^^^ rr e 25), h + (rr e 6 ^^^ rr e 11 ^^^ rr e 25) + ((e &&& f) ^^^ (~~~ e &&& g)), h + (rr e 6 ^^^ rr e 11 ^^^ rr e 25) + ((e &&& f) ^^^ (~~~ e &&& g)) + K, t1 ⟨a, b, c, d, e, f, g, h⟩ K V, rr a 2 ^^^ rr a 13, rr a 2 ^^^ rr a 13 ^^^ rr a 22, a &&& b, a &&& c, b &&& c, (a &&& b) ^^^ (a &&& c), (a &&& b) ^^^ (a &&& c) ^^^ (b &&& c), t1 ⟨a, b, c, d, e, f, g, h⟩ K V + (rr a 2 ^^^ rr a 13 ^^^ rr a 22), t1 ⟨a, b, c, d, e, f, g, h⟩ K V + (rr a 2 ^^^ rr a 13 ^^^ rr a 22) + ((a &&& b) ^^^ (a &&& c) ^^^ (b &&& c)), d + t1 ⟨a, b, c, d, e, f, g, h⟩ K V, ⟨rfl, rfl, rfl, rfl, rfl, rfl⟩, ⟨x32 _ _, x32 _ _, n32 _ _, not32 e, n32 _ _, x32 _ _, ad32 _ _, ad32 _ _, ad32 _ _, ad32 _ _, x32 _ _, x32 _ _, n32 _ _, n32 _ _, n32 _ _, x32 _ _, x32 _ _, ad32 _ _, ad32 _ _, ad32 _ _⟩, ?_⟩
  unfold ShM.round t2
  simp only [BitVec.add_assoc]

def s8c (s : S8) : Array Value := #[.int .u32 (s.a.toNat : Int), .int .u32 (s.b.toNat : Int), .int .u32 (s.c.toNat : Int), .int .u32 (s.d.toNat : Int), .int .u32 (s.e.toNat : Int), .int .u32 (s.f.toNat : Int), .int .u32 (s.g.toNat : Int), .int .u32 (s.h.toNat : Int)]
def rndV : Array Value := ((List.range 64).map fun i => Value.int .u32 ((kk i).toNat : Int)).toArray
/-- The package's rows lie where they were laid. -/
def Laid (w : World) : Prop := (∃ t z, w.heap[0]? = some (.cells (s8c ShM.start) t z)) ∧ ∃ t z, w.heap[1]? = some (.cells rndV t z)
theorem Laid.below {w w' : World} (h : Laid w) (hb : Below w.heap.size w w') : Laid w' := by
  obtain ⟨⟨t, z, h0⟩, ⟨t', z', h1⟩⟩ := h
  have l0 : 0 < w.heap.size := by
    rcases Nat.lt_or_ge 0 w.heap.size with hlt | hge
    · exact hlt
    · rw [Array.getElem?_eq_none hge] at h0; cases h0
  have l1 : 1 < w.heap.size := by
    rcases Nat.lt_or_ge 1 w.heap.size with hlt | hge
    · exact hlt
    · rw [Array.getElem?_eq_none hge] at h1; cases h1
  exact ⟨⟨t, z, (hb.block 0 l0).trans h0⟩, ⟨t', z', (hb.block 1 l1).trans h1⟩⟩
theorem rnd_size : rndV.size = 64 := by simp [rndV]
theorem rnd_at (i : Nat) (h : i < 64) : rndV[i]? = some (.int .u32 ((kk i).toNat : Int)) := by
  unfold rndV
  rw [List.getElem?_toArray, List.getElem?_map, List.getElem?_range h]
  rfl
theorem index_arr (cs : Array Value) (i : Nat) (v : Value) (h : i < 64) (hv : cs[i]? = some v) (w : World) : (Instr.index 53 (.agg cs) (.int .i64 (i : Int))).run Tryd.prog w = .ok v w := by
  have hz : ∀ w, (sizeOf 51).run Tryd.prog w = .ok 1 w := fun w => by kernel_rfl
  have ha : ∀ w, (isAgg 51).run Tryd.prog w = .ok false w := fun w => by kernel_rfl
  have hi : (0 : Int) ≤ (i : Int) ∧ (i : Int) < 64 := by omega
  simp [Instr.index, run_underlying Tryd.underlying53, asIntOf, hi, part, hz, ha, hv, go_sem]
  intro hh
  omega
theorem rnd_ix (k : Nat) (h : k < 64) (w : World) : (Instr.index 53 (.agg rndV) (.int .i64 (k : Int))).run Tryd.prog w = .ok (.int .u32 ((kk k).toNat : Int)) w := index_arr _ _ _ h (rnd_at k h) w
theorem ev1 (a : Act) : a.eval (Operand.global 1) = .pointer (some ⟨1, 0, none⟩) := rfl
theorem loadG {op : Oper} {a : Act} {w : World} {K : Act → World → Prop} {Q : Exit → Act → World → Prop} (ho : op.op = .load 53 (.global 1)) (hl : Laid w)
    (h : K (a.put op.dst (.agg rndV)) w) : Oper.wp Tryd.prog op a w K Q := by
  obtain ⟨_, ⟨tt, zz, hg⟩⟩ := hl
  unfold Oper.wp execOp
  simp only [ho, ev1, Instr.loadAt, Instr.sureAddr, Sem.run_bind, Sem.run_pure, Result.andThen_ok, run_loadVar_row w 1 tt 53 rndV zz _ hg Tryd.underlying53 rfl (show (Tryd.prog.info? 53).map (·.size) = some rndV.size by rw [rnd_size]; exact i53)]
  exact h
theorem loadW {ops : Array Oper} {rest : List Oper} {op : Oper} {a : Act} {w : World} {Q : Exit → Act → World → Prop} (ho : op.op = .load 53 (.global 1)) (hgd : op.guard = none) (hl : Laid w)
    (h : wpList Tryd.prog ops Q rest (a.put op.dst (.agg rndV)) w) : wpList Tryd.prog ops Q (op :: rest) a w :=
  wpList_plain hgd fun _ hK => loadG ho hl (hK _ _ h)
theorem i52 : (Tryd.prog.info? 52).map (·.size) = some 8 := by kernel_rfl
theorem eight {w : World} {g : Nat} {t : TypeId} {a b c d e f k l : Value} (h : Mem.Blk w g t #[a, b, c, d, e, f, k, l]) :
    w.cell? ⟨g, 0, none⟩ = some a ∧ w.cell? ⟨g, 1, none⟩ = some b ∧ w.cell? ⟨g, 2, none⟩ = some c ∧ w.cell? ⟨g, 3, none⟩ = some d ∧ w.cell? ⟨g, 4, none⟩ = some e ∧ w.cell? ⟨g, 5, none⟩ = some f ∧ w.cell? ⟨g, 6, none⟩ = some k ∧ w.cell? ⟨g, 7, none⟩ = some l :=
  ⟨h.cell 0, h.cell 1, h.cell 2, h.cell 3, h.cell 4, h.cell 5, h.cell 6, h.cell 7⟩

def n8 (w : World) (g : Nat) (v0 v1 v2 v3 v4 v5 v6 v7 : Value) : World := ((((((((w.setCell ⟨g, 0, none⟩ v0).setCell ⟨g, 1, none⟩ v1).setCell ⟨g, 2, none⟩ v2).setCell ⟨g, 3, none⟩ v3).setCell ⟨g, 4, none⟩ v4).setCell ⟨g, 5, none⟩ v5).setCell ⟨g, 6, none⟩ v6).setCell ⟨g, 7, none⟩ v7)
theorem blk8 {w : World} {g : Nat} {t : TypeId} {a b c d e f k l : Value} (h : Mem.Blk w g t #[a, b, c, d, e, f, k, l]) (v0 v1 v2 v3 v4 v5 v6 v7 : Value) : Mem.Blk (n8 w g v0 v1 v2 v3 v4 v5 v6 v7) g t #[v0, v1, v2, v3, v4, v5, v6, v7] := by
  have h0 : Mem.Blk _ g t #[v0, b, c, d, e, f, k, l] := h.put 0 v0
  have h1 : Mem.Blk _ g t #[v0, v1, c, d, e, f, k, l] := h0.put 1 v1
  have h2 : Mem.Blk _ g t #[v0, v1, v2, d, e, f, k, l] := h1.put 2 v2
  have h3 : Mem.Blk _ g t #[v0, v1, v2, v3, e, f, k, l] := h2.put 3 v3
  have h4 : Mem.Blk _ g t #[v0, v1, v2, v3, v4, f, k, l] := h3.put 4 v4
  have h5 : Mem.Blk _ g t #[v0, v1, v2, v3, v4, v5, k, l] := h4.put 5 v5
  have h6 : Mem.Blk _ g t #[v0, v1, v2, v3, v4, v5, v6, l] := h5.put 6 v6
  exact h6.put 7 v7
theorem below8 {B : Nat} {w0 w : World} {g : Nat} (hB : B ≤ g) (h : Below B w0 w) (v0 v1 v2 v3 v4 v5 v6 v7 : Value) : Below B w0 (n8 w g v0 v1 v2 v3 v4 v5 v6 v7) := by
  unfold n8
  have h0 := h.setCell (p := ⟨g, 0, none⟩) hB v0
  have h1 := h0.setCell (p := ⟨g, 1, none⟩) hB v1
  have h2 := h1.setCell (p := ⟨g, 2, none⟩) hB v2
  have h3 := h2.setCell (p := ⟨g, 3, none⟩) hB v3
  have h4 := h3.setCell (p := ⟨g, 4, none⟩) hB v4
  have h5 := h4.setCell (p := ⟨g, 5, none⟩) hB v5
  have h6 := h5.setCell (p := ⟨g, 6, none⟩) hB v6
  exact h6.setCell (p := ⟨g, 7, none⟩) hB v7
/-- A digest's block in memory: 74 cells at the front of a block. -/
structure Bk (w : World) (g : Nat) (t : St) : Prop where
  lt : g < w.heap.size
  s : w.rangeAt g 0 (s8c t.s).toList
  rest : w.rangeAt g 8 (bc t.rest).toList
  fl : w.cell? ⟨g, 72, none⟩ = some (.int .i64 (t.filled : Int))
  len : w.cell? ⟨g, 73, none⟩ = some (.int .u64 (t.len : Int))
  there : w.there g 0 74
theorem there_below {B : Nat} {w w' : World} {b o n : Nat} (h : w.there b o n) (hb : Below B w w') (hB : b < B) : w'.there b o n := fun j hj => by
  obtain ⟨h1, h2⟩ := h j hj
  refine ⟨by rw [hb.cell (p := ⟨b, o + j, none⟩) hB]; exact h1, ?_⟩
  rw [← h2]
  exact World.frozen?_of_block (hb.block b hB)
theorem Bk.below {B : Nat} {w w' : World} {g : Nat} {t : St} (h : Bk w g t) (hb : Below B w w') (hg : g < B) : Bk w' g t :=
  ⟨Nat.lt_of_lt_of_le h.lt hb.size, range_below h.s hb hg, range_below h.rest hb hg, by rw [hb.cell (p := ⟨g, 72, none⟩) hg]; exact h.fl, by rw [hb.cell (p := ⟨g, 73, none⟩) hg]; exact h.len, there_below h.there hb hg⟩

theorem run_alloc53 (w : World) : (Instr.alloc 53 true (.tuple #[])).run Tryd.prog w = .ok (.pointer (some ⟨w.heap.size, 0, none⟩)) (w.alloc (.cells #[.int .u32 0, .int .u32 0, .int .u32 0, .int .u32 0, .int .u32 0, .int .u32 0, .int .u32 0, .int .u32 0, .int .u32 0, .int .u32 0, .int .u32 0, .int .u32 0, .int .u32 0, .int .u32 0, .int .u32 0, .int .u32 0, .int .u32 0, .int .u32 0, .int .u32 0, .int .u32 0, .int .u32 0, .int .u32 0, .int .u32 0, .int .u32 0, .int .u32 0, .int .u32 0, .int .u32 0, .int .u32 0, .int .u32 0, .int .u32 0, .int .u32 0, .int .u32 0, .int .u32 0, .int .u32 0, .int .u32 0, .int .u32 0, .int .u32 0, .int .u32 0, .int .u32 0, .int .u32 0, .int .u32 0, .int .u32 0, .int .u32 0, .int .u32 0, .int .u32 0, .int .u32 0, .int .u32 0, .int .u32 0, .int .u32 0, .int .u32 0, .int .u32 0, .int .u32 0, .int .u32 0, .int .u32 0, .int .u32 0, .int .u32 0, .int .u32 0, .int .u32 0, .int .u32 0, .int .u32 0, .int .u32 0, .int .u32 0, .int .u32 0, .int .u32 0] 53)) := by kernel_rfl
theorem alloc53 {ops : Array Oper} {rest : List Oper} {op : Oper} {a : Act} {w : World} {Q : Exit → Act → World → Prop} (ho : op.op = .alloc 53) (hgd : Region.wanted op (yielded ops a.tmps) = true)
    (h : ∀ w', Mem.Blk w' w.heap.size 53 (wc []) → Below w.heap.size w w' → wpList Tryd.prog ops Q rest (a.put op.dst (.pointer (some ⟨w.heap.size, 0, none⟩))) w') : wpList Tryd.prog ops Q (op :: rest) a w :=
  BigFrame.wpList_want hgd fun _ hK => by
    unfold Oper.wp execOp
    simp only [ho, Sem.run_bind, Sem.run_pure, run_alloc53, Result.andThen_ok]
    exact hK _ _ (h _ (by rw [← wc_nil]; exact Mem.Blk.new w 53 _) ((Below.refl _ _).alloc (Nat.le_refl _) _))

def sl (s : S8) : List W := [s.a, s.b, s.c, s.d, s.e, s.f, s.g, s.h]
def m8 (x y : S8) (j : Nat) : List Value := (List.range 8).map fun i => Value.int .u32 ((if i < j then (sl x).getD i 0 else (sl y).getD i 0).toNat : Int)
theorem m8_at (x y : S8) (j i : Nat) (h : i < 8) : (m8 x y j)[i]? = some (.int .u32 ((if i < j then (sl x).getD i 0 else (sl y).getD i 0).toNat : Int)) := by
  unfold m8
  rw [List.getElem?_map, List.getElem?_range h]
  rfl
theorem m8_len (x y : S8) (j : Nat) : (m8 x y j).length = 8 := by simp [m8]
theorem m8_set (x y : S8) (j : Nat) (h : j < 8) : (m8 x y j).set j (.int .u32 (((sl x).getD j 0).toNat : Int)) = m8 x y (j + 1) := by
  refine List.ext_getElem? fun i => ?_
  rw [List.getElem?_set]
  by_cases hi : i < 8
  · rw [m8_at x y (j + 1) i hi, m8_at x y j i hi]
    by_cases e : j = i
    · subst e
      rw [if_pos rfl, if_pos (by rw [m8_len]; exact h), if_pos (by omega)]
    · rw [if_neg e]
      by_cases h2 : i < j
      · rw [if_pos h2, if_pos (by omega)]
      · rw [if_neg h2, if_neg (by omega)]
  · rw [if_neg (by omega), List.getElem?_eq_none (by rw [m8_len]; omega), List.getElem?_eq_none (by rw [m8_len]; omega)]
theorem m8_zero (x y : S8) : m8 x y 0 = (s8c y).toList := rfl
theorem m8_all (x y : S8) : m8 x y 8 = (s8c x).toList := rfl
theorem plus_at (y F : S8) (j : Nat) (h : j < 8) : (sl (plus y F)).getD j 0 = (sl y).getD j 0 + (sl F).getD j 0 := by
  match j, h with
  | 0, _ => rfl
  | 1, _ => rfl
  | 2, _ => rfl
  | 3, _ => rfl
  | 4, _ => rfl
  | 5, _ => rfl
  | 6, _ => rfl
  | 7, _ => rfl
theorem s8c_at (F : S8) (j : Nat) (h : j < 8) : (s8c F)[j]? = some (.int .u32 (((sl F).getD j 0).toNat : Int)) := by
  match j, h with
  | 0, _ => rfl
  | 1, _ => rfl
  | 2, _ => rfl
  | 3, _ => rfl
  | 4, _ => rfl
  | 5, _ => rfl
  | 6, _ => rfl
  | 7, _ => rfl
theorem range_set {w : World} {b o : Nat} {cs : List Value} (h : w.rangeAt b o cs) (ht : w.there b o cs.length) (j : Nat) (hj : j < cs.length) (v : Value) : (w.setCell ⟨b, o + j, none⟩ v).rangeAt b o (cs.set j v) := fun i u hu => by
  rw [List.getElem?_set] at hu
  by_cases e : j = i
  · subst e
    rw [if_pos rfl, if_pos hj] at hu
    obtain ⟨x, hx⟩ := Option.isSome_iff_exists.1 (ht j hj).1
    rw [World.cell?_setCell_same _ _ _ hx]
    exact hu
  · rw [if_neg e] at hu
    rw [World.cell?_setCell_other _ ⟨b, o + j, none⟩ ⟨b, o + i, none⟩ _ (by intro e2; injection e2 with _ e3; omega)]
    exact h i u hu
theorem heap_setCells (g q : Nat) (hq : q ≠ g) : ∀ (vs : List Value) (o : Nat) (w : World), (w.setCells g o vs).heap[q]? = w.heap[q]?
  | [], _, _ => rfl
  | v :: r, o, w => by
    rw [World.setCells, heap_setCells g q hq r]
    exact Below.heap_setCell _ _ _ _ (by exact hq)
/-- What became of a block whose first 74 cells alone were written. -/
structure Upd (w0 w : World) (g : Nat) : Prop where
  far : ∀ i, 74 ≤ i → w.cell? ⟨g, i, none⟩ = w0.cell? ⟨g, i, none⟩
  gb : w0.grownBy w (some g)
  th : ∀ n, w0.there g 0 n → w.there g 0 n
theorem Upd.refl (w : World) (g : Nat) : Upd w w g := ⟨fun _ _ => rfl, World.grownBy.refl w _, fun _ h => h⟩
theorem Upd.trans {a b c : World} {g : Nat} (h : Upd a b g) (k : Upd b c g) : Upd a c g := ⟨fun i hi => (k.far i hi).trans (h.far i hi), h.gb.trans k.gb, fun n hn => k.th n (h.th n hn)⟩
theorem Upd.drew {a b : World} {g : Nat} (h : Upd a b g) : Upd a b.drew g := ⟨h.far, ⟨h.gb.os, h.gb.tape, h.gb.output, h.gb.size, h.gb.block⟩, h.th⟩
theorem Upd.below {a b : World} {g : Nat} (hb : Below a.heap.size a b) (hg : g < a.heap.size) : Upd a b g :=
  ⟨fun i _ => hb.cell (p := ⟨g, i, none⟩) hg, ⟨hb.os, hb.tape, hb.output, hb.size, fun q hq _ => hb.block q hq⟩, fun _ h => there_below h hb hg⟩
theorem Upd.setCells {a b : World} {g : Nat} (h : Upd a b g) (o : Nat) (vs : List Value) (ho : o + vs.length ≤ 74) : Upd a (b.setCells g o vs) g := by
  have hb := below_setCells (B := 0) (Nat.zero_le g) vs o b (Below.refl 0 b)
  refine ⟨fun i hi => ?_, ⟨hb.os.trans h.gb.os, hb.tape.trans h.gb.tape, hb.output.trans h.gb.output, Nat.le_trans h.gb.size hb.size, fun q hq hne => ?_⟩, fun n hn => World.there_setCells (h.th n hn) g o vs⟩
  · rw [World.cell?_setCells_out g vs o b ⟨g, i, none⟩ (fun _ _ => .inr (by show o + vs.length ≤ i; omega))]
    exact h.far i hi
  · rw [heap_setCells g q (fun e => hne (by rw [e])) vs o b]
    exact h.gb.block q hq hne
theorem Upd.setCell {a b : World} {g : Nat} (h : Upd a b g) (o : Nat) (v : Value) (ho : o < 74) : Upd a (b.setCell ⟨g, o, none⟩ v) g := h.setCells o [v] (by simp; omega)
/-- A digest's block, some of whose words are new. -/
structure Bm (w0 w : World) (g : Nat) (t : St) (x : S8) (j : Nat) : Prop where
  lt : g < w.heap.size
  s : w.rangeAt g 0 (m8 x t.s j)
  rest : w.rangeAt g 8 (bc t.rest).toList
  fl : w.cell? ⟨g, 72, none⟩ = some (.int .i64 (t.filled : Int))
  len : w.cell? ⟨g, 73, none⟩ = some (.int .u64 (t.len : Int))
  there : w.there g 0 74
  up : Upd w0 w g
theorem Bm.step {w0 w : World} {g : Nat} {t : St} {x : S8} {j : Nat} (h : Bm w0 w g t x j) (hj : j < 8) : Bm w0 (w.drew.setCell ⟨g, j, none⟩ (.int .u32 (((sl x).getD j 0).toNat : Int))) g t x (j + 1) := by
  have hb := below_setCells (B := 0) (Nat.zero_le g) [Value.int .u32 (((sl x).getD j 0).toNat : Int)] j w.drew (Below.refl 0 w.drew)
  have hne : ∀ i, i ≠ j → (w.drew.setCell ⟨g, j, none⟩ (.int .u32 (((sl x).getD j 0).toNat : Int))).cell? ⟨g, i, none⟩ = w.cell? ⟨g, i, none⟩ := fun i hi =>
    World.cell?_setCell_other w.drew ⟨g, j, none⟩ ⟨g, i, none⟩ _ (by intro e2; injection e2 with _ e3; omega)
  have hs := range_set (w := w.drew) (b := g) (o := 0) (cs := m8 x t.s j) (by simpa using h.s) (by rw [m8_len]; intro i hi; exact h.there i (by omega)) j (by rw [m8_len]; exact hj) (.int .u32 (((sl x).getD j 0).toNat : Int))
  rw [m8_set x t.s j hj, Nat.zero_add] at hs
  refine ⟨Nat.lt_of_lt_of_le h.lt hb.size, hs, fun i v hv => ?_, (hne 72 (by omega)).trans h.fl, (hne 73 (by omega)).trans h.len, World.there_setCells (w := w.drew) (by simpa using h.there) g j [_], h.up.drew.setCell j _ (by omega)⟩
  exact (hne (8 + i) (by omega)).trans (h.rest i v hv)

set_option maxRecDepth 100000 in
theorem mixW (g : Nat) (t : St) (w : World) (hl : Laid w) (h : Bk w g t) : Calls Tryd.prog 30 #[.pointer (some ⟨g, 0, none⟩)] w fun e w' => e = .returned (.tuple #[]) ∧ Bk w' g ⟨mix t.s t.rest, t.rest, t.filled, t.len⟩ ∧ Upd w w' g := by
  have HSP := Lib.hid (fun w => spreadW t.rest w)
  have r8 := Lib.hid h.rest
  have HK := Lib.hid h
  have HL := Lib.hid hl
  clear h hl
  go_enter Tryd.func30, Tryd.ntmps30
  go_wp2_with (first
    | ((with_reducible show wpList _ _ _ (Oper.mk _ (Op.load 58 (.tmp 14)) _ _ _ _ :: _) _ _); refine Mem.loadMid 58 (.tmp 14) rfl g 8 rfl (bc t.rest) r8.out _ Tryd.underlying58 rfl (by rw [bc_size]; exact i58) rfl ?_))
  refine (HSP.out _).mono ?_
  rintro e w1 ⟨rfl, b1⟩
  have D1 := Lib.hid b1
  obtain ⟨Wd, hWd⟩ : ∃ Wd, Wd = spread t.rest := ⟨_, rfl⟩
  rw [← hWd]
  replace hWd := Lib.hid hWd
  obtain ⟨WC, hWC⟩ : ∃ WC, WC = wc Wd := ⟨_, rfl⟩
  rw [← hWC]
  have sW : Hid ((wc []).size = WC.size) := Lib.hid (by rw [hWC, wc_size, wc_size])
  have iW : Hid ((Tryd.prog.info? 53).map (·.size) = some WC.size) := Lib.hid (by rw [hWC, wc_size]; exact i53)
  have oW : Hid (WC.all (·.oneCell') = true) := Lib.hid (by rw [hWC]; exact one_wc _)
  replace hWC := Lib.hid hWC
  have hs0 : Hid (∀ w', Below w.heap.size w w' → Bk w' g t) := Lib.hid fun w' hb => HK.out.below hb HK.out.lt
  clear b1
  have HLD : Hid (∀ w', Below w.heap.size w w' → Laid w') := Lib.hid fun w' hb => HL.out.below hb
  have HR0 : Hid (∀ w', Below w1.heap.size w1 w' → w'.rangeAt g 0 (s8c t.s).toList) := Lib.hid fun w' hb => (hs0.out w' (D1.out.trans (hb.mono D1.out.size))).s
  go_wp2_with (first
    | ((with_reducible show wpList _ _ _ (Oper.mk _ (Op.load 53 (.global 1)) _ _ _ _ :: _) _ _); refine ShC.loadW rfl rfl (HLD.out _ ((D1.out.trans (hb2.mono D1.out.size)).alloc (Nat.le_trans D1.out.size hb2.size) _)) ?_)
    | ((with_reducible show wpList _ _ _ (Oper.mk _ (Op.load 52 (.tmp 19)) _ _ _ _ :: _) _ _); refine Mem.loadMid 52 (.tmp 19) rfl g 0 rfl #[.int .u32 (t.s.a.toNat : Int), .int .u32 (t.s.b.toNat : Int), .int .u32 (t.s.c.toNat : Int), .int .u32 (t.s.d.toNat : Int), .int .u32 (t.s.e.toNat : Int), .int .u32 (t.s.f.toNat : Int), .int .u32 (t.s.g.toNat : Int), .int .u32 (t.s.h.toNat : Int)] (HR0.out _ hb2) _ Tryd.underlying52 rfl i52 rfl ?_)
    | ((with_reducible show wpList _ _ _ (Oper.mk _ (Op.alloc 53) _ _ _ _ :: _) _ _); refine ShC.alloc53 rfl rfl ?_; intro wz hBz hbz)
    | ((with_reducible show wpList _ _ _ (Oper.mk _ (Op.store 53 (.tmp 2) (.tmp 16)) _ _ _ _ :: _) _ _); refine Mem.storeBlk 53 (.tmp 2) (.tmp 16) rfl w1.heap.size rfl (wc []) WC rfl 53 hBz iW.out sW.out oW.out w1.heap.size w1 hbz (Nat.le_refl _) rfl ?_; intro w2 hB2 hb2))
  have HIX := Lib.hid (fun k h w => rnd_ix k h w)
  generalize rndV = RV at HIX ⊢
  obtain ⟨w3, hw3⟩ : ∃ w3, w3 = w2.alloc (.cells #[.int .u32 (t.s.a.toNat : Int), .int .u32 (t.s.b.toNat : Int), .int .u32 (t.s.c.toNat : Int), .int .u32 (t.s.d.toNat : Int), .int .u32 (t.s.e.toNat : Int), .int .u32 (t.s.f.toNat : Int), .int .u32 (t.s.g.toNat : Int), .int .u32 (t.s.h.toNat : Int)] 52) := ⟨_, rfl⟩
  have q3 : Hid (Mem.Blk w3 w2.heap.size 52 (s8c (go Wd t.s 0))) := Lib.hid (by rw [hw3]; exact Mem.Blk.new w2 52 _)
  have D3 : Hid (Below w2.heap.size w2 w3) := Lib.hid (by rw [hw3]; exact (Below.refl _ _).alloc (Nat.le_refl _) _)
  have D2 : Hid (Below w.heap.size w w2) := Lib.hid (D1.out.trans (hb2.mono D1.out.size))
  have HWC : Hid (∀ wr, Below w2.heap.size w2 wr → ∀ k, k < 64 → wr.cell? ⟨w1.heap.size, k, none⟩ = some (.int .u32 ((Wd.getD k 0).toNat : Int))) := Lib.hid fun wr hb k hk => ((hB2.below hb hB2.lt).cell k).trans (by rw [hWC.out]; exact wc_at Wd k hk)
  have HGO : Hid (∀ k, go Wd t.s (k + 1) = ShM.round (go Wd t.s k) (kk k) (Wd.getD k 0)) := Lib.hid fun _ => rfl
  rw [← hw3]
  replace hw3 := Lib.hid hw3
  clear hB2 hBz hbz HLD HR0 hb2
  go_loopw [4, 5, 6, 7, 8, 9, 10, 22] (fun _ _ _ _ _ _ _ i wr => ∃ k : Nat, k ≤ 64 ∧ i = .int .i64 (k : Int) ∧ Mem.Blk wr w2.heap.size 52 (s8c (go Wd t.s k)) ∧ Below w2.heap.size w2 wr) (fun _ _ _ _ _ _ _ i _ => 64 - (intOf i).toNat)
  case atStart => exact ⟨0, by omega, rfl, q3.out, D3.out⟩
  case round =>
    clear q3 D3
    obtain ⟨k, hk, rfl, q, hb⟩ := hrel
    by_cases hlt : k < 64
    · have hlt' : (k : Int) < 64 := by omega
      have hix := HIX.out k hlt
      have hwc := HWC.out wr hb k hlt
      have hgo := HGO.out k
      obtain ⟨S, hS⟩ : ∃ S, S = go Wd t.s k := ⟨_, rfl⟩
      rw [← hS] at q hgo
      obtain ⟨KK, hKK⟩ : ∃ KK, KK = kk k := ⟨_, rfl⟩
      obtain ⟨VV, hVV⟩ : ∃ VV, VV = Wd.getD k 0 := ⟨_, rfl⟩
      rw [← hKK] at hix hgo
      rw [← hVV] at hwc hgo
      replace hS := Lib.hid hS
      replace hKK := Lib.hid hKK
      replace hVV := Lib.hid hVV
      obtain ⟨va, vb, vc, vd, ve, vf, vg, vh⟩ := S
      obtain ⟨R6, R11, R25, R2, R13, R22, X1, B1, EF, NE, NG, CH, H1, H2, H3, T1, Y1, B0, AB, AC, BC, M1, MO, Z1, Z, D1, ⟨hR6, hR11, hR25, hR2, hR13, hR22⟩, ⟨q0, q1, q2, q3, q4, q5, q6, q7, q8, q9, q10, q11, q12, q13, q14, q15, q16, q17, q18, q19⟩, hround⟩ := alg va vb vc vd ve vf vg vh KK VV
      rw [hround] at hgo
      have R6c : Hid (∀ (w : World) m, Calls Tryd.prog 33 #[.int .u32 (ve.toNat : Int), .int .i64 6] (w.drewN m) fun e w'' => e = .returned (.int .u32 (R6.toNat : Int)) ∧ ∃ m', w'' = w.drewN m') := Lib.hid fun w m => by rw [hR6]; exact turnQ ve 6 (by unfold Tn; omega) w m
      have R11c : Hid (∀ (w : World) m, Calls Tryd.prog 33 #[.int .u32 (ve.toNat : Int), .int .i64 11] (w.drewN m) fun e w'' => e = .returned (.int .u32 (R11.toNat : Int)) ∧ ∃ m', w'' = w.drewN m') := Lib.hid fun w m => by rw [hR11]; exact turnQ ve 11 (by unfold Tn; omega) w m
      have R25c : Hid (∀ (w : World) m, Calls Tryd.prog 33 #[.int .u32 (ve.toNat : Int), .int .i64 25] (w.drewN m) fun e w'' => e = .returned (.int .u32 (R25.toNat : Int)) ∧ ∃ m', w'' = w.drewN m') := Lib.hid fun w m => by rw [hR25]; exact turnQ ve 25 (by unfold Tn; omega) w m
      have R2c : Hid (∀ (w : World) m, Calls Tryd.prog 33 #[.int .u32 (va.toNat : Int), .int .i64 2] (w.drewN m) fun e w'' => e = .returned (.int .u32 (R2.toNat : Int)) ∧ ∃ m', w'' = w.drewN m') := Lib.hid fun w m => by rw [hR2]; exact turnQ va 2 (by unfold Tn; omega) w m
      have R13c : Hid (∀ (w : World) m, Calls Tryd.prog 33 #[.int .u32 (va.toNat : Int), .int .i64 13] (w.drewN m) fun e w'' => e = .returned (.int .u32 (R13.toNat : Int)) ∧ ∃ m', w'' = w.drewN m') := Lib.hid fun w m => by rw [hR13]; exact turnQ va 13 (by unfold Tn; omega) w m
      have R22c : Hid (∀ (w : World) m, Calls Tryd.prog 33 #[.int .u32 (va.toNat : Int), .int .i64 22] (w.drewN m) fun e w'' => e = .returned (.int .u32 (R22.toNat : Int)) ∧ ∃ m', w'' = w.drewN m') := Lib.hid fun w m => by rw [hR22]; exact turnQ va 22 (by unfold Tn; omega) w m
      obtain ⟨c0, c1, c2, c3, c4, c5, c6, c7⟩ := eight q
      replace q := Lib.hid q
      replace hb := Lib.hid hb
      replace hgo := Lib.hid hgo
      clear hround hR6 hR11 hR25 hR2 hR13 hR22
      have qm : ((H1.toNat : Int) + (CH.toNat : Int) + (KK.toNat : Int) + (VV.toNat : Int)) % 4294967296 = (T1.toNat : Int) := by
        have a7 := q7
        have a8 := q8
        have a9 := q9
        rw [IntKind.wrap_u32] at a7 a8 a9
        omega
      go_upto_region 6 with (go_quiet ((go_at_call 33; first | (with_reducible exact R6c.out _ _) | (with_reducible exact R11c.out _ _) | (with_reducible exact R25c.out _ _) | (with_reducible exact R2c.out _ _) | (with_reducible exact R13c.out _ _) | (with_reducible exact R22c.out _ _))))
      have p := Lib.hid (q.out.drewN nq)
      have db := Lib.hid (Mem.below_drewN hb.out nq)
      have hwc := HWC.out _ db.out k hlt
      rw [← hVV.out] at hwc
      clear c0 c1 c2 c3 c4 c5 c6 c7 q hb
      generalize wr.drewN nq = wp at p db hwc ⊢
      obtain ⟨c0, c1, c2, c3, c4, c5, c6, c7⟩ := eight p.out
      go_wp2_with (go_quiet ((go_at_call 33; first | (with_reducible exact R6c.out _ _) | (with_reducible exact R11c.out _ _) | (with_reducible exact R25c.out _ _) | (with_reducible exact R2c.out _ _) | (with_reducible exact R13c.out _ _) | (with_reducible exact R22c.out _ _))))
      have q := Lib.hid (p.out.drewN nq)
      have hb := Lib.hid (Mem.below_drewN db.out nq)
      clear c0 c1 c2 c3 c4 c5 c6 c7 p db hwc hix
      generalize wp.drewN nq = wq at q hb ⊢
      obtain ⟨c0, c1, c2, c3, c4, c5, c6, c7⟩ := eight q.out
      go_upto_region 9 with (go_quiet ((go_at_call 33; first | (with_reducible exact R6c.out _ _) | (with_reducible exact R11c.out _ _) | (with_reducible exact R25c.out _ _) | (with_reducible exact R2c.out _ _) | (with_reducible exact R13c.out _ _) | (with_reducible exact R22c.out _ _))))
      have p := Lib.hid (q.out.drewN nq)
      have db := Lib.hid (Mem.below_drewN hb.out nq)
      clear c0 c1 c2 c3 c4 c5 c6 c7 q hb
      generalize wq.drewN nq = wt at p db ⊢
      obtain ⟨c0, c1, c2, c3, c4, c5, c6, c7⟩ := eight p.out
      have f0 := p.out.frozen 0
      have f1 := p.out.frozen 1
      have f2 := p.out.frozen 2
      have f3 := p.out.frozen 3
      have f4 := p.out.frozen 4
      have f5 := p.out.frozen 5
      have f6 := p.out.frozen 6
      have f7 := p.out.frozen 7
      go_upto_region 11 with fail
      have hP := Lib.hid (blk8 p.out (.int .u32 (Z.toNat : Int)) (.int .u32 (va.toNat : Int)) (.int .u32 (vb.toNat : Int)) (.int .u32 (vc.toNat : Int)) (.int .u32 (D1.toNat : Int)) (.int .u32 (ve.toNat : Int)) (.int .u32 (vf.toNat : Int)) (.int .u32 (vg.toNat : Int)))
      have hB := Lib.hid (below8 (Nat.le_refl w2.heap.size) db.out (.int .u32 (Z.toNat : Int)) (.int .u32 (va.toNat : Int)) (.int .u32 (vb.toNat : Int)) (.int .u32 (vc.toNat : Int)) (.int .u32 (D1.toNat : Int)) (.int .u32 (ve.toNat : Int)) (.int .u32 (vf.toNat : Int)) (.int .u32 (vg.toNat : Int)))
      unfold n8 at hP hB
      generalize ((((((((wt.setCell ⟨w2.heap.size, 0, none⟩ (.int .u32 (Z.toNat : Int))).setCell ⟨w2.heap.size, 1, none⟩ (.int .u32 (va.toNat : Int))).setCell ⟨w2.heap.size, 2, none⟩ (.int .u32 (vb.toNat : Int))).setCell ⟨w2.heap.size, 3, none⟩ (.int .u32 (vc.toNat : Int))).setCell ⟨w2.heap.size, 4, none⟩ (.int .u32 (D1.toNat : Int))).setCell ⟨w2.heap.size, 5, none⟩ (.int .u32 (ve.toNat : Int))).setCell ⟨w2.heap.size, 6, none⟩ (.int .u32 (vf.toNat : Int))).setCell ⟨w2.heap.size, 7, none⟩ (.int .u32 (vg.toNat : Int))) = wv at hP hB ⊢
      clear c0 c1 c2 c3 c4 c5 c6 c7 f0 f1 f2 f3 f4 f5 f6 f7 p db
      go_wp2_with fail
      go_roundw
      case rel => exact ⟨k + 1, by omega, by go_num, by rw [hgo.out]; exact hP.out, hB.out⟩
      case measure => simp [intOf]; omega
    · obtain rfl : k = 64 := by omega
      have hlt' : ¬ ((64 : Nat) : Int) < 64 := by omega
      obtain ⟨F, hF⟩ : ∃ F, F = go Wd t.s 64 := ⟨_, rfl⟩
      rw [← hF] at q
      replace hF := Lib.hid hF
      have DF : Hid (Below w.heap.size w wr) := Lib.hid (D2.out.trans (hb.mono D2.out.size))
      have hKF := HK.out.below DF.out HK.out.lt
      have hgF : Hid (g ≠ w2.heap.size) := Lib.hid (by have := HK.out.lt; have := D2.out.size; omega)
      have B0 : Hid (Bm w wr g t (plus t.s F) 0) := Lib.hid ⟨hKF.lt, by rw [m8_zero]; exact hKF.s, hKF.rest, hKF.fl, hKF.len, hKF.there, Upd.below DF.out HK.out.lt⟩
      have qF := Lib.hid q
      have HPL := Lib.hid (fun j h => plus_at t.s F j h)
      have HSC := Lib.hid (fun j h => s8c_at F j h)
      have HMA := Lib.hid (fun j h => m8_at (plus t.s F) t.s j j h)
      have HEND : Hid (∀ w', Bm w w' g t (plus t.s F) 8 → Bk w' g ⟨plus t.s F, t.rest, t.filled, t.len⟩ ∧ Upd w w' g) := Lib.hid fun w' h => ⟨⟨h.lt, by have := h.s; rw [m8_all] at this; exact this, h.rest, h.fl, h.len, h.there⟩, h.up⟩
      clear q hb hKF
      go_wp2_with fail
      go_loopw [11, 112] (fun _ i wr => ∃ j : Nat, j ≤ 8 ∧ i = .int .i64 (j : Int) ∧ Bm w wr g t (plus t.s F) j ∧ Mem.Blk wr w2.heap.size 52 (s8c F)) (fun _ i _ => 8 - (intOf i).toNat)
      case atStart => exact ⟨0, by omega, rfl, B0.out, qF.out⟩
      case round =>
        clear B0 qF
        obtain ⟨j, hj, rfl, hM, hQ⟩ := hrel
        by_cases hlt : j < 8
        · have hlt8 : (j : Int) < 8 := by omega
          have hst := Lib.hid (hM.step hlt)
          have c1 : wr.drew.cell? ⟨g, j, none⟩ = some (.int .u32 (((sl t.s).getD j 0).toNat : Int)) := by
            have h := hM.s j _ (HMA.out j hlt)
            rw [Nat.zero_add, if_neg (by omega)] at h
            exact h
          have c2 := (hQ.drew.cell j).trans (HSC.out j hlt)
          have hfr : wr.drew.frozen? ⟨g, j, none⟩ = false := by
            have h := (hM.there j (by omega)).2
            rw [Nat.zero_add] at h
            exact h
          have hQ2 : Hid (Mem.Blk (wr.drew.setCell ⟨g, j, none⟩ (.int .u32 (((sl (plus t.s F)).getD j 0).toNat : Int))) w2.heap.size 52 (s8c F)) := Lib.hid (Mem.Blk.far hQ.drew (p := ⟨g, j, none⟩) (by exact fun e => hgF.out e.symm) _)
          have hsum : IntKind.u32.wrap ((((sl t.s).getD j 0).toNat : Int) + (((sl F).getD j 0).toNat : Int)) = (((sl (plus t.s F)).getD j 0).toNat : Int) := by rw [ad32, HPL.out j hlt]
          generalize (((sl (plus t.s F)).getD j 0).toNat : Int) = XJ at hst hQ2 hsum
          generalize (((sl t.s).getD j 0).toNat : Int) = YJ at c1 hsum
          generalize (((sl F).getD j 0).toNat : Int) = FJ at c2 hsum
          clear hM hQ
          go_wp2_with fail
          refine wp_region_still_tail 13 (by kernel_rfl) (by kernel_rfl) ?_
          simp only [List.take_succ_cons, List.take_zero, List.drop_succ_cons, List.drop_zero]
          change wpStill _ _ (World.drew _) (fun a' => wpList _ _ _ _ a' (World.drew _)) _ _
          repeat still_step
          try refine wpStill_nil ?_
          change wpList _ _ _ _ _ (World.drew _)
          go_wp2
          go_roundw
          case rel => exact ⟨j + 1, by omega, by go_num, hst.out, hQ2.out⟩
          case measure => simp [intOf]; omega
        · obtain rfl : j = 8 := by omega
          have hlt8 : ¬ ((8 : Nat) : Int) < 8 := by omega
          have hE := Lib.hid (HEND.out _ hM)
          have hmix : Hid (mix t.s t.rest = plus t.s F) := Lib.hid (by unfold ShM.mix; rw [hF.out, hWd.out])
          clear hM hQ
          go_wp2
          go_end0
          exact ⟨rfl, by rw [hmix.out]; exact hE.out⟩
end Go.Proofs.YtlfohiejlajmaaaDoor.ShC
