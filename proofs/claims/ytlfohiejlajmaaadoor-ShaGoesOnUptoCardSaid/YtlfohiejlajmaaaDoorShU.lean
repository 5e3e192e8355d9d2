/- The law of keys: its facts. -/
import Derived.Test.YtlfohiejlajmaaaDoorShS
import Derived.Lib.AppendZerosOnto
namespace Go.Proofs.YtlfohiejlajmaaaDoor.ShU
open Go.ChangeShapes Go.WideShapes Go.ChangeAt Go.RowKit
open ShM ShA ShB ShC ShD ShE ShF ShG ShH ShI ShJ ShK ShL ShN ShO ShP ShQ ShR ShS Mem
open ShT (Rd vals vals_length vals_one)
set_option linter.unusedVariables false
set_option maxHeartbeats 2000000

theorem wk_sum (key : List ShM.B8) (h : 64 < key.length) : wk (ShM.sum key) = wk key := by
  unfold wk short
  rw [if_pos h, if_neg (by rw [sum_len]; omega)]
theorem wk_zeros (key : List ShM.B8) (z : Nat) (h : key.length + z ≤ 64) : wk (key ++ List.replicate z 0#8) = wk key := by
  unfold wk short
  rw [if_neg (by simp <;> omega), if_neg (by omega)]
  refine List.map_congr_left fun i _ => ?_
  simp only [List.getD_eq_getElem?_getD]
  by_cases hi : i < key.length
  · rw [List.getElem?_append_left hi]
  · rw [List.getElem?_append_right (by omega), List.getElem?_eq_none (l := key) (by omega), List.getElem?_replicate]
    split <;> rfl
theorem mac_sum (key m : List ShM.B8) (h : 64 < key.length) : mac (ShM.sum key) m = mac key m := by unfold mac; rw [wk_sum key h]
theorem mac_zeros (key m : List ShM.B8) (z : Nat) (h : key.length + z ≤ 64) : mac (key ++ List.replicate z 0#8) m = mac key m := by unfold mac; rw [wk_zeros key z h]
theorem mac_len (key m : List ShM.B8) : (mac key m).length = 32 := sum_len _
theorem gNeq (x y : Operand) (A B : Array Value) (w : World) : (eqGuard .neq 28 x y (.agg A) (.agg B)).run Tryd.prog w = .ok () w := by kernel_rfl
theorem gEql (x y : Operand) (A B : Array Value) (w : World) : (eqGuard .eql 28 x y (.agg A) (.agg B)).run Tryd.prog w = .ok () w := by kernel_rfl
theorem neq28 (a b : List ShM.B8) (w : World) : (binOp .neq 28 (.agg (b32 a)) (.agg (b32 b))).run Tryd.prog w = .ok (.bool (!decide (∀ i ∈ List.range 32, a.getD i 0 = b.getD i 0))) w := by
  obtain ⟨i, hi, hs⟩ : ∃ i, Tryd.prog.info? 5 = some i ∧ i.size = 1 := ⟨_, rfl, rfl⟩
  have hc : Tryd.prog.cellsOf 5 = 1 := by kernel_rfl
  have h1 : (binOp .neq 28 (.agg (b32 a)) (.agg (b32 b))).run Tryd.prog w = ((Op.equalIn 10000 28 (.agg (b32 a)) (.agg (b32 b))).run Tryd.prog w).andThen fun r w => .ok (.bool !r) w := by
    simp only [binOp, Sem.run_bind, Sem.run_pure]
    rfl
  rw [h1, show (10000 : Nat) = 9998 + 1 + 1 from rfl, run_equalIn_array w (9998 + 1) (b32 a) (b32 b) Tryd.underlying28 hi, hc, eqItems_b 9998 a b w _ fun j hj => List.mem_range.1 hj]
  rfl
theorem neq_same (a : List ShM.B8) (w : World) : (binOp .neq 28 (.agg (b32 a)) (.agg (b32 a))).run Tryd.prog w = .ok (.bool false) w := by
  rw [neq28]
  simp
theorem loadOf {w : World} {g : Nat} {M : Array Value} (h : Mem.Blk w g 28 M) (hM : M.size = 32) : (loadVar 28 ⟨g, 0, none⟩).run Tryd.prog w = .ok (.agg M) w :=
  run_loadVar_row w g 28 28 M (0, 0) _ h Tryd.underlying28 rfl (by rw [hM]; exact i28')
theorem exec_load {o : Oper} {ev : Operand → Value} (T : TypeId) (x : Operand) (ho : o.op = .load T x) (p : Addr) (hx : ev x = .pointer (some p)) (v : Value) (w : World) (h : (loadVar T p).run Tryd.prog w = .ok v w) :
    (execOp ev o).run Tryd.prog w = .ok (.value v) w := by
  unfold execOp
  simp only [ho, hx, Instr.loadAt, Instr.sureAddr, Sem.run_bind, Sem.run_pure, Result.andThen_ok, h]
theorem exec_neq {o : Oper} {ev : Operand → Value} (x y : Operand) (ho : o.op = .binOp .neq 28 x y 28) (A B : Array Value) (hx : ev x = .agg A) (hy : ev y = .agg B) (v : Value) (w : World) (h : (binOp .neq 28 (.agg A) (.agg B)).run Tryd.prog w = .ok v w) :
    (execOp ev o).run Tryd.prog w = .ok (.value v) w := by
  have hg := gNeq x y A B w
  unfold execOp
  simp only [ho, hx, hy, Sem.run_bind, Sem.run_pure, Result.andThen_ok, hg, h]
theorem exec_eql {o : Oper} {ev : Operand → Value} (x y : Operand) (ho : o.op = .binOp .eql 28 x y 28) (A B : Array Value) (hx : ev x = .agg A) (hy : ev y = .agg B) (v : Value) (w : World) (h : (binOp .eql 28 (.agg A) (.agg B)).run Tryd.prog w = .ok v w) :
    (execOp ev o).run Tryd.prog w = .ok (.value v) w := by
  have hg := gEql x y A B w
  unfold execOp
  simp only [ho, hx, hy, Sem.run_bind, Sem.run_pure, Result.andThen_ok, hg, h]
theorem stepApp {ops : Array Oper} {o : Oper} {a : Act} {w : World} {K : Act → World → Prop} {Q : Exit → Act → World → Prop} {E : Prop} (hgd : o.guard = none) (s x : Operand)
    (ho : o.op = .call { callee := .builtin .append, args := #[s, x], argTypes := #[22, 22] })
    (base : Nat) (v : Value) (xs : List ShM.B8) (hs : a.eval s = v) (h : ShT.Own w base v xs) (A : Option Addr) (l : List ShM.B8) (m c : Nat) (hx : a.eval x = .slice A m c) (hm : l.length = m) (hr : Rd w A l)
    (N : Nat) (hN : (xs ++ l).length = N) (hroom : N ≤ 1000000) (hbase : base ≤ w.heap.size)
    (hK : ∀ a' c' w', ShT.Own w' base (.slice a' N c') (xs ++ l) → w.grownBy w' v.ownBlock → ((Value.slice a' N c').ownBlock = v.ownBlock ∨ (Value.slice a' N c').ownBlock = some w.heap.size) → K (a.put o.dst (.slice a' N c')) w') : if Region.wanted o (yielded ops a.tmps) = true then o.wp Tryd.prog a w K Q else E := by
  have hw : Region.wanted o (yielded ops a.tmps) = true := by simp [Region.wanted, hgd]
  rw [if_pos hw]
  obtain ⟨v', w', h1, h2, h3, h4⟩ := ShT.run_app w o.type base v xs h A l m c hm hr (by rw [List.length_append] at hN; omega) hbase
  obtain ⟨a', c', rfl, _⟩ := ShT.Own.shape h2
  rw [hN] at h1 h2 h4
  unfold Oper.wp execOp
  simp only [ho, resolve, invoke, builtin, Sem.run_bind, Sem.run_pure, Result.andThen_ok, List.map_toArray, List.map_cons, List.map_nil, hs, hx, h1]
  exact hK a' c' w' h2 h3 h4
theorem One.own {w : World} {base N c : Nat} {a : Option Addr} {xs : List ShM.B8} (h : ShT.Own w base (.slice a N c) xs) : ShN.One w (.slice a N c) xs := by
  obtain ⟨a', c', e, h1, h2, h3, h4, h5⟩ := ShT.Own.shape h
  exact ⟨a', c', e, h1, h2, h5, fun y _ e => (h3 y e).2⟩
theorem blkOwn {w w' : World} {q : Nat} {t : TypeId} {cs : Array Value} {row : Option Nat} (h : Mem.Blk w q t cs) (hg : w.grownBy w' row) (hne : row ≠ some q) : Mem.Blk w' q t cs := (hg.block q h.lt (fun e => hne e.symm)).trans h
/-- A sum that lies in a block, as a slice of bytes. -/
theorem One.sum {w : World} {q : Nat} {l : List ShM.B8} (hl : l.length = 32) (h : Mem.Blk w q 28 (b32 l)) : ShN.One w (.slice (some ⟨q, 0, none⟩) 32 32) l := by
  have := sumSr (g := q + 1) hl h (by omega)
  exact ⟨some ⟨q, 0, none⟩, 32, by rw [hl], this.1, by omega, by simp [maxLen], fun y _ e => by injection e with e; subst e; exact h.lt⟩

theorem zeros_vals (k : Nat) : Builtin.zeroCells (Value.int .u8 0).cells k = (vals (List.replicate k 0#8)).toArray := by
  apply Array.ext
  · simp [Builtin.zeroCells, Value.cells, vals]
  · intro i h1 h2
    simp [Builtin.zeroCells, Value.cells, vals, Nat.mod_one]
theorem room (w : World) (ty : TypeId) (g sLen sCap : Nat) (cur : Array Value) (hg : w.heap[g]? = some (.cells cur 5 (0, 0))) (m : Nat) (h0 : 0 < m) (hm : m ≤ 1000000) (hroom : sLen + m ≤ sCap) (hfit : sLen + m ≤ cur.size) :
    (Builtin.append_ #[22, 3] ty #[.slice (some ⟨g, 0, none⟩) sLen sCap, .int .i64 (m : Int)]).run Tryd.prog w =
      .ok (.slice (some ⟨g, 0, none⟩) (sLen + m) sCap) (w.setRow g (cur.toList.take sLen ++ vals (List.replicate m 0#8) ++ cur.toList.drop (sLen + m)).toArray) := by
  obtain ⟨i, hi, hz, hs, hb⟩ := ShT.i5
  have hst := run_storeCells_at Tryd.prog g sLen 5 (vals (List.replicate m 0#8)) 0 cur w hg (by simp [vals_length]; omega) (vals_one _)
  simp only [Nat.add_zero] at hst
  have hk : m ≠ 0 := by omega
  have hw : IntKind.i64.wrap (m : Int) = m := by rw [IntKind.wrap_i64]; omega
  have h48i : ¬ (281474976710656 < (m : Int)) := by omega
  have hneg : ¬ ((m : Int) < 0) := by omega
  simp [Builtin.append_, run_underlying Tryd.underlying22, run_underlying Tryd.underlying3, sizeOf, typeInfo, zeroValue, hi, hz, hs, hb, asInt, asIntOf, hw, hk, hneg, h48i, hroom, Addr.add_lit, zeros_vals, vals_length, hst]

theorem none0 (w : World) (ty : TypeId) (base : Nat) (v : Value) (xs : List ShM.B8) (h : ShT.Own w base v xs) :
    (Builtin.append_ #[22, 3] ty #[v, .int .i64 0]).run Tryd.prog w = .ok v w := by
  obtain ⟨i, hi, hz, hs, hb⟩ := ShT.i5
  have hw : IntKind.i64.wrap (0 : Int) = 0 := by decide
  rcases h.2 with ⟨rfl, _⟩ | ⟨g, cap, cur, rfl, _, _, hnc, _⟩
  · simp [Builtin.append_, run_underlying Tryd.underlying22, run_underlying Tryd.underlying3, sizeOf, typeInfo, hi, asInt, asIntOf, hw]
  · simp [Builtin.append_, run_underlying Tryd.underlying22, run_underlying Tryd.underlying3, sizeOf, typeInfo, hi, asInt, asIntOf, hw, hnc, storeCells]

/-- Zeros behind bytes. -/
theorem run_zeros (w : World) (ty : TypeId) (base : Nat) (v : Value) (xs : List ShM.B8) (h : ShT.Own w base v xs) (m : Nat) (ys : List ShM.B8) (N : Nat) (hy : xs ++ List.replicate m 0#8 = ys) (hN : ys.length = N) (hroom : N ≤ 1000000) (hbase : base ≤ w.heap.size) :
    ∃ a' c' w', (Builtin.append_ #[22, 3] ty #[v, .int .i64 (m : Int)]).run Tryd.prog w = .ok (.slice a' N c') w' ∧ ShT.Own w' base (.slice a' N c') ys ∧ w.grownBy w' v.ownBlock := by
  subst hy
  have hN2 : N = xs.length + m := by rw [← hN]; simp
  clear hN
  subst hN2
  by_cases hm0 : m = 0
  · subst hm0
    obtain ⟨a, c, rfl, _⟩ := ShT.Own.shape h
    have h2 := none0 w ty base _ xs h
    exact ⟨a, c, w, h2, by simpa using h, World.grownBy.refl w _⟩
  · have h0 : 0 < m := by omega
    have hc : ShT.Own w base v xs := h
    obtain ⟨hl, h2⟩ := h
    obtain ⟨i, hi, hz, hs, hb⟩ := ShT.i5
    have hxl : (vals (xs ++ List.replicate m 0#8)).length = (xs ++ List.replicate m 0#8).length * 1 := by rw [vals_length]; omega
    rcases h2 with ⟨rfl, hx0⟩ | ⟨g, cap, cur, rfl, hbg, hg, hnc, hcm, hcs, htake⟩
    · have hx : xs = [] := List.eq_nil_of_length_eq_zero hx0
      subst hx
      have hr := Lib.run_append_nil_zeros (P := Tryd.prog) w 22 3 ty 5 i (.int .u8 0) .i64 .i64 Tryd.underlying22 Tryd.underlying3 hi hz m h0 (by omega) (by omega) (by rw [hb]; omega)
      have hge := grownCap_ge w m 0 5
      have hcm := grownCap_le_maxLen w m 0 5 (by simp only [maxLen]; simp at hroom; omega)
      simp only [List.length_nil, Nat.zero_add, List.nil_append] at hxl hroom ⊢
      refine ⟨_, _, _, hr, ⟨by rw [vals_length]; omega, .inr ⟨w.heap.size, _, _, by rw [List.length_replicate], hbase, heap_alloc_new w.drew _, by rw [List.length_replicate]; exact hge, hcm, ?_, ?_⟩⟩, ⟨rfl, rfl, rfl, by simp, fun k hk _ => heap_alloc_old w.drew _ hk⟩⟩
      · rw [zeros_vals, zeros_vals]; simp [vals_length]; omega
      · rw [zeros_vals, zeros_vals, List.length_replicate, Nat.mul_one]
        simp only [Array.toList_append]
        rw [List.take_append_of_le_length (by rw [vals_length, List.length_replicate]; omega), List.take_of_length_le (by rw [vals_length, List.length_replicate]; omega)]
    · by_cases hfits : xs.length + m ≤ cap
      · have hr := room w ty g xs.length cap cur hg m h0 (by omega) hfits (by omega)
        refine ⟨_, _, _, hr, ⟨hxl, .inr ⟨g, cap, _, by rw [List.length_append, List.length_replicate], hbg, setRow_heap w g cur _ 5 _ hg, by rw [List.length_append, List.length_replicate]; exact hfits, hcm, ?_, ?_⟩⟩, ⟨rfl, rfl, rfl, by simp, fun k _ hk => setRow_other w g k _ (fun e => hk (by simp [Value.ownBlock, e]))⟩⟩
        · simp only [List.size_toArray, List.length_append, List.length_take, List.length_drop, Array.length_toList, vals_length, List.length_replicate]
          omega
        · rw [Nat.mul_one] at htake
          rw [htake, ← ShT.vals_append, Nat.mul_one, ← vals_length (xs ++ List.replicate m 0#8)]
          exact List.take_left
      · have holds : ∀ j u, (vals xs)[j]? = some u → w.drew.cell? ((⟨g, 0, none⟩ : Addr).add j) = some u := World.ownsRow.cells (n := xs.length) hc (g := g) rfl
        have hold := run_firstCells_some (P := Tryd.prog) w.drew i.size xs.length ⟨g, 0, none⟩ xs.length cap (vals xs) (by rw [vals_length, hs]; omega) holds
        have hr := Lib.run_append_grow_zeros (P := Tryd.prog) w 22 3 ty 5 i (.int .u8 0) .i64 .i64 Tryd.underlying22 Tryd.underlying3 hi hz (some ⟨g, 0, none⟩) xs.length cap (vals xs) hold m h0 (by omega) (by omega) (by omega) (by rw [hb]; omega) (growslice_fits (by omega) (by rw [hb]; omega))
        have hge := grownCap_ge w (xs.length + m) cap 5
        have hcm2 := grownCap_le_maxLen w (xs.length + m) cap 5 (by simp only [maxLen]; omega)
        refine ⟨_, _, _, hr, ⟨hxl, .inr ⟨w.heap.size, _, _, by rw [List.length_append, List.length_replicate], hbase, heap_alloc_new w.drew _, by rw [List.length_append, List.length_replicate]; exact hge, hcm2, ?_, ?_⟩⟩, ⟨rfl, rfl, rfl, by simp, fun k hk _ => heap_alloc_old w.drew _ hk⟩⟩
        · rw [zeros_vals, zeros_vals]; simp [vals_length]; omega
        · rw [zeros_vals, zeros_vals, Nat.mul_one]
          simp only [Array.toList_append]
          rw [← ShT.vals_append, List.take_append_of_le_length (by rw [vals_length]; omega), List.take_of_length_le (by rw [vals_length]; omega)]

theorem stepZeros {ops : Array Oper} {o : Oper} {a : Act} {w : World} {K : Act → World → Prop} {Q : Exit → Act → World → Prop} {E : Prop} (hgd : o.guard = none) (s x : Operand)
    (ho : o.op = .call { callee := .builtin .append, args := #[s, x], argTypes := #[22, 3] })
    (base : Nat) (v : Value) (xs : List ShM.B8) (hs : a.eval s = v) (h : ShT.Own w base v xs) (m : Nat) (mi : Int) (hmi : mi = (m : Int)) (hx : a.eval x = .int .i64 mi)
    (N : Nat) (hN : (xs ++ List.replicate m 0#8).length = N) (hroom : N ≤ 1000000) (hbase : base ≤ w.heap.size)
    (hK : ∀ a' c' w', ShT.Own w' base (.slice a' N c') (xs ++ List.replicate m 0#8) → w.grownBy w' v.ownBlock → K (a.put o.dst (.slice a' N c')) w') : if Region.wanted o (yielded ops a.tmps) = true then o.wp Tryd.prog a w K Q else E := by
  have hw : Region.wanted o (yielded ops a.tmps) = true := by simp [Region.wanted, hgd]
  rw [if_pos hw]
  subst hmi
  obtain ⟨a', c', w', hrun, h2, h3⟩ := run_zeros w o.type base v xs h m _ N rfl hN hroom hbase
  unfold Oper.wp execOp
  simp only [ho, resolve, invoke, builtin, Sem.run_bind, Sem.run_pure, Result.andThen_ok, List.map_toArray, List.map_cons, List.map_nil, hs, hx, hrun]
  exact hK a' c' w' h2 h3
end Go.Proofs.YtlfohiejlajmaaaDoor.ShU
