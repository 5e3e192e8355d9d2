/- Rows of bytes to which zeros are appended. -/
import Derived.Test.YtjnpfnpeekpleaaDoorPgB
import Derived.Lib.AppendZerosOnto
namespace Go.Proofs.YtjnpfnpeekpleaaDoor.PgZ
open Go.ChangeShapes Go.WideShapes Go.ChangeAt Go.RowKit
open EcM EcA EcB EcC EcT EcX EcY EcZ EcWM EcWP EcWR EcFM PgM PgA PgB
set_option linter.unusedVariables false
set_option maxHeartbeats 1000000

theorem zeros_vals (k : Nat) : Builtin.zeroCells (Value.int .u8 0).cells k = (vals (List.replicate k 0#8)).toArray := by
  apply Array.ext
  · simp [Builtin.zeroCells, Value.cells, vals]
  · intro i h1 h2
    simp [Builtin.zeroCells, Value.cells, vals, Nat.mod_one]

theorem room (w : World) (ty : TypeId) (g sLen sCap : Nat) (cur : Array Value) (hg : w.heap[g]? = some (.cells cur 5 (0, 0))) (m : Nat) (h0 : 0 < m) (hm : m ≤ 1000000) (hroom : sLen + m ≤ sCap) (hfit : sLen + m ≤ cur.size) :
    (Builtin.append_ #[22, 3] ty #[.slice (some ⟨g, 0, none⟩) sLen sCap, .int .i64 (m : Int)]).run Tryd.prog w =
      .ok (.slice (some ⟨g, 0, none⟩) (sLen + m) sCap) (w.setRow g (cur.toList.take sLen ++ vals (List.replicate m 0#8) ++ cur.toList.drop (sLen + m)).toArray) := by
  obtain ⟨i, hi, hz, hs, hb⟩ := i5
  have hst := run_storeCells_at Tryd.prog g sLen 5 (vals (List.replicate m 0#8)) 0 cur w hg (by simp [vals_length]; omega) (vals_one _)
  simp only [Nat.add_zero] at hst
  have hk : m ≠ 0 := by omega
  have hw : IntKind.i64.wrap (m : Int) = m := by rw [IntKind.wrap_i64]; omega
  have h48i : ¬ (281474976710656 < (m : Int)) := by omega
  have hneg : ¬ ((m : Int) < 0) := by omega
  simp [Builtin.append_, run_underlying Tryd.underlying22, run_underlying Tryd.underlying3, sizeOf, typeInfo, zeroValue, hi, hz, hs, hb, asInt, asIntOf, hw, hk, hneg, h48i, hroom, Addr.add_lit, zeros_vals, vals_length, hst]

theorem none0 (w : World) (ty : TypeId) (base : Nat) (v : Value) (xs : List B8) (h : Own w base v xs) :
    (Builtin.append_ #[22, 3] ty #[v, .int .i64 0]).run Tryd.prog w = .ok v w := by
  obtain ⟨i, hi, hz, hs, hb⟩ := i5
  have hw : IntKind.i64.wrap (0 : Int) = 0 := by decide
  rcases h.2 with ⟨rfl, _⟩ | ⟨g, cap, cur, rfl, _, _, hnc, _⟩
  · simp [Builtin.append_, run_underlying Tryd.underlying22, run_underlying Tryd.underlying3, sizeOf, typeInfo, hi, asInt, asIntOf, hw]
  · simp [Builtin.append_, run_underlying Tryd.underlying22, run_underlying Tryd.underlying3, sizeOf, typeInfo, hi, asInt, asIntOf, hw, hnc, storeCells]

/-- Zeros behind bytes. -/
theorem run_zeros (w : World) (ty : TypeId) (base : Nat) (v : Value) (xs : List B8) (h : Own w base v xs) (m : Nat) (ys : List B8) (N : Nat) (hy : xs ++ List.replicate m 0#8 = ys) (hN : ys.length = N) (hroom : N ≤ 1000000) (hbase : base ≤ w.heap.size) :
    ∃ a' c' w', (Builtin.append_ #[22, 3] ty #[v, .int .i64 (m : Int)]).run Tryd.prog w = .ok (.slice a' N c') w' ∧ Own w' base (.slice a' N c') ys ∧ w.grownBy w' v.ownBlock := by
  subst hy
  have hN2 : N = xs.length + m := by rw [← hN]; simp
  clear hN
  subst hN2
  by_cases hm0 : m = 0
  · subst hm0
    obtain ⟨a, c, rfl, _⟩ := h.shape
    have h2 := none0 w ty base _ xs h
    exact ⟨a, c, w, h2, by simpa using h, World.grownBy.refl w _⟩
  · have h0 : 0 < m := by omega
    have hc : Own w base v xs := h
    obtain ⟨hl, h2⟩ := h
    obtain ⟨i, hi, hz, hs, hb⟩ := i5
    have hxl : (vals (xs ++ List.replicate m 0#8)).length = (xs ++ List.replicate m 0#8).length * 1 := by rw [vals_length]; omega
    rcases h2 with ⟨rfl, hx0⟩ | ⟨g, cap, cur, rfl, hbg, hg, hnc, hcm, hcs, htake⟩
    · have hx : xs = [] := List.eq_nil_of_length_eq_zero hx0
      subst hx
      have hr := Lib.run_append_nil_zeros (P := Tryd.prog) w 22 3 ty 5 i (.int .u8 0) .i64 .i64 Tryd.underlying22 Tryd.underlying3 hi hz m h0 (by omega) (by omega) (by rw [hb]; omega)
      have hge := grownCap_ge w m 0 5
      have hcm := grownCap_le_maxLen w m 0 5 (by simp only [maxLen]; simp at hroom; omega)
      simp only [List.length_nil, Nat.zero_add, List.nil_append] at hxl hroom ⊢
      refine ⟨_, _, _, hr, ⟨by rw [vals_length]; omega, .inr ⟨w.heap.size, _, _, by rw [List.length_replicate], hbase, heap_alloc_new w.drew _, by rw [List.length_replicate]; exact hge, hcm, ?_, ?_⟩⟩, ⟨rfl, rfl, rfl, by simp, fun k hk _ => heap_alloc_old w.drew _ hk⟩⟩
      · rw [zeros_vals, zeros_vals]; simp [vals_length]; omega
      · rw [zeros_vals, zeros_vals, List.length_replicate, Nat.mul_one]
        simp only [Array.toList_append]
        rw [List.take_append_of_le_length (by rw [vals_length, List.length_replicate]; omega), List.take_of_length_le (by rw [vals_length, List.length_replicate]; omega)]
    · by_cases hfits : xs.length + m ≤ cap
      · have hr := room w ty g xs.length cap cur hg m h0 (by omega) hfits (by omega)
        refine ⟨_, _, _, hr, ⟨hxl, .inr ⟨g, cap, _, by rw [List.length_append, List.length_replicate], hbg, setRow_heap w g cur _ 5 _ hg, by rw [List.length_append, List.length_replicate]; exact hfits, hcm, ?_, ?_⟩⟩, ⟨rfl, rfl, rfl, by simp, fun k _ hk => setRow_other w g k _ (fun e => hk (by simp [Value.ownBlock, e]))⟩⟩
        · simp only [List.size_toArray, List.length_append, List.length_take, List.length_drop, Array.length_toList, vals_length, List.length_replicate]
          omega
        · rw [Nat.mul_one] at htake
          rw [htake, ← vals_append, Nat.mul_one, ← vals_length (xs ++ List.replicate m 0#8)]
          exact List.take_left
      · have holds : ∀ j u, (vals xs)[j]? = some u → w.drew.cell? ((⟨g, 0, none⟩ : Addr).add j) = some u := World.ownsRow.cells (n := xs.length) hc (g := g) rfl
        have hold := run_firstCells_some (P := Tryd.prog) w.drew i.size xs.length ⟨g, 0, none⟩ xs.length cap (vals xs) (by rw [vals_length, hs]; omega) holds
        have hr := Lib.run_append_grow_zeros (P := Tryd.prog) w 22 3 ty 5 i (.int .u8 0) .i64 .i64 Tryd.underlying22 Tryd.underlying3 hi hz (some ⟨g, 0, none⟩) xs.length cap (vals xs) hold m h0 (by omega) (by omega) (by omega) (by rw [hb]; omega) (growslice_fits (by omega) (by rw [hb]; omega))
        have hge := grownCap_ge w (xs.length + m) cap 5
        have hcm2 := grownCap_le_maxLen w (xs.length + m) cap 5 (by simp only [maxLen]; omega)
        refine ⟨_, _, _, hr, ⟨hxl, .inr ⟨w.heap.size, _, _, by rw [List.length_append, List.length_replicate], hbase, heap_alloc_new w.drew _, by rw [List.length_append, List.length_replicate]; exact hge, hcm2, ?_, ?_⟩⟩, ⟨rfl, rfl, rfl, by simp, fun k hk _ => heap_alloc_old w.drew _ hk⟩⟩
        · rw [zeros_vals, zeros_vals]; simp [vals_length]; omega
        · rw [zeros_vals, zeros_vals, Nat.mul_one]
          simp only [Array.toList_append]
          rw [← vals_append, List.take_append_of_le_length (by rw [vals_length]; omega), List.take_of_length_le (by rw [vals_length]; omega)]

theorem wpList_zeros {ops : Array Oper} {rest : List Oper} {o : Oper} {a : Act} {w : World} {Q : Exit → Act → World → Prop} (hgd : o.guard = none) (s x : Operand)
    (ho : o.op = .call { callee := .builtin .append, args := #[s, x], argTypes := #[22, 3] })
    (base : Nat) (v : Value) (xs : List B8) (hs : a.eval s = v) (h : Own w base v xs) (m : Nat) (mi : Int) (hmi : mi = (m : Int)) (hx : a.eval x = .int .i64 mi)
    (ys : List B8) (N : Nat) (hy : xs ++ List.replicate m 0#8 = ys) (hN : ys.length = N) (hroom : N ≤ 1000000) (hbase : base ≤ w.heap.size)
    (hK : ∀ a' c' w', Own w' base (.slice a' N c') ys → w.grownBy w' v.ownBlock → wpList Tryd.prog ops Q rest (a.put o.dst (.slice a' N c')) w') : wpList Tryd.prog ops Q (o :: rest) a w := by
  subst hmi
  obtain ⟨a', c', w', hrun, h2, h3⟩ := run_zeros w o.type base v xs h m ys N hy hN hroom hbase
  exact Lib.wpList_append_run w hgd s x 22 3 ho v _ hs hx _ w' hrun (hK a' c' w' h2 h3)
end Go.Proofs.YtjnpfnpeekpleaaDoor.PgZ
