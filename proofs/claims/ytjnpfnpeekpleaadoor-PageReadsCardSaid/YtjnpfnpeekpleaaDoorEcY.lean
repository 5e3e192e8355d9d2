/- Rows of bytes as words: contracts. -/
import Derived.Test.YtjnpfnpeekpleaaDoorEcX
import Derived.Test.YtjnpfnpeekpleaaDoorEcC
import Derived.Deep.WholeRow
import Derived.Laws.CopyOwn
import Derived.Deep.RegionLaw
import Derived.Laws.ResultCell
namespace Go.Proofs.YtjnpfnpeekpleaaDoor.EcY
open Go.ChangeShapes Go.WideShapes Go.ChangeAt Go.RowKit
open EcM EcA EcC EcT EcX
set_option linter.unusedVariables false
set_option maxHeartbeats 1000000

theorem i53 : (Tryd.prog.info? 49).map (·.size) = some 8 := by kernel_rfl
theorem s5 : (Tryd.prog.info? 5).map (·.size) = some 1 := by kernel_rfl

theorem countW (a : Option Addr) (n c : Nat) (hn : n ≤ 1000000) (w : World) : Calls Tryd.prog 24 #[.slice a n c] w fun e w' => e = .returned (.int .i64 (cnt n : Int)) ∧ w' = w := by
  go_enter Tryd.func24, Tryd.ntmps24
  go_wp2
  go_ret
  exact ⟨ret_int (by unfold cnt; omega), rfl⟩

theorem ix53 (x0 x1 x2 x3 x4 x5 x6 x7 : B8) (k : Nat) (h : k < 8) (w : World) : (Instr.index 49 (.agg #[.int .u8 (x0.toNat : Int), .int .u8 (x1.toNat : Int), .int .u8 (x2.toNat : Int), .int .u8 (x3.toNat : Int), .int .u8 (x4.toNat : Int), .int .u8 (x5.toNat : Int), .int .u8 (x6.toNat : Int), .int .u8 (x7.toNat : Int)]) (.int .i64 (k : Int))).run Tryd.prog w = .ok (.int .u8 (([x0, x1, x2, x3, x4, x5, x6, x7].getD k 0).toNat : Int)) w := by
  obtain rfl | rfl | rfl | rfl | rfl | rfl | rfl | rfl : k = 0 ∨ k = 1 ∨ k = 2 ∨ k = 3 ∨ k = 4 ∨ k = 5 ∨ k = 6 ∨ k = 7 := by omega
  all_goals kernel_rfl

theorem or_step (a x k : Nat) (ha : a < 2 ^ (8 * k)) (hx : x < 256) (hk : k < 8) : bits BinOp.or IntKind.u64 (a : Int) (IntKind.u64.wrap ((x : Int) * 2 ^ (8 * k))) = ((a + x * 2 ^ (8 * k) : Nat) : Int) := by
  have h1 : 2 ^ (8 * k) ≤ 2 ^ 56 := Nat.pow_le_pow_right (by omega) (by omega)
  have h2 : x * 2 ^ (8 * k) ≤ 255 * 2 ^ 56 := Nat.mul_le_mul (by omega) h1
  have h3 : x * 2 ^ (8 * k) < 18446744073709551616 := by omega
  have h4 : a < 18446744073709551616 := by omega
  rw [show ((x : Int) * 2 ^ (8 * k)) = ((x * 2 ^ (8 * k) : Nat) : Int) by push_cast; rfl, wrapL _ h3, or64 _ _ h4 h3, or_up _ _ _ ha]

set_option maxRecDepth 100000 in
theorem wordX (x0 x1 x2 x3 x4 x5 x6 x7 : B8) (w : World) : Calls Tryd.prog 26 #[.agg #[.int .u8 (x0.toNat : Int), .int .u8 (x1.toNat : Int), .int .u8 (x2.toNat : Int), .int .u8 (x3.toNat : Int), .int .u8 (x4.toNat : Int), .int .u8 (x5.toNat : Int), .int .u8 (x6.toNat : Int), .int .u8 (x7.toNat : Int)]] w fun e w' => e = .returned (.int .u64 (num [x0, x1, x2, x3, x4, x5, x6, x7] : Int)) ∧ Below w.heap.size w w' := by
  have hX := ix53 x0 x1 x2 x3 x4 x5 x6 x7
  generalize hq : [x0, x1, x2, x3, x4, x5, x6, x7] = q at hX ⊢
  have hq8 : q.length = 8 := by rw [← hq]; rfl
  clear hq
  have hall := Lib.hid (low_all q hq8)
  have h0 := Lib.hid (low_zero q)
  have hs := Lib.hid (fun k (h : k < 8) => low_succ q k (by omega))
  have hl := Lib.hid (fun k (h : k ≤ 8) => low_lt q k (by omega))
  generalize num q = N at hall ⊢
  generalize low q = L at hall h0 hs hl
  replace hX := Lib.hid hX
  clear hq8
  go_enter Tryd.func26, Tryd.ntmps26
  go_wp2
  go_loop [3, 4, 5, 7] (fun v i x k => ∃ j : Nat, j ≤ 8 ∧ k = .int .i64 (j : Int) ∧ v = .int .u64 (L j : Int)) (fun _ _ _ k => 8 - (intOf k).toNat)
  case atStart => exact ⟨0, by omega, rfl, by rw [h0.out]; rfl⟩
  case round =>
    obtain ⟨k, hk, rfl, rfl⟩ := hrel
    by_cases hlt : k < 8
    · have hx := fun w => hX.out k hlt w
      have hb := (q.getD k 0).isLt
      have hs' := hs.out k hlt
      have hl1 := hl.out k hk
      generalize (q.getD k 0).toNat = x at hx hs' hb
      replace hs' := Lib.hid hs'
      replace hl1 := Lib.hid hl1
      have hx0 : (0 : Int) ≤ (x : Int) := by omega
      have hx1 : (x : Int) < 256 := by omega
      have hor := Lib.hid (or_step (L k) x k hl1.out hb hlt)
      go_wp2
      go_round
      case rel => exact ⟨k + 1, by omega, by go_num, by rw [hs'.out]; exact congrArg _ hor.out⟩
      case measure => simp [intOf]; omega
    · have hk' : Hid (k = 8) := Lib.hid (by omega)
      go_wp2
      go_ret
      refine ⟨by rw [hk'.out, hall.out]; rfl, ?_⟩
      exact (Below.refl _ _).alloc (Nat.le_refl _) _

theorem eight_of (q : List B8) (h : q.length = 8) : ∃ x0 x1 x2 x3 x4 x5 x6 x7, q = [x0, x1, x2, x3, x4, x5, x6, x7] := by
  match q, h with
  | [x0, x1, x2, x3, x4, x5, x6, x7], _ => exact ⟨x0, x1, x2, x3, x4, x5, x6, x7, rfl⟩
theorem wordW (q : List B8) (hq : q.length = 8) (w : World) : Calls Tryd.prog 26 #[.agg (vals q).toArray] w fun e w' => e = .returned (.int .u64 (num q : Int)) ∧ Below w.heap.size w w' := by
  obtain ⟨x0, x1, x2, x3, x4, x5, x6, x7, rfl⟩ := eight_of q hq
  exact wordX x0 x1 x2 x3 x4 x5 x6 x7 w

def zero8 : Array Value := #[.int .u8 0, .int .u8 0, .int .u8 0, .int .u8 0, .int .u8 0, .int .u8 0, .int .u8 0, .int .u8 0]

theorem loadRow {ops : Array Oper} {rest : List Oper} {op : Oper} {a : Act} {w : World} {Q : Exit → Act → World → Prop} (hgd : op.guard = none) (x : Operand) (ho : op.op = .load 49 x)
    (g : Nat) (hx : a.eval x = .pointer (some ⟨g, 0, none⟩)) (cs : Array Value) (t : TypeId) (hg : w.heap[g]? = some (.cells cs t (0, 0))) (hn : cs.size = 8)
    (h : wpList Tryd.prog ops Q rest (a.put op.dst (.agg cs)) w) : wpList Tryd.prog ops Q (op :: rest) a w :=
  wpList_plain hgd fun _ hK => by
    unfold Oper.wp execOp
    simp only [ho, hx, Instr.loadAt, Instr.sureAddr, Sem.run_bind, Sem.run_pure, Result.andThen_ok, run_loadVar_row w g t 49 cs (0, 0) _ hg Tryd.underlying49 rfl (by rw [hn]; exact i53)]
    exact hK _ _ h

theorem storeRow {ops : Array Oper} {rest : List Oper} {op : Oper} {a : Act} {w : World} {Q : Exit → Act → World → Prop} (hgd : op.guard = none) (x y : Operand) (ho : op.op = .store 49 x y)
    (g : Nat) (hx : a.eval x = .pointer (some ⟨g, 0, none⟩)) (old cs : Array Value) (hy : a.eval y = .agg cs) (t : TypeId) (hg : w.heap[g]? = some (.cells old t (0, 0))) (hn : cs.size = 8) (ho' : old.size = 8) (h1 : cs.all (·.oneCell') = true)
    (B : Nat) (w0 : World) (hb : Below B w0 w) (hBg : B ≤ g)
    (h : ∀ w', w'.heap[g]? = some (.cells cs t (0, 0)) → Below B w0 w' → wpList Tryd.prog ops Q rest (a.put op.dst undef) w') : wpList Tryd.prog ops Q (op :: rest) a w :=
  wpList_plain hgd fun _ hK => by
    unfold Oper.wp execOp
    simp only [ho, hx, hy, Instr.storeAt, Instr.sureAddr, Sem.run_bind, Sem.run_pure, Result.andThen_ok, run_storeVar_row w g t 49 old cs hg (by rw [hn]; exact i53) (by omega) h1]
    exact hK _ _ (h _ (setRow_heap w g _ _ t _ hg) (below_setRow hb hBg _))
theorem vals_all (l : List B8) : (vals l).toArray.all (·.oneCell') = true := by
  rw [Array.all_eq_true_iff_forall_mem]
  intro v hv
  exact vals_one l v (by simpa using hv)

theorem by8_take (l : List B8) (p : Nat) (h : p < l.length) : by8 l p = (l.drop p).take 8 ++ List.replicate (8 - (l.length - p)) 0 := by
  refine List.ext_getElem ?_ fun i h1 h2 => ?_
  · simp [by8]; omega
  · have hi : i < 8 := by simpa [by8] using h1
    rw [show (by8 l p)[i] = l.getD (p + i) 0 by simp [by8]]
    by_cases hl : p + i < l.length
    · rw [List.getElem_append_left (by simp; omega)]
      simp [hl]
    · rw [List.getElem_append_right (by simp; omega)]
      simp
      rw [List.getElem?_eq_none (by omega)]
      rfl

set_option maxRecDepth 100000 in
theorem eightW (b off : Nat) (l : List B8) (n c p : Nat) (w : World) (hn : l.length = n) (hr : Rd w (some ⟨b, off, none⟩) l) (hb : b < w.heap.size) (hp : p < n) (hc : n ≤ c) (hc2 : c ≤ maxLen) :
    Calls Tryd.prog 27 #[.slice (some ⟨b, off, none⟩) n c, .int .i64 (p : Int)] w fun e w' => e = .returned (.agg (vals (by8 l p)).toArray) ∧ Below w.heap.size w w' := by
  have HT : Hid (∀ w', Below w.heap.size w w' → Rd w' (some ⟨b, off, none⟩) l) := Lib.hid fun w' hb' => Rd.below hr hb' (fun x _ hx => by injection hx with hx; subst hx; exact hb)
  have HV : Hid ((vals ((l.drop p).take 8)).length = Nat.min (n - p) 8) := Lib.hid (by rw [vals_length, List.length_take, List.length_drop, hn]; exact Nat.min_comm _ _)
  have HV8 : Hid ((vals ((l.drop p).take 8)).length ≤ 8) := Lib.hid (by rw [vals_length, List.length_take]; omega)
  have HF : Hid (0 + (vals ((l.drop p).take 8)).length ≤ (vals (List.replicate 8 0#8)).length) := Lib.hid (by have := HV8.out; rw [vals_length (List.replicate 8 0#8), List.length_replicate]; omega)
  have HS : Hid (splice (vals (List.replicate 8 0#8)) 0 (vals ((l.drop p).take 8)) = vals (by8 l p)) := Lib.hid (by
    rw [by8_take l p (by omega)]
    unfold splice
    rw [vals_append]
    simp only [List.take_zero, List.nil_append, Nat.zero_add, vals, List.length_map, List.length_take, List.length_drop, List.drop_replicate, ← List.map_drop]
    rw [show 8 - min 8 (l.length - p) = 8 - (l.length - p) by omega]
    rfl)
  obtain ⟨w1, hw1⟩ : ∃ w1, w1 = (w.alloc (.cells #[.int .u8 0, .int .u8 0, .int .u8 0, .int .u8 0, .int .u8 0, .int .u8 0, .int .u8 0, .int .u8 0] 49)) := ⟨_, rfl⟩
  have hsz1 : w1.heap.size = w.heap.size + 1 := by rw [hw1]; simp
  have B1 : Hid (Below (w.heap.size + 1) w1 (w1.alloc (.cells #[.int .u8 0, .int .u8 0, .int .u8 0, .int .u8 0, .int .u8 0, .int .u8 0, .int .u8 0, .int .u8 0] 49)).drew) := Lib.hid (((Below.refl _ _).alloc (by omega) _).drew)
  have B0 : Hid (Below w.heap.size w w1) := Lib.hid (by rw [hw1]; exact (Below.refl _ _).alloc (Nat.le_refl _) _)
  have G1 : Hid ((w1.alloc (.cells #[.int .u8 0, .int .u8 0, .int .u8 0, .int .u8 0, .int .u8 0, .int .u8 0, .int .u8 0, .int .u8 0] 49)).drew.heap[w.heap.size + 1]? = some (.cells (vals (List.replicate 8 0#8)).toArray 49 (0, 0))) := Lib.hid (by
    rw [← hsz1]; exact heap_alloc_new w1 _)
  have G0 : Hid (w1.heap[w.heap.size]? = some (.cells zero8 49 (0, 0))) := Lib.hid (by rw [hw1]; exact heap_alloc_new w _)
  have HC : Hid (∀ j v, (vals ((l.drop p).take 8))[j]? = some v → (w1.alloc (.cells #[.int .u8 0, .int .u8 0, .int .u8 0, .int .u8 0, .int .u8 0, .int .u8 0, .int .u8 0, .int .u8 0] 49)).drew.cell? ((⟨b, off + p, none⟩ : Addr).add j) = some v) := Lib.hid fun j v hj => by
    have hj' : j < (vals ((l.drop p).take 8)).length := (List.getElem?_eq_some_iff.1 hj).1
    rw [vals_length, List.length_take, List.length_drop] at hj'
    have h1 := (Rd.cells (HT.out _ (B0.out.trans (B1.out.mono (by omega)))))
    rcases h1 with h1 | ⟨b', off', e, h1⟩
    · rw [h1] at hj'; simp at hj'
    · injection e with e
      injection e with e1 e2
      subst e1 e2
      rw [Addr.add_lit, Nat.add_assoc, h1 (p + j) (by omega), ← hj]
      simp [vals, show p + j < l.length by omega, show j < 8 by omega]
  have L8 : Hid ((vals (by8 l p)).toArray.size = 8) := Lib.hid (by simp [vals_length, by8_len])
  have hpc : (p : Int) < (c : Int) := by omega
  have hpn : (p : Int) < (n : Int) := by omega
  have hpn' : p ≤ n := by omega
  have hpc' : p ≤ c := by omega
  have hncx : (n : Int) ≤ (c : Int) := by omega
  have hne : ¬ c = p := by omega
  unfold maxLen at hc2
  clear hr hn
  go_enter Tryd.func27, Tryd.ntmps27
  go_wp2
  rw [← hw1]
  replace hw1 := Lib.hid hw1
  go_region_law (refine step_copy_splice rfl (.tmp 6) (.tmp 9) 22 22 rfl 5 Tryd.underlying22 s5 _ _ 8 8 (n - p) (c - p) rfl rfl (w.heap.size + 1) 0 (vals (List.replicate 8 0#8)) 49 G1.out (vals ((l.drop p).take 8)) HV.out (fun _ => ⟨rfl, ⟨b, off + p, none⟩, rfl, HC.out⟩) HF.out (vals_one _) (w.heap.size + 1) w1 B1.out (Nat.le_refl _) ?_; intro w4 hg4 hb4)
  have H4 : Hid (w4.heap[w.heap.size + 1]? = some (.cells (vals (by8 l p)).toArray 49 (0, 0))) := Lib.hid (by rw [← HS.out]; exact hg4.out)
  have H0 : Hid (w4.heap[w.heap.size]? = some (.cells zero8 49 (0, 0))) := Lib.hid ((hb4.block _ (by omega)).trans G0.out)
  have HB := Lib.hid (B0.out.trans (hb4.mono (by omega)))
  clear hg4 hb4
  go_wp2_with (first
    | (refine loadRow rfl (.tmp 5) rfl (w.heap.size + 1) rfl (vals (by8 l p)).toArray 49 H4.out L8.out ?_)
    | (refine storeRow rfl (.tmp 4) (.tmp 11) rfl w.heap.size rfl zero8 (vals (by8 l p)).toArray rfl 49 H0.out L8.out rfl (vals_all _) w.heap.size w HB.out (Nat.le_refl _) ?_
       intro w9 hg9 hb9))
  refine bodyPost_ret (results_cell_row Tryd.results27 _ _ w.heap.size 49 _ (0, 0) _ rfl hg9 Tryd.underlying49 rfl (by rw [L8.out]; exact i53)) rfl ⟨rfl, hb9⟩

end Go.Proofs.YtjnpfnpeekpleaaDoor.EcY
