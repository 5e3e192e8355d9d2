/- The law of digests that go on: its facts. -/
import Derived.Test.YtlfohiejlajmaaaDoorRfI
import Derived.Test.YtlfohiejlajmaaaDoorShY
namespace Go.Proofs.YtlfohiejlajmaaaDoor.RfJ
open Go.ChangeShapes Go.WideShapes Go.ChangeAt Go.RowKit
open ShM ShA ShB ShC ShD ShE ShF ShG ShH ShI ShJ ShK ShL ShN ShO ShP ShS RfF RfG RfH Mem
open ShT (Rd vals vals_length vals_one)
set_option linter.unusedVariables false
set_option maxHeartbeats 4000000

theorem gNeq27 (x y : Operand) (A B : Array Value) (w : World) : (eqGuard .neq 27 x y (.agg A) (.agg B)).run Tryd.prog w = .ok () w := by kernel_rfl
theorem neq27 (a b : List ShM.B8) (w : World) : (binOp .neq 27 (.agg (b32 a)) (.agg (b32 b))).run Tryd.prog w = .ok (.bool (!decide (∀ i ∈ List.range 32, a.getD i 0 = b.getD i 0))) w := by
  obtain ⟨i, hi, hs⟩ : ∃ i, Tryd.prog.info? 5 = some i ∧ i.size = 1 := ⟨_, rfl, rfl⟩
  have hc : Tryd.prog.cellsOf 5 = 1 := by kernel_rfl
  have h1 : (binOp .neq 27 (.agg (b32 a)) (.agg (b32 b))).run Tryd.prog w = ((Op.equalIn 10000 27 (.agg (b32 a)) (.agg (b32 b))).run Tryd.prog w).andThen fun r w => .ok (.bool !r) w := by
    simp only [binOp, Sem.run_bind, Sem.run_pure]
    rfl
  rw [h1, show (10000 : Nat) = 9998 + 1 + 1 from rfl, run_equalIn_array w (9998 + 1) (b32 a) (b32 b) Tryd.underlying27 hi, hc, eqItems_b 9998 a b w _ fun j hj => List.mem_range.1 hj]
  rfl
theorem neqSame27 (a : List ShM.B8) (w : World) : (binOp .neq 27 (.agg (b32 a)) (.agg (b32 a))).run Tryd.prog w = .ok (.bool false) w := by
  rw [neq27]
  simp
theorem loadOf27 {w : World} {g : Nat} {M : Array Value} (h : Mem.Blk w g 27 M) (hM : (Tryd.prog.info? 27).map (·.size) = some M.size) : (loadVar 27 ⟨g, 0, none⟩).run Tryd.prog w = .ok (.agg M) w :=
  run_loadVar_row w g 27 27 M (0, 0) _ h Tryd.underlying27 rfl hM
theorem exec_neq27 {o : Oper} {ev : Operand → Value} (x y : Operand) (ho : o.op = .binOp .neq 27 x y 27) (A B : Array Value) (hx : ev x = .agg A) (hy : ev y = .agg B) (v : Value) (w : World) (h : (binOp .neq 27 (.agg A) (.agg B)).run Tryd.prog w = .ok v w) :
    (execOp ev o).run Tryd.prog w = .ok (.value v) w := by
  have hg := gNeq27 x y A B w
  unfold execOp
  simp only [ho, hx, hy, Sem.run_bind, Sem.run_pure, Result.andThen_ok, hg, h]
theorem own_base {w : World} {base base' : Nat} {v : Value} {xs : List ShM.B8} (h : ShT.Own w base v xs) (hb : base' ≤ base) : ShT.Own w base' v xs := by
  refine ⟨h.1, ?_⟩
  rcases h.2 with hn | ⟨g, cap, cur, e, hg, rest⟩
  · exact .inl hn
  · exact .inr ⟨g, cap, cur, e, Nat.le_trans hb hg, rest⟩
/-- A slice of bools that came in. -/
def Bools (w : World) (a : Option Addr) (n : Nat) : Prop := ∀ i, i < n → ∃ b off r, a = some ⟨b, off, none⟩ ∧ w.cell? ⟨b, off + i, none⟩ = some (.bool r) ∧ b < w.heap.size
end Go.Proofs.YtlfohiejlajmaaaDoor.RfJ
