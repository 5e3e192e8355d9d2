/- Digests: 32 bytes against 32 bytes. -/
import Derived.Test.YtlfohiejlajmaaaDoorShG
namespace Go.Proofs.YtlfohiejlajmaaaDoor.ShH
open Go.ChangeShapes Go.WideShapes Go.ChangeAt Go.RowKit
open ShM ShA ShB ShC ShD ShE ShF ShG Mem
set_option linter.unusedVariables false
set_option maxHeartbeats 2000000

/-- A sum's 32 cells. -/
def b32 (l : List ShM.B8) : Array Value := ((List.range 32).map fun i => Value.int .u8 ((l.getD i 0).toNat : Int)).toArray
theorem b32_at (l : List ShM.B8) (i : Nat) (h : i < 32) : (b32 l)[i]? = some (.int .u8 ((l.getD i 0).toNat : Int)) := by
  unfold b32
  rw [List.getElem?_toArray, List.getElem?_map, List.getElem?_range h]
  rfl
theorem b32_size (l : List ShM.B8) : (b32 l).size = 32 := by simp [b32]
theorem part5 (l : List ShM.B8) (i : Nat) (h : i < 32) (w : World) : (part 5 (b32 l) i).run Tryd.prog w = .ok (.int .u8 ((l.getD i 0).toNat : Int)) w := run_part_plain w (by kernel_rfl) (b32_at l i h)
theorem eqItems_b (d : Nat) (a b : List ShM.B8) (w : World) : ∀ is : List Nat, (∀ i ∈ is, i < 32) → (Op.eqItems (d + 1) 5 1 (b32 a) (b32 b) is).run Tryd.prog w = .ok (decide (∀ i ∈ is, a.getD i 0 = b.getD i 0)) w
  | [], _ => by simp [Op.eqItems]
  | i :: is, h => by
    have hi := h i (List.mem_cons_self ..)
    have e1 := part5 a i hi w
    have e2 := part5 b i hi w
    have e3 := run_equalIn_int (P := Tryd.prog) w d 5 .u8 .u8 ((a.getD i 0).toNat : Int) ((b.getD i 0).toNat : Int) Tryd.underlying5
    have ih := eqItems_b d a b w is fun j hj => h j (List.mem_cons_of_mem _ hj)
    simp only [Op.eqItems, Nat.mul_one, Sem.run_bind, e1, e2, e3, Result.andThen_ok]
    by_cases hc : a.getD i 0 = b.getD i 0
    · rw [hc]
      simp only [BEq.rfl, Bool.not_true, Bool.false_eq_true, if_false, ih]
      congr 1
      simp only [List.forall_mem_cons, hc, true_and]
    · have hn : (((a.getD i 0).toNat : Int) == ((b.getD i 0).toNat : Int)) = false := by
        rw [beq_eq_false_iff_ne]
        exact fun e => hc (BitVec.eq_of_toNat_eq (Int.ofNat.inj e))
      rw [hn]
      simp only [Bool.not_false, if_true, Sem.run_pure]
      congr 1
      exact (decide_eq_false fun h => hc (h i (List.mem_cons_self ..))).symm
theorem eql28 (a b : List ShM.B8) (w : World) : (binOp .eql 28 (.agg (b32 a)) (.agg (b32 b))).run Tryd.prog w = .ok (.bool (decide (∀ i ∈ List.range 32, a.getD i 0 = b.getD i 0))) w := by
  obtain ⟨i, hi, hs⟩ : ∃ i, Tryd.prog.info? 5 = some i ∧ i.size = 1 := ⟨_, rfl, rfl⟩
  have hc : Tryd.prog.cellsOf 5 = 1 := by kernel_rfl
  rw [run_eql_struct, show (10000 : Nat) = 9998 + 1 + 1 from rfl, run_equalIn_array w (9998 + 1) (b32 a) (b32 b) Tryd.underlying28 hi, hc, eqItems_b 9998 a b w _ fun j hj => List.mem_range.1 hj]
  rfl
end Go.Proofs.YtlfohiejlajmaaaDoor.ShH
