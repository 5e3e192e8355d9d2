/- Contracts of the words' checks: Syndrome, Column, Mend. -/
import Derived.Test.YtjnpfnpeekpleaaDoorEcB
namespace Go.Proofs.YtjnpfnpeekpleaaDoor.EcC
open Go.ChangeShapes Go.WideShapes Go.ChangeAt Go.RowKit
open EcM EcA EcB
set_option linter.unusedVariables false
set_option maxHeartbeats 1000000

theorem xor8 : ∀ a b : Fin 256, bits .xor .u8 (a.val : Int) (b.val : Int) = ((a.val ^^^ b.val : Nat) : Int) := by
  intro a b
  have ha := a.isLt
  have hb := b.isLt
  have hx : a.val ^^^ b.val < 2 ^ 8 := Nat.xor_lt_two_pow (by omega) (by omega)
  have h1 : (BitVec.ofInt 8 (a.val : Int)).toNat = a.val := by
    rw [BitVec.ofInt_natCast, BitVec.toNat_ofNat]; exact Nat.mod_eq_of_lt (by omega)
  have h2 : (BitVec.ofInt 8 (b.val : Int)).toNat = b.val := by
    rw [BitVec.ofInt_natCast, BitVec.toNat_ofNat]; exact Nat.mod_eq_of_lt (by omega)
  show IntKind.u8.wrap ((BitVec.ofInt 8 (a.val : Int) ^^^ BitVec.ofInt 8 (b.val : Int)).toNat : Int) = _
  rw [BitVec.toNat_xor, h1, h2, IntKind.wrap_u8]
  omega

theorem colV_eq : colV = (cols.map fun n => Value.int .u8 (Int.ofNat n)).toArray := by kernel_rfl
theorem cols_get (i : Nat) (h : i < 64) : cols[i]? = some (col i) := by
  have hl : cols.length = 64 := by decide
  unfold col
  rw [List.getD_eq_getElem?_getD, List.getElem?_eq_getElem (by omega)]
  rfl
theorem colV_get (i : Nat) (h : i < 64) : colV[i]? = some (.int .u8 (col i : Int)) := by
  rw [colV_eq, List.getElem?_toArray, List.getElem?_map, cols_get i h]
  rfl

theorem synW (x c : Nat) (hx : x < 18446744073709551616) (hc : c < 256) (w : World) (hl : Laid w) : Calls Tryd.prog 36 #[.int .u64 (x : Int), .int .u8 (c : Int)] w fun e w' => e = .returned (.int .u8 ((chk x ^^^ c : Nat) : Int)) ∧ Below w.heap.size w w' := by
  go_enter Tryd.func36, Tryd.ntmps36
  go_wp2_with fail
  refine (checkW x hx _ hl).mono ?_
  rintro e w1 ⟨rfl, hb⟩
  go_wp2
  go_ret
  refine ⟨ret_int ?_, hb⟩
  exact xor8 ⟨chk x, chk_lt x⟩ ⟨c, hc⟩

theorem ix (k : Nat) (h : k < 64) (w : World) : (Instr.index 61 (.agg colV) (.int .i64 (k : Int))).run Tryd.prog w = .ok (.int .u8 (col k : Int)) w := by
  have hn : (0 : Int) ≤ (k : Int) ∧ (k : Int) < ((64 : Nat) : Int) := by omega
  have hg := colV_get k h
  simp [Instr.index, run_underlying Tryd.underlying61, asIntOf, go_sem, hg, h]

theorem find_none (s k : Nat) (h : ∀ j, j < 64 → col j ≠ s) : find s = none := by
  unfold find
  rw [List.find?_eq_none]
  intro x hx
  have := h x (by simpa using hx)
  simpa using this
theorem find_some (s k : Nat) (hk : k < 64) (h : ∀ j, j < k → col j ≠ s) (he : col k = s) : find s = some k := by
  unfold find
  rw [List.find?_range_eq_some]
  exact ⟨by simpa using he, by simpa using hk, fun j hj => by simpa using h j hj⟩

theorem xor64 (a b : Nat) (ha : a < 18446744073709551616) (hb : b < 18446744073709551616) : bits .xor .u64 (a : Int) (b : Int) = ((a ^^^ b : Nat) : Int) := bits_xor_u64_nat a b ha hb

theorem i44 : (Tryd.prog.info? 61).map (·.size) = some colV.size := by kernel_rfl
theorem ev0 (a : Act) : a.eval (Operand.global 1) = .pointer (some ⟨1, 0, none⟩) := rfl

def Ends (x c : Nat) (w : World) : Ending → World → Prop := fun e w' => e = .returned (.tuple #[.int .u64 ((mend x c).1 : Int), .int .u8 ((mend x c).2.1 : Int), .int .i64 ((mend x c).2.2 : Int)]) ∧ Below w.heap.size w w'

set_option maxRecDepth 100000 in
theorem mendFine (x c : Nat) (hx : x < 18446744073709551616) (hc : c < 256) (w : World) (hl : Laid w) (hs : chk x ^^^ c = 0) : Calls Tryd.prog 31 #[.int .u64 (x : Int), .int .u8 (c : Int)] w (Ends x c w) := by
  have hm : mend x c = (x, c, 0) := by simp [mend, hs]
  unfold Ends
  rw [hm]
  have HS := synW x c hx hc w hl
  rw [hs] at HS
  go_enter Tryd.func31, Tryd.ntmps31
  go_wp2_with fail
  refine HS.mono ?_
  rintro e w1 ⟨rfl, hb⟩
  go_wp2
  go_ret3
  exact ⟨rfl, hb⟩

set_option maxRecDepth 100000 in
theorem mendBit (x c s : Nat) (hx : x < 18446744073709551616) (hc : c < 256) (w : World) (hl : Laid w) (hs : chk x ^^^ c = s) (h0 : s ≠ 0) (h8 : s < 256) (h1 : pc s = 1) : Calls Tryd.prog 31 #[.int .u64 (x : Int), .int .u8 (c : Int)] w (Ends x c w) := by
  have hm : mend x c = (x, c ^^^ s, 1) := by simp [mend, hs, h0, h1]
  unfold Ends
  rw [hm]
  have HS := synW x c hx hc w hl
  rw [hs] at HS
  have HO := fun w => ones8 s h8 w
  rw [h1] at HO
  have hz : ((s : Int) == 0) = false := by simp; omega
  go_enter Tryd.func31, Tryd.ntmps31
  go_wp2_with fail
  refine HS.mono ?_
  rintro e w1 ⟨rfl, hb⟩
  go_wp2_with fail
  refine (HO w1).mono ?_
  rintro e w2 ⟨rfl, rfl⟩
  go_wp2
  go_ret3
  refine ⟨?_, hb⟩
  simp only [xor8 ⟨c, hc⟩ ⟨s, h8⟩]
  rfl

theorem loadG {op : Oper} {a : Act} {w : World} {K : Act → World → Prop} {Q : Exit → Act → World → Prop} (ho : op.op = .load 61 (.global 1)) (hl : Laid w)
    (h : K (a.put op.dst (.agg colV)) w) : Oper.wp Tryd.prog op a w K Q := by
  obtain ⟨⟨tt, zz, hg⟩, _⟩ := hl
  unfold Oper.wp execOp
  simp only [ho, ev0, Instr.loadAt, Instr.sureAddr, Sem.run_bind, Sem.run_pure, Result.andThen_ok, run_loadVar_row w 1 tt 61 colV zz _ hg Tryd.underlying61 rfl i44]
  exact h
end Go.Proofs.YtjnpfnpeekpleaaDoor.EcC
