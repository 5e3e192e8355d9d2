/- Contracts of the words' checks: the counts of bits. -/
import Derived.Test.YtjnpfnpeekpleaaDoorRows
import Derived.Test.YtjnpfnpeekpleaaDoorEcM
import Derived.WalkKit
import Derived.ProofKit
import Derived.OpenShut
import Derived.ShutString
import Derived.ChangeOld
import Derived.Below
import Derived.Outline
import Derived.IntWalk
import Derived.Lib.Hide
import Derived.Laws.OwnMore
import Derived.Laws.Rows
import Derived.Laws.Tables
import Derived.RegionTactic
import Derived.OwnWalk
import Derived.BigQuiet
import Derived.Laws.Bits64
import Derived.Laws.Bits64b
namespace Go.Proofs.YtjnpfnpeekpleaaDoor.EcA
open Go.ChangeShapes Go.WideShapes Go.ChangeAt Go.RowKit
open EcM
set_option linter.unusedVariables false
set_option maxHeartbeats 1000000

theorem ret_int {k : IntKind} {a b : Int} (h : a = b) : Ending.returned (.int k a) = .returned (.int k b) := by rw [h]
theorem ret_bool {a b : Bool} (h : a = b) : Ending.returned (.bool a) = .returned (.bool b) := by rw [h]

theorem andL (a b : Nat) (hb : b < 18446744073709551616) : bits .and .u64 (a : Int) (b : Int) = ((a &&& b : Nat) : Int) := by
  have hx : a &&& b < 2 ^ 64 := Nat.and_lt_two_pow _ (by omega)
  have h1 : (BitVec.ofInt 64 (a : Int)).toNat = a % 2 ^ 64 := by
    rw [BitVec.ofInt_natCast, BitVec.toNat_ofNat]
  have h2 : (BitVec.ofInt 64 (b : Int)).toNat = b := by
    rw [BitVec.ofInt_natCast, BitVec.toNat_ofNat]; exact Nat.mod_eq_of_lt (by omega)
  show IntKind.u64.wrap ((BitVec.ofInt 64 (a : Int) &&& BitVec.ofInt 64 (b : Int)).toNat : Int) = _
  rw [BitVec.toNat_and, h1, h2, IntKind.wrap_u64]
  have e : (a % 2 ^ 64) &&& b = a &&& b := by
    have := Nat.and_mod_two_pow (a := a) (b := b) (n := 64)
    rw [Nat.mod_eq_of_lt hx, Nat.mod_eq_of_lt (show b < 2 ^ 64 by omega)] at this
    exact this.symm
  rw [e]
  omega
theorem wrapL (a : Nat) (h : a < 18446744073709551616) : IntKind.u64.wrap (a : Int) = (a : Int) := by
  rw [IntKind.wrap_u64]; omega
theorem m85 : M 85 8 = 6148914691236517205 := by decide
theorem m51 : M 51 8 = 3689348814741910323 := by decide
theorem m15 : M 15 8 = 1085102592571150095 := by decide
theorem a85 (a : Nat) : bits .and .u64 (a : Int) 6148914691236517205 = ((a &&& M 85 8 : Nat) : Int) := by rw [m85]; exact andL a 6148914691236517205 (by omega)
theorem a51 (a : Nat) : bits .and .u64 (a : Int) 3689348814741910323 = ((a &&& M 51 8 : Nat) : Int) := by rw [m51]; exact andL a 3689348814741910323 (by omega)
theorem a15 (a : Nat) : bits .and .u64 (a : Int) 1085102592571150095 = ((a &&& M 15 8 : Nat) : Int) := by rw [m15]; exact andL a 1085102592571150095 (by omega)
theorem q1 (x : Nat) : IntKind.u64.wrap (bits .and .u64 ((x : Int) / 2) 6148914691236517205 + bits .and .u64 (x : Int) 6148914691236517205) = ((s1 8 x : Nat) : Int) := by
  rw [show (x : Int) / 2 = ((x / 2 : Nat) : Int) by omega, a85, a85, ← Int.natCast_add]
  refine wrapL _ ?_
  have h1 : x / 2 &&& M 85 8 ≤ M 85 8 := Nat.and_le_right
  have h2 : x &&& M 85 8 ≤ M 85 8 := Nat.and_le_right
  rw [m85] at *
  omega
theorem q2 (x : Nat) : IntKind.u64.wrap (bits .and .u64 ((x : Int) / 4) 3689348814741910323 + bits .and .u64 (x : Int) 3689348814741910323) = ((s2 8 x : Nat) : Int) := by
  rw [show (x : Int) / 4 = ((x / 4 : Nat) : Int) by omega, a51, a51, ← Int.natCast_add]
  refine wrapL _ ?_
  have h1 : x / 4 &&& M 51 8 ≤ M 51 8 := Nat.and_le_right
  have h2 : x &&& M 51 8 ≤ M 51 8 := Nat.and_le_right
  rw [m51] at *
  omega
theorem s2_le (x : Nat) : s2 8 x ≤ 7378697629483820646 := by
  unfold s2
  have h1 : x / 4 &&& M 51 8 ≤ M 51 8 := Nat.and_le_right
  have h2 : x &&& M 51 8 ≤ M 51 8 := Nat.and_le_right
  rw [m51] at *
  omega
theorem q3 (x : Nat) (h : x ≤ 7378697629483820646) : bits .and .u64 (IntKind.u64.wrap ((x : Int) / 16 + (x : Int))) 1085102592571150095 = ((s3 8 x : Nat) : Int) := by
  rw [show (x : Int) / 16 + (x : Int) = ((x / 16 + x : Nat) : Int) by omega, wrapL _ (by omega), a15]
  rfl
theorem q4 (x : Nat) (h : x ≤ 578721382704613384) : IntKind.u64.wrap ((x : Int) + (x : Int) / 256) = ((x + x / 256 : Nat) : Int) := by
  rw [show (x : Int) + (x : Int) / 256 = ((x + x / 256 : Nat) : Int) by omega, wrapL _ (by omega)]
theorem q5 (x : Nat) (h : x ≤ 600000000000000000) : IntKind.u64.wrap ((x : Int) + (x : Int) / 65536) = ((x + x / 65536 : Nat) : Int) := by
  rw [show (x : Int) + (x : Int) / 65536 = ((x + x / 65536 : Nat) : Int) by omega, wrapL _ (by omega)]
theorem q6 (x : Nat) (h : x ≤ 700000000000000000) : IntKind.u64.wrap ((x : Int) + (x : Int) / 4294967296) = ((x + x / 4294967296 : Nat) : Int) := by
  rw [show (x : Int) + (x : Int) / 4294967296 = ((x + x / 4294967296 : Nat) : Int) by omega, wrapL _ (by omega)]

theorem i127 (x : Int) (h0 : 0 ≤ x) (h1 : x < 9223372036854775808) : bits .and .i64 x 127 = x % 128 := bits_mask .i64 63 (by decide) (fun n h0 h1 => by simp only [IntKind.wrap, IntKind.signed, IntKind.bits]; simp; omega) 7 (by decide) x h0 (by omega)

theorem ones64 (x : Nat) (w : World) : Calls Tryd.prog 34 #[.int .u64 (x : Int)] w fun e w' => e = .returned (.int .i64 (pc x : Int)) ∧ w' = w := by
  go_enter Tryd.func34, Tryd.ntmps34
  go_wp2
  go_ret
  refine ⟨ret_int ?_, rfl⟩
  rw [q1]
  rw [q2, q3 _ (s2_le _), show s3 8 (s2 8 (s1 8 x)) = full 8 x from rfl]
  have hf := full_bounds x
  generalize hg : full 8 x = y at *
  rw [q4 _ hf, q5 _ (by omega), q6 _ (by omega), ← ones_eq]
  unfold ones
  rw [hg]
  simp only
  rw [show wrap64 (((y + y / 256 + (y + y / 256) / 65536 + (y + y / 256 + (y + y / 256) / 65536) / 4294967296 : Nat)) : Int) = ((y + y / 256 + (y + y / 256) / 65536 + (y + y / 256 + (y + y / 256) / 65536) / 4294967296 : Nat) : Int) by unfold wrap64; omega]
  rw [i127 _ (by omega) (by omega)]
  have e := fun d => Nat.and_two_pow_sub_one_eq_mod d 7
  rw [show (2 : Nat) ^ 7 - 1 = 127 by rfl] at e
  rw [e]
  omega

set_option maxRecDepth 100000 in
theorem ones8 (x : Nat) (h1 : x < 256) (w : World) : Calls Tryd.prog 23 #[.int .u8 (x : Int)] w fun e w' => e = .returned (.int .i64 (pc x : Int)) ∧ w' = w := by
  have hi : ∀ s : ByteArray, s = Lib.pop8tab → ∀ w, (Instr.index 9 (.string s) (.int .u8 (x : Int))).run Tryd.prog w = .ok (.int .u8 (Lib.pop8 x)) w := by
    intro s hs w
    subst hs
    simpa using Lib.run_index_pop8tab (P := Tryd.prog) (w := w) 9 .u8 (x : Int) Tryd.underlying9 (by omega) (by omega)
  go_enter Tryd.func23, Tryd.ntmps23
  go_wp2
  go_ret
  refine ⟨ret_int ?_, rfl⟩
  have e := Lib.pop8_eq ⟨x, h1⟩
  have l := Lib.onesCount_le8 ⟨x, h1⟩
  simp only at e l
  rw [e]
  unfold pc
  unfold wrap64
  omega
end Go.Proofs.YtjnpfnpeekpleaaDoor.EcA
