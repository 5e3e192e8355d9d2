/- Digests: words, turned. -/
import Derived.Test.YtlfohiejlajmaaaDoorShT
import Derived.Test.YtlfohiejlajmaaaDoorShM
import Derived.Test.YtlfohiejlajmaaaDoorReg
import Derived.Laws.Bits64
import Derived.Laws.Bits64b
import Derived.StillTailTactics
namespace Go.Proofs.YtlfohiejlajmaaaDoor.ShA
open Go.ChangeShapes Go.WideShapes Go.ChangeAt Go.RowKit
open ShM Mem
set_option linter.unusedVariables false
set_option maxHeartbeats 2000000

theorem o32 (a b : W) : bits .or .u32 (a.toNat : Int) (b.toNat : Int) = ((a ||| b).toNat : Int) := by
  rw [u32_or_nat _ _ a.isLt b.isLt, BitVec.toNat_or]
theorem x32 (a b : W) : bits .xor .u32 (a.toNat : Int) (b.toNat : Int) = ((a ^^^ b).toNat : Int) := by
  rw [u32_xor_nat _ _ a.isLt b.isLt, BitVec.toNat_xor]
theorem n32 (a b : W) : bits .and .u32 (a.toNat : Int) (b.toNat : Int) = ((a &&& b).toNat : Int) := by
  rw [u32_and_nat _ _ a.isLt b.isLt, BitVec.toNat_and]
theorem sr32 (a : W) (n : Nat) (m : Int) (h : m = 2 ^ n) : (a.toNat : Int) / m = ((a >>> n).toNat : Int) := by
  subst h
  rw [BitVec.toNat_ushiftRight, Nat.shiftRight_eq_div_pow]
  push_cast
  rfl
theorem sl32 (a : W) (n : Nat) (m : Int) (h : m = 2 ^ n) : IntKind.u32.wrap ((a.toNat : Int) * m) = ((a <<< n).toNat : Int) := by
  subst h
  rw [IntKind.wrap_u32]
  simp [BitVec.toNat_shiftLeft, Nat.shiftLeft_eq]
theorem ad32 (a b : W) : IntKind.u32.wrap ((a.toNat : Int) + (b.toNat : Int)) = ((a + b).toNat : Int) := by
  rw [IntKind.wrap_u32]
  simp [BitVec.toNat_add]
/-- The numbers by which is turned. -/
def Tn (n : Nat) : Prop := n = 2 ∨ n = 6 ∨ n = 7 ∨ n = 11 ∨ n = 13 ∨ n = 17 ∨ n = 18 ∨ n = 19 ∨ n = 22 ∨ n = 25
theorem rotW (x : W) (n : Nat) (hn : Tn n) (w : World) : Calls Tryd.prog 35 #[.int .u32 (x.toNat : Int), .int .i64 (-(n : Int))] w fun e w' => e = .returned (.int .u32 ((rr x n).toNat : Int)) ∧ w' = w := by
  have hr : rr x n = (x <<< (32 - n)) ||| (x >>> n) := by unfold rr; exact BitVec.or_comm _ _
  have hres : ((rr x n).toNat : Int) = bits .or .u32 (IntKind.u32.wrap ((x.toNat : Int) * 2 ^ (32 - n))) ((x.toNat : Int) / 2 ^ n) := by
    rw [sl32 x (32 - n) _ rfl, sr32 x n _ rfl, o32, hr]
  rw [hres]
  clear hres hr
  rcases hn with rfl | rfl | rfl | rfl | rfl | rfl | rfl | rfl | rfl | rfl
  · have ha : bits .and .u64 18446744073709551614 31 = 30 := by decide +kernel
    have ha2 : bits .and .u64 (IntKind.u64.wrap (-2)) 31 = 30 := by decide +kernel
    go_enter Tryd.func35, Tryd.ntmps35
    go_wp2
    go_ret
    exact ⟨by first | rfl | simp, rfl⟩
  · have ha : bits .and .u64 18446744073709551610 31 = 26 := by decide +kernel
    have ha2 : bits .and .u64 (IntKind.u64.wrap (-6)) 31 = 26 := by decide +kernel
    go_enter Tryd.func35, Tryd.ntmps35
    go_wp2
    go_ret
    exact ⟨by first | rfl | simp, rfl⟩
  · have ha : bits .and .u64 18446744073709551609 31 = 25 := by decide +kernel
    have ha2 : bits .and .u64 (IntKind.u64.wrap (-7)) 31 = 25 := by decide +kernel
    go_enter Tryd.func35, Tryd.ntmps35
    go_wp2
    go_ret
    exact ⟨by first | rfl | simp, rfl⟩
  · have ha : bits .and .u64 18446744073709551605 31 = 21 := by decide +kernel
    have ha2 : bits .and .u64 (IntKind.u64.wrap (-11)) 31 = 21 := by decide +kernel
    go_enter Tryd.func35, Tryd.ntmps35
    go_wp2
    go_ret
    exact ⟨by first | rfl | simp, rfl⟩
  · have ha : bits .and .u64 18446744073709551603 31 = 19 := by decide +kernel
    have ha2 : bits .and .u64 (IntKind.u64.wrap (-13)) 31 = 19 := by decide +kernel
    go_enter Tryd.func35, Tryd.ntmps35
    go_wp2
    go_ret
    exact ⟨by first | rfl | simp, rfl⟩
  · have ha : bits .and .u64 18446744073709551599 31 = 15 := by decide +kernel
    have ha2 : bits .and .u64 (IntKind.u64.wrap (-17)) 31 = 15 := by decide +kernel
    go_enter Tryd.func35, Tryd.ntmps35
    go_wp2
    go_ret
    exact ⟨by first | rfl | simp, rfl⟩
  · have ha : bits .and .u64 18446744073709551598 31 = 14 := by decide +kernel
    have ha2 : bits .and .u64 (IntKind.u64.wrap (-18)) 31 = 14 := by decide +kernel
    go_enter Tryd.func35, Tryd.ntmps35
    go_wp2
    go_ret
    exact ⟨by first | rfl | simp, rfl⟩
  · have ha : bits .and .u64 18446744073709551597 31 = 13 := by decide +kernel
    have ha2 : bits .and .u64 (IntKind.u64.wrap (-19)) 31 = 13 := by decide +kernel
    go_enter Tryd.func35, Tryd.ntmps35
    go_wp2
    go_ret
    exact ⟨by first | rfl | simp, rfl⟩
  · have ha : bits .and .u64 18446744073709551594 31 = 10 := by decide +kernel
    have ha2 : bits .and .u64 (IntKind.u64.wrap (-22)) 31 = 10 := by decide +kernel
    go_enter Tryd.func35, Tryd.ntmps35
    go_wp2
    go_ret
    exact ⟨by first | rfl | simp, rfl⟩
  · have ha : bits .and .u64 18446744073709551591 31 = 7 := by decide +kernel
    have ha2 : bits .and .u64 (IntKind.u64.wrap (-25)) 31 = 7 := by decide +kernel
    go_enter Tryd.func35, Tryd.ntmps35
    go_wp2
    go_ret
    exact ⟨by first | rfl | simp, rfl⟩
theorem turnW (x : W) (n : Nat) (hn : Tn n) (w : World) : Calls Tryd.prog 33 #[.int .u32 (x.toNat : Int), .int .i64 (n : Int)] w fun e w' => e = .returned (.int .u32 ((rr x n).toNat : Int)) ∧ w' = w := by
  have HR := Lib.hid (fun w => rotW x n hn w)
  have hw : IntKind.i64.wrap (-(n : Int)) = -(n : Int) := by
    unfold Tn at hn
    rw [IntKind.wrap_i64]; omega
  go_enter Tryd.func33, Tryd.ntmps33
  go_wp2_with fail
  refine (HR.out _).mono ?_
  rintro e w' ⟨rfl, rfl⟩
  go_wp2
  go_ret
  exact ⟨rfl, rfl⟩
end Go.Proofs.YtlfohiejlajmaaaDoor.ShA
