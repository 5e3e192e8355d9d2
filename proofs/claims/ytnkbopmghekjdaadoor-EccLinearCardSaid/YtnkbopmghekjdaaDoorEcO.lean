/- The law on mixed words: its walk. -/
import Derived.Test.YtnkbopmghekjdaaDoorEcE
namespace Go.Proofs.YtnkbopmghekjdaaDoor.EcO
open Go.ChangeShapes Go.WideShapes Go.ChangeAt Go.RowKit
open EcM EcA EcB EcC EcE
set_option linter.unusedVariables false
set_option maxHeartbeats 1000000

set_option maxRecDepth 100000 in
theorem lawOut (a b : Nat) (ha : a < 18446744073709551616) (hb : b < 18446744073709551616) (i j : Int) (w : World) (hl : Laid w) (hij : i < 0 ∨ 63 < i ∨ j < 0 ∨ 63 < j) :
    Calls Tryd.prog 6 #[.int .u64 (a : Int), .int .u64 (b : Int), .int .i64 i, .int .i64 j] w fun e w' => e = .returned (.bool true) ∧ w' = w := by
  have HK := Lib.hid (known w hl)
  have hab : a ^^^ b < 18446744073709551616 := Nat.xor_lt_two_pow (n := 64) ha hb
  have HC := Lib.hid (checkS (a ^^^ b) hab w hl)
  have HA := Lib.hid (checkS a ha w hl)
  have HB := Lib.hid (checkS b hb w hl)
  have e1 : bits .xor .u64 (a : Int) (b : Int) = ((a ^^^ b : Nat) : Int) := xor64 a b ha hb
  have e2 : bits .xor .u8 (chk a : Int) (chk b : Int) = ((chk (a ^^^ b) : Nat) : Int) := by rw [chk_xor]; exact xor8 ⟨chk a, chk_lt a⟩ ⟨chk b, chk_lt b⟩
  clear hl hab
  generalize hx : chk (a ^^^ b) = x at HC e2
  clear hx
  generalize hy : chk a = y at HA e2
  clear hy
  generalize hz : chk b = z at HB e2
  clear hz
  go_enter Tryd.func6, Tryd.ntmps6
  go_wp2_with fail
  refine HK.out.mono ?_
  rintro e _ ⟨rfl, rfl⟩
  go_wp2_with fail
  refine HC.out.mono ?_
  rintro e _ ⟨rfl, rfl⟩
  go_wp2_with fail
  refine HA.out.mono ?_
  rintro e _ ⟨rfl, rfl⟩
  go_wp2_with fail
  refine HB.out.mono ?_
  rintro e _ ⟨rfl, rfl⟩
  go_wp2_with fail
  go_wp2
  all_goals (first | (go_ret; exact ⟨rfl, rfl⟩) | (exfalso; simp_all; omega) | (exfalso; omega) | trace_state)

end Go.Proofs.YtnkbopmghekjdaaDoor.EcO
