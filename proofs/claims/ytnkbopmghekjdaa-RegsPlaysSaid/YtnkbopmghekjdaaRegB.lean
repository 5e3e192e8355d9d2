/- Contracts of registers: their kinds. -/
import Derived.Test.YtnkbopmghekjdaaMem
import Derived.Test.YtnkbopmghekjdaaRegA
namespace Go.Proofs.Ytnkbopmghekjdaa.RegB
open Go.ChangeShapes Go.WideShapes Go.ChangeAt Go.RowKit
open RegA Mem
set_option linter.unusedVariables false
set_option maxHeartbeats 1000000

theorem kindK (k : FuncId) (hk : k = 22 ∨ k = 26) (n : Int) (w : World) : Calls Try.prog k #[.int .i64 n] w fun e w' => e = .returned (.int .i64 (kind n)) ∧ w = w' := by
  rcases kind_cover n with (rfl | rfl | rfl | rfl | rfl | rfl | rfl | rfl | rfl | rfl | rfl | rfl | rfl | rfl | rfl | rfl) | ⟨h0, h1, h2, h3, h4, h5, h6, h8, h9, h10, h11, h12, h13, h32, h33, h34⟩
  case inr =>
    have HD : Hid (kind n = 0) := Lib.hid (by unfold kind; rw [if_neg (by omega), if_neg (by omega), if_neg (by omega), if_neg (by omega)])
    rw [HD.out]
    have b0 : (n == 0) = false := by simpa using h0
    have b1 : (n == 1) = false := by simpa using h1
    have b2 : (n == 2) = false := by simpa using h2
    have b3 : (n == 3) = false := by simpa using h3
    have b4 : (n == 4) = false := by simpa using h4
    have b5 : (n == 5) = false := by simpa using h5
    have b6 : (n == 6) = false := by simpa using h6
    have b8 : (n == 8) = false := by simpa using h8
    have b9 : (n == 9) = false := by simpa using h9
    have b10 : (n == 10) = false := by simpa using h10
    have b11 : (n == 11) = false := by simpa using h11
    have b12 : (n == 12) = false := by simpa using h12
    have b13 : (n == 13) = false := by simpa using h13
    have b32 : (n == 32) = false := by simpa using h32
    have b33 : (n == 33) = false := by simpa using h33
    have b34 : (n == 34) = false := by simpa using h34
    clear h0 h1 h2 h3 h4 h5 h6 h8 h9 h10 h11 h12 h13 h32 h33 h34 HD
    rcases hk with rfl | rfl
    · go_enter Try.func22, Try.ntmps22
      go_wp2
      go_ret
      exact ⟨rfl, rfl⟩
    · go_enter Try.func26, Try.ntmps26
      go_wp2
      go_ret
      exact ⟨rfl, rfl⟩
  all_goals
    rcases hk with rfl | rfl
    · go_enter Try.func22, Try.ntmps22
      go_wp2
      go_ret
      exact ⟨rfl, rfl⟩
    · go_enter Try.func26, Try.ntmps26
      go_wp2
      go_ret
      exact ⟨rfl, rfl⟩

theorem kindW (K : Int) (n : Int) (h : kind n = K) (w : World) : Calls Try.prog 22 #[.int .i64 n] w fun e w' => e = .returned (.int .i64 K) ∧ w = w' := by
  subst h; exact kindK 22 (.inl rfl) n w
theorem kindR (K : Int) (n : Int) (h : kind n = K) (w : World) : Calls Try.prog 26 #[.int .i64 n] w fun e w' => e = .returned (.int .i64 K) ∧ w = w' := by
  subst h; exact kindK 26 (.inr rfl) n w
end Go.Proofs.Ytnkbopmghekjdaa.RegB
