/- The law on mixed words: its walk. -/
import Derived.Test.YtnkbopmghekjdaaDoorEcC
namespace Go.Proofs.YtnkbopmghekjdaaDoor.EcE
open Go.ChangeShapes Go.WideShapes Go.ChangeAt Go.RowKit
open EcM EcA EcB EcC
set_option linter.unusedVariables false
set_option maxHeartbeats 1000000

theorem known (w : World) (hl : Laid w) : Calls Tryd.prog 8 #[] w fun e w' => e = .returned (.bool true) ∧ w' = w := by
  have k0 : col 0 = 7 := by decide +kernel
  have k1 : chk 3 = 12 := by decide +kernel
  have k2 : col 56 = 31 := by decide +kernel
  have H0 := colW 0 (by omega) w hl
  have H1 := checkS 3 (by omega) w hl
  have H2 := colW 56 (by omega) w hl
  rw [k0] at H0
  rw [k1] at H1
  rw [k2] at H2
  clear k0 k1 k2
  have H0 := Lib.hid H0
  have H1 := Lib.hid H1
  have H2 := Lib.hid H2
  clear hl
  go_enter Tryd.func8, Tryd.ntmps8
  go_wp2_with fail
  refine H0.out.mono ?_
  rintro e _ ⟨rfl, rfl⟩
  go_wp2_with fail
  refine H1.out.mono ?_
  rintro e _ ⟨rfl, rfl⟩
  go_wp2_with fail
  refine H2.out.mono ?_
  rintro e _ ⟨rfl, rfl⟩
  go_wp2_with fail
  go_ret
  exact ⟨rfl, rfl⟩

end Go.Proofs.YtnkbopmghekjdaaDoor.EcE
