/- Areas: once. -/
import Derived.Test.YtcggghiionlngaaAreA
import Derived.Laws.LoneSync
namespace Go.Proofs.Ytcggghiionlngaa.AreB
open Go.ChangeShapes Go.WideShapes Go.ChangeAt Go.RowKit
open Mem GeoM GeoC GeoD AreA
set_option linter.unusedVariables false
set_option maxHeartbeats 1600000

/-- Once that is done calls nothing. -/
theorem doDone (g i : Nat) (d : Int) (hd : ¬ d = 0) (fv : Value) (w : World) (h0 : w.cell? ⟨g, i, none⟩ = some (.int .u32 d)) :
    Calls Try.prog 38 #[.pointer (some ⟨g, i, none⟩), fv] w fun e w' => e = .returned (.tuple #[]) ∧ w' = w := by
  have hl := run_call_load (P := Try.prog) Try.func55 (by kernel_rfl) (by kernel_rfl) (by kernel_rfl) .u32 (by kernel_rfl) h0
  have hnot : ∀ (x : Bool) (w : World), (Op.unary .not (.bool x)).run Try.prog w = .ok (.bool (!x)) w := fun _ _ => rfl
  have hd' : (d != 0) = true := by simp [hd]
  go_enter Try.func38, Try.ntmps38
  go_wp2_with (go_at_call 49; go_in)
  go_end0
  exact ⟨rfl, rfl⟩
end Go.Proofs.Ytcggghiionlngaa.AreB
