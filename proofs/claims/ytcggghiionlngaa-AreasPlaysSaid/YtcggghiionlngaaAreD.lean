/- Areas: once. -/
import Derived.Test.YtcggghiionlngaaAreC
namespace Go.Proofs.Ytcggghiionlngaa.AreD
open Go.ChangeShapes Go.WideShapes Go.ChangeAt Go.RowKit
open Mem GeoM GeoC GeoD AreA AreB AreC
set_option linter.unusedVariables false
set_option maxHeartbeats 1600000

/-- Once that was not done: the function is called, then it is done. -/
theorem doFirst (g i : Nat) (t : Addr) (w : World) (h0 : w.cell? ⟨g, i, none⟩ = some (.int .u32 0)) (h1 : w.cell? ⟨g, i + 1, none⟩ = some (.int .i32 0)) (f1 : w.frozen? ⟨g, i + 1, none⟩ = false) (R : World → Prop)
    (HF : Calls Try.prog 39 #[.pointer (some t)] (w.setCell ⟨g, i + 1, none⟩ (.int .i32 1)) fun e w2 => e = .returned (.tuple #[]) ∧ R w2)
    (HR : ∀ w2, R w2 → w2.cell? ⟨g, i, none⟩ = some (.int .u32 0) ∧ w2.cell? ⟨g, i + 1, none⟩ = some (.int .i32 1) ∧ w2.frozen? ⟨g, i, none⟩ = false ∧ w2.frozen? ⟨g, i + 1, none⟩ = false) :
    Calls Try.prog 38 #[.pointer (some ⟨g, i, none⟩), .func (.func 39) #[.pointer (some t)] #[]] w fun e w' => e = .returned (.tuple #[]) ∧ ∃ w2, R w2 ∧ w' = (w2.drew.setCell ⟨g, i, none⟩ (.int .u32 1)).setCell ⟨g, i + 1, none⟩ (.int .i32 0) := by
  have HS := Lib.hid (slow g i t w h0 h1 f1 R HF HR)
  have hl := run_call_load (P := Try.prog) Try.func55 (by kernel_rfl) (by kernel_rfl) (by kernel_rfl) .u32 (by kernel_rfl) h0
  have hnot : ∀ (x : Bool) (w : World), (Op.unary .not (.bool x)).run Try.prog w = .ok (.bool (!x)) w := fun _ _ => rfl
  clear h0 h1 f1 HF HR
  go_enter Try.func38, Try.ntmps38
  go_wp2_with (first
    | (go_at_call 50; refine HS.out.mono ?_; rintro e w2 ⟨rfl, hR⟩; replace hR := Lib.hid hR)
    | (go_at_call 49; go_in))
  go_end0
  exact ⟨rfl, hR.out⟩
end Go.Proofs.Ytcggghiionlngaa.AreD
