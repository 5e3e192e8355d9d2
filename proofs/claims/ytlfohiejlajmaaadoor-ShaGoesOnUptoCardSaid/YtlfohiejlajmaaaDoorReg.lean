/- Regions that draw their order, walked by hand: what holds of the world may be made stronger on the way. -/
import Derived.Test.YtlfohiejlajmaaaDoorMem
import Derived.Deep.RegionHeld3
namespace Go.Proofs.YtlfohiejlajmaaaDoor.Reg
open Go.ChangeShapes Go.WideShapes Go.ChangeAt Go.RowKit
set_option linter.unusedVariables false

theorem stronger {P : Program} {md : Region.Mode} {ops : Array Oper} {Q : Exit → Act → World → Prop} {S S' : World → Prop} (h : ∀ w, S' w → S w) :
    ∀ (fuel : Nat) (listed : Array Bool) (a : Act) (w : World), wpAnyH P md ops Q S' fuel listed a w → wpAnyH P md ops Q S fuel listed a w
  | 0, _, _, _, hh => hh
  | fuel + 1, _, _, _, hh => ⟨hh.1, fun i hi => wpOp_mono (fun a' w' h' => ⟨h _ h'.1, stronger h fuel _ a' w' h'.2⟩) (hh.2 i hi)⟩

/-- The condition on worlds is made stronger: it holds of the world at hand, and is all that was asked. -/
theorem raise {P : Program} {md : Region.Mode} {ops : Array Oper} {Q : Exit → Act → World → Prop} {S : World → Prop} (S' : World → Prop) {fuel : Nat} {listed : Array Bool} {a : Act} {w : World}
    (h : ∀ w, S' w → S w) (hw : S' w) (hh : S' w → wpAnyH P md ops Q S' fuel listed a w) : wpAnyH P md ops Q S fuel listed a w := stronger h fuel listed a w (hh hw)
end Go.Proofs.YtlfohiejlajmaaaDoor.Reg
