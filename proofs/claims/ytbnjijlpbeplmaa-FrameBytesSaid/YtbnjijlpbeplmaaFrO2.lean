/- The opening of a command that is handed over by value. -/
import Derived.Test.YtbnjijlpbeplmaaRows
import Derived.WalkKit
import Derived.ProofKit
import Derived.OpenShut
import Derived.ShutString
import Derived.ChangeOld
import Derived.Below
import Derived.ChangeSame
import Derived.Lib.SmallJoins
namespace Go.Proofs.Ytbnjijlpbeplmaa.FrO2
open Go.ChangeShapes Go.WideShapes Go.ChangeAt Go.RowKit Go.Joins
set_option linter.unusedVariables false
theorem cells63 : Try.prog.cellsOf 63 = 2 := by kernel_rfl
set_option maxRecDepth 100000 in
theorem open63 {H : Type} {enc : TypeId × Value → H} {w : World} {base b0 : Nat} {r : Reach} {spare : Nat → Bool} {held : Bool} {v : Value} {d : DataW H} {p : List MemPlace}
    (hv : Value.okWide Try.prog w r b0 63 v) (h : DataW.Trod enc Try.prog w base spare held 63 v d p) : ∃ (z x : Int) (_ : (Lit.int .u32 x).wf = true), v = .agg #[.int .i64 z, .int .u32 x] := by
  obtain ⟨c0, e0, y0, x0, m0, rfl, rfl, rfl, hy0, hx0⟩ := open_agg2 Try.underlying63 (by kernel_rfl) cells63 hv h
  obtain ⟨a0, g0, rfl, w0⟩ := DataW.trod_int Try.underlying3 hy0
  obtain ⟨b0, i0, rfl, u0⟩ := DataW.trod_int Try.underlying61 hx0
  simp at g0 i0
  subst g0 i0
  exact ⟨_, _, u0, rfl⟩
end Go.Proofs.Ytbnjijlpbeplmaa.FrO2
