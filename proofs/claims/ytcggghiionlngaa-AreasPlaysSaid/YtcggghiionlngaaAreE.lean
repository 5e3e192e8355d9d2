/- Contracts of geom's law: fits, the example. -/
import Derived.Test.YtcggghiionlngaaGeoG
namespace Go.Proofs.Ytcggghiionlngaa.AreE
open Go.ChangeShapes Go.WideShapes Go.ChangeAt Go.RowKit
open GeoM GeoC GeoD GeoE GeoF GeoG
set_option linter.unusedVariables false
set_option maxHeartbeats 2000000
theorem fitsW (c : Cfg) (z0 z1 z2 z3 e : Int) (w : World) : Calls Try.prog 43 #[cv c, .agg #[.int .i64 z0, .int .i64 z1, .int .i64 z2, .int .i64 z3], .int .u8 e] w
    fun e' w' => ∃ B, e' = .returned (.bool B) ∧ Below w.heap.size w w' ∧ (B = true → check c = true ∧ (0 ≤ z0 ∧ 0 ≤ z1 ∧ 0 ≤ z2 ∧ 0 ≤ z3) ∧ z0 + z1 + z2 + z3 < groups c) := by
  obtain ⟨b, p, s, u, o, r, g, k, x⟩ := c
  by_cases hk : check ⟨b, p, s, u, o, r, g, k, x⟩ = true
  · cases he : (bits BinOp.andNot IntKind.u8 e 241 != 0) with
    | true => exact fitsB b p s u o r g k x z0 z1 z2 z3 e hk he w
    | false =>
      by_cases hn : 0 ≤ z0 ∧ z0 ≤ groups ⟨b, p, s, u, o, r, g, k, x⟩ ∧ 0 ≤ z1 ∧ z1 ≤ groups ⟨b, p, s, u, o, r, g, k, x⟩ ∧ 0 ≤ z2 ∧ z2 ≤ groups ⟨b, p, s, u, o, r, g, k, x⟩ ∧ 0 ≤ z3 ∧ z3 ≤ groups ⟨b, p, s, u, o, r, g, k, x⟩
      · exact fitsD b p s u o r g k x z0 z1 z2 z3 e hk he hn w
      · exact fitsC b p s u o r g k x z0 z1 z2 z3 e hk he hn w
  · exact fitsA b p s u o r g k x z0 z1 z2 z3 e hk w

def K : Cfg := ⟨70, 16, 128, 256, 8, 8, 16, 8, 2⟩
theorem K_check : check K = true := by decide +kernel
theorem K_need : need K 0 = 55 := by decide +kernel
theorem K_groups : groups K = 16 := by decide +kernel
theorem K_plain : Plain K := (check_plain K_check).1

theorem shapeW (w : World) : Calls Try.prog 27 #[] w fun e w' => e = .returned (cv K) ∧ Below w.heap.size w w' := by
  go_enter Try.func27, Try.ntmps27
  go_wp2
  go_returns
  exact ⟨rfl, (Below.refl _ _).alloc (Nat.le_refl _) _⟩

theorem i76 : (Try.prog.info? 76).map (·.size) = some 8 := by kernel_rfl
def ordL : Array Value := #[.int .i64 0, .int .i64 4, .int .i64 5, .int .i64 6, .int .i64 7, .int .i64 1, .int .i64 2, .int .i64 3]
theorem orderW (w : World) : Calls Try.prog 52 #[] w fun e w' => e = .returned (.agg ordL) ∧ Below w.heap.size w w' := by
  go_enter Try.func52, Try.ntmps52
  go_wp2
  go_returns
  exact ⟨rfl, (Below.refl _ _).alloc (Nat.le_refl _) _⟩
end Go.Proofs.Ytcggghiionlngaa.AreE
