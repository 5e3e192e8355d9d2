/- The document's digests: numbers turned. -/
import Derived.Test.YtlfohiejlajmaaaDoorShU
namespace Go.Proofs.YtlfohiejlajmaaaDoor.RfA
open Go.ChangeShapes Go.WideShapes Go.ChangeAt Go.RowKit
open ShM ShA ShB ShC ShD ShE ShF ShG ShH ShI ShJ ShK ShL ShN Mem
set_option linter.unusedVariables false
set_option maxHeartbeats 2000000

theorem turnedW (x : W) (n : Nat) (hn : Tn n) (w : World) : Calls Tryd.prog 29 #[.int .u32 (x.toNat : Int), .int .u64 (n : Int)] w fun e w' => e = .returned (.int .u32 ((rr x n).toNat : Int)) ∧ w' = w := by
  have hr : rr x n = (x >>> n) ||| (x <<< (32 - n)) := rfl
  have hres : ((rr x n).toNat : Int) = bits .or .u32 ((x.toNat : Int) / 2 ^ n) (IntKind.u32.wrap ((x.toNat : Int) * 2 ^ (32 - n))) := by
    rw [sl32 x (32 - n) _ rfl, sr32 x n _ rfl, o32, hr]
  rw [hres]
  clear hres hr
  rcases hn with rfl | rfl | rfl | rfl | rfl | rfl | rfl | rfl | rfl | rfl
  all_goals
    go_enter Tryd.func29, Tryd.ntmps29
    go_wp2
    go_ret
    exact ⟨by first | rfl | simp, rfl⟩
theorem turnedQ (x : W) (n : Nat) (hn : Tn n) (w : World) (m : Nat) : Calls Tryd.prog 29 #[.int .u32 (x.toNat : Int), .int .u64 (n : Int)] (w.drewN m) fun e w'' => e = .returned (.int .u32 ((rr x n).toNat : Int)) ∧ ∃ m', w'' = w.drewN m' :=
  (turnedW x n hn (w.drewN m)).mono fun _ _ ⟨he, hm⟩ => ⟨he, m, hm⟩
end Go.Proofs.YtlfohiejlajmaaaDoor.RfA
