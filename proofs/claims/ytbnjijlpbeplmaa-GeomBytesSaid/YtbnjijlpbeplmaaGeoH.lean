/- Contracts of geom's law: fits, the example. -/
import Derived.Test.YtbnjijlpbeplmaaGeoG
namespace Go.Proofs.Ytbnjijlpbeplmaa.GeoH
open Go.ChangeShapes Go.WideShapes Go.ChangeAt Go.RowKit
open GeoM GeoC GeoD GeoE GeoF GeoG
set_option linter.unusedVariables false
set_option maxHeartbeats 2000000
theorem fitsW (c : Cfg) (z0 z1 z2 z3 e : Int) (w : World) : Calls Try.prog 17 #[cv c, .agg #[.int .i64 z0, .int .i64 z1, .int .i64 z2, .int .i64 z3], .int .u8 e] w
    fun e' w' => ∃ B, e' = .returned (.bool B) ∧ Below w.heap.size w w' ∧ (B = true → check c = true ∧ (0 ≤ z0 ∧ 0 ≤ z1 ∧ 0 ≤ z2 ∧ 0 ≤ z3) ∧ z0 + z1 + z2 + z3 < groups c) := by
  obtain ⟨b, p, s, u, o, r, g, k, x⟩ := c
  by_cases hk : check ⟨b, p, s, u, o, r, g, k, x⟩ = true
  · cases he : (bits BinOp.andNot IntKind.u8 e 241 != 0) with
    | true => exact fitsB b p s u o r g k x z0 z1 z2 z3 e hk he w
    | false =>
      by_cases hn : 0 ≤ z0 ∧ z0 ≤ groups ⟨b, p, s, u, o, r, g, k, x⟩ ∧ 0 ≤ z1 ∧ z1 ≤ groups ⟨b, p, s, u, o, r, g, k, x⟩ ∧ 0 ≤ z2 ∧ z2 ≤ groups ⟨b, p, s, u, o, r, g, k, x⟩ ∧ 0 ≤ z3 ∧ z3 ≤ groups ⟨b, p, s, u, o, r, g, k, x⟩
      · exact fitsD b p s u o r g k x z0 z1 z2 z3 e hk he hn w
      · exact fitsC b p s u o r g k x z0 z1 z2 z3 e hk he hn w
  · exact fitsA b p s u o r g k x z0 z1 z2 z3 e hk w

def K : Cfg := ⟨70, 16, 128, 256, 8, 8, 16, 8, 2⟩
theorem K_check : check K = true := by decide +kernel
theorem K_need : need K 0 = 55 := by decide +kernel
theorem K_groups : groups K = 16 := by decide +kernel
theorem K_plain : Plain K := (check_plain K_check).1

theorem shapeW (w : World) : Calls Try.prog 62 #[] w fun e w' => e = .returned (cv K) ∧ Below w.heap.size w w' := by
  go_enter Try.func62, Try.ntmps62
  go_wp2
  go_returns
  exact ⟨rfl, (Below.refl _ _).alloc (Nat.le_refl _) _⟩

theorem chunksW (w : World) : Calls Try.prog 64 #[cv K] w fun e w' => e = .returned (.int .i64 3) ∧ Below w.heap.size w w' := by
  show Calls Try.prog 64 #[.agg #[.int .i64 70, .int .i64 16, .int .i64 128, .int .i64 256, .int .i64 8, .int .i64 8, .int .i64 16, .int .i64 8, .int .i64 2]] w _
  go_enter Try.func64, Try.ntmps64
  go_wp2
  go_ret
  exact ⟨rfl, (Below.refl _ _).alloc (Nat.le_refl _) _⟩

set_option maxRecDepth 100000 in
theorem knownW (w : World) : Calls Try.prog 11 #[] w fun e w' => e = .returned (.bool true) ∧ Below w.heap.size w w' := by
  have HC := fun w => checkW K w
  have HN := fun w => needW K K_plain 0 w
  have HG := fun w => groupsW K (by decide) (by decide) (by decide) w
  have HH := fun w => chunksW w
  have HS := fun w => shapeW w
  rw [show errOf K = 0 from if_pos K_check] at HC
  rw [K_need] at HN
  rw [K_groups] at HG
  unfold cv cc K at HC HN HG HH HS
  simp only at HC HN HG HH HS
  replace HC := Lib.hid HC
  replace HN := Lib.hid HN
  replace HG := Lib.hid HG
  replace HH := Lib.hid HH
  replace HS := Lib.hid HS
  go_enter Try.func11, Try.ntmps11
  go_wp2_with fail
  refine (HS.out _).mono ?_
  rintro e w1 ⟨rfl, b1⟩
  go_wp2_with fail
  have n1 := Mem.Blk.new w1 23 #[.int .i64 70, .int .i64 16, .int .i64 128, .int .i64 256, .int .i64 8, .int .i64 8, .int .i64 16, .int .i64 8, .int .i64 2]
  have b1' := b1.alloc b1.size (.cells #[.int .i64 70, .int .i64 16, .int .i64 128, .int .i64 256, .int .i64 8, .int .i64 8, .int .i64 16, .int .i64 8, .int .i64 2] 23)
  clear b1
  obtain ⟨k0, k1, k2, k3, k4, k5, k6, k7, k8⟩ := nine n1
  go_wp2_with fail
  refine (HC.out _).mono ?_
  rintro e w2 ⟨rfl, b2⟩
  have n2 := Mem.Blk.below n1 b2 n1.lt
  have d2 := b1'.trans (b2.mono b1'.size)
  clear k0 k1 k2 k3 k4 k5 k6 k7 k8 n1 b2 b1'
  obtain ⟨k0, k1, k2, k3, k4, k5, k6, k7, k8⟩ := nine n2
  go_wp2_with fail
  refine (HN.out _).mono ?_
  rintro e w3 ⟨rfl, b3⟩
  have n3 := Mem.Blk.below n2 b3 n2.lt
  have d3 := d2.trans (b3.mono d2.size)
  clear k0 k1 k2 k3 k4 k5 k6 k7 k8 n2 b3 d2
  obtain ⟨k0, k1, k2, k3, k4, k5, k6, k7, k8⟩ := nine n3
  go_wp2_with fail
  refine (HG.out _).mono ?_
  rintro e w4 ⟨rfl, b4⟩
  have n4 := Mem.Blk.below n3 b4 n3.lt
  have d4 := d3.trans (b4.mono d3.size)
  clear k0 k1 k2 k3 k4 k5 k6 k7 k8 n3 b4 d3
  obtain ⟨k0, k1, k2, k3, k4, k5, k6, k7, k8⟩ := nine n4
  go_wp2_with fail
  refine (HH.out _).mono ?_
  rintro e w5 ⟨rfl, b5⟩
  have d5 := d4.trans (b5.mono d4.size)
  clear k0 k1 k2 k3 k4 k5 k6 k7 k8 n4 b5 d4
  go_wp2
  go_ret
  exact ⟨rfl, d5⟩
end Go.Proofs.Ytbnjijlpbeplmaa.GeoH
