/- Contracts of frames: the operating conditions, by the program and by the reference; where a frame could begin, by the reference. -/
import Derived.Test.YtbnjijlpbeplmaaFrU
import Derived.Test.YtbnjijlpbeplmaaFrF
namespace Go.Proofs.Ytbnjijlpbeplmaa.FrV
open Go.ChangeShapes Go.WideShapes Go.ChangeAt Go.RowKit
open CrcM CrcB CrcL CrcQ FrA FrB FrT FrD FrR FrL FrF
set_option linter.unusedVariables false
set_option maxHeartbeats 1000000

/-- The frame of the operating conditions, as a value. -/
def readyOf (x : B32) : Value := .agg #[.int .u8 63, .int .u8 ((x.toNat : Int) / 16777216), .int .u8 ((x.toNat : Int) / 65536 % 256), .int .u8 ((x.toNat : Int) / 256 % 256), .int .u8 ((x.toNat : Int) % 256), .int .u8 255]

theorem ready (x : B32) (w : World) : Calls Try.prog 45 #[.int .u32 x.toNat] w fun e w' => e = .returned (readyOf x) ∧ Below w.heap.size w w' := by
  have h3 := x.isLt
  go_enter Try.func45, Try.ntmps45
  go_wp2
  go_returns
  exact ⟨rfl, (Below.refl _ w).alloc (Nat.le_refl _) _⟩

theorem refReady (x : B32) (w : World) : Calls Try.prog 46 #[.int .u32 x.toNat] w fun e w' => e = .returned (readyOf x) ∧ Below w.heap.size w w' := by
  have h3 := x.isLt
  go_enter Try.func46, Try.ntmps46
  go_wp2
  go_returns
  exact ⟨rfl, (Below.refl _ w).alloc (Nat.le_refl _) _⟩

theorem refFind (a : Option Addr) (l : List B8) (n c : Nat) (w : World) (hn : l.length = n) (hr : Rd w a l) :
    Calls Try.prog 38 #[.slice a n c] w fun e w' => e = .returned (.int .i64 (fnd l)) ∧ w = w' := by
  subst hn
  have hm := hr.1
  unfold maxLen at hm
  rcases hr.cells with rfl | ⟨b, off, rfl, hc⟩
  · go_enter Try.func38, Try.ntmps38
    go_wp2
    go_loop [3] (fun i => i = .int .i64 0) (fun i => 0)
    case atStart => exact rfl
    case round =>
      obtain rfl := hrel
      go_wp2
      go_ret
      exact ⟨ret_int rfl, rfl⟩
  · have HC := Lib.hid hc
    clear hc hr
    go_enter Try.func38, Try.ntmps38
    go_wp2
    go_loop [3] (fun i => ∃ k : Nat, k ≤ l.length ∧ i = .int .i64 k ∧ ∀ j, j < k → Beg (l.getD j 0) = false) (fun i => l.length - (intOf i).toNat)
    case atStart => exact ⟨0, by omega, rfl, fun j hj => absurd hj (by omega)⟩
    case round =>
      obtain ⟨k, hk, rfl, hall⟩ := hrel
      have HA := Lib.hid hall
      clear hall
      by_cases hlt : k < l.length
      · have hcell := HC.out k hlt
        obtain ⟨y, hy⟩ : ∃ y, y = l.getD k 0 := ⟨_, rfl⟩
        rw [← hy] at hcell
        have hb := begs y
        have hlt8 := y.isLt
        have HY := Lib.hid hy
        clear hy
        cases hB : Beg y with
        | true =>
          rw [hB] at hb
          go_wp2
          go_ret
          exact ⟨ret_int (by rw [fnd_at l k hlt HA.out (by rw [← HY.out]; exact hB)]), rfl⟩
        | false =>
          rw [hB] at hb
          go_wp2
          go_round
          case rel => exact ⟨k + 1, by omega, by go_num, fun j hj => by
            by_cases h : j < k
            · exact HA.out j h
            · obtain rfl : j = k := by omega
              rw [← HY.out]; exact hB⟩
          case measure => simp [intOf]; omega
      · go_wp2
        go_ret
        exact ⟨ret_int (by rw [fnd_none l fun i hi => HA.out i (by omega)]), rfl⟩
end Go.Proofs.Ytbnjijlpbeplmaa.FrV
