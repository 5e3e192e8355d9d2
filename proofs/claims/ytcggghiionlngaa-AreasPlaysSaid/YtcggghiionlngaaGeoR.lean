/- Contracts of the document's geom: the check. -/
import Derived.Test.YtcggghiionlngaaGeoG
namespace Go.Proofs.Ytcggghiionlngaa.GeoR
open Go.ChangeShapes Go.WideShapes Go.ChangeAt Go.RowKit
open GeoM GeoC GeoD GeoE Mem
set_option linter.unusedVariables false
set_option maxHeartbeats 2000000
theorem inT (n lo hi : Int) (h : lo ≤ n ∧ n ≤ hi) (w : World) : Calls Try.prog 47 #[.int .i64 n, .int .i64 lo, .int .i64 hi] w fun e w' => e = .returned (.bool true) ∧ w = w' := by
  obtain ⟨h1, h2⟩ := h
  go_enter Try.func47, Try.ntmps47
  go_wp2
  go_ret
  exact ⟨rfl, rfl⟩
theorem inF (n lo hi : Int) (h : ¬ (lo ≤ n ∧ n ≤ hi)) (w : World) : Calls Try.prog 47 #[.int .i64 n, .int .i64 lo, .int .i64 hi] w fun e w' => e = .returned (.bool false) ∧ w = w' := by
  by_cases h1 : lo ≤ n
  · have h2 : ¬ n ≤ hi := fun h3 => h ⟨h1, h3⟩
    clear h
    go_enter Try.func47, Try.ntmps47
    go_wp2
    go_ret
    exact ⟨rfl, rfl⟩
  · clear h
    go_enter Try.func47, Try.ntmps47
    go_wp2
    go_ret
    exact ⟨rfl, rfl⟩
theorem up_eq (n d : Int) (hn : 0 ≤ n) (hd : 0 < d) : (n + d - 1) / d = up n d := by
  have h := up_spec n d hn hd
  obtain ⟨q, hq⟩ : ∃ q, q = up n d := ⟨_, rfl⟩
  rw [← hq] at h ⊢
  obtain ⟨h1, h2, _⟩ := h
  have e1 : d * (q - 1) = d * q - d := by rw [Int.mul_sub, Int.mul_one]
  rw [e1] at h1
  have e2 : n + d - 1 = (n + d - 1 - d * q) + d * q := by omega
  rw [e2, Int.add_mul_ediv_left _ _ (by omega), Int.ediv_eq_zero_of_lt (by omega) (by omega)]
  omega
theorem upR (n d : Int) (hn : 0 ≤ n) (hn2 : n ≤ 1000000) (hd : 1 ≤ d) (hd2 : d ≤ 100000) (w : World) : Calls Try.prog 48 #[.int .i64 n, .int .i64 d] w fun e w' => e = .returned (.int .i64 (up n d)) ∧ w = w' := by
  have hdn : (d == 0) = false := by simp; omega
  have HE := Lib.hid (up_eq n d hn (by omega))
  have hq : 0 ≤ (n + d - 1) / d := Int.ediv_nonneg (by omega) (by omega)
  have hq2 : (n + d - 1) / d ≤ n + d - 1 := Int.ediv_le_self _ (by omega)
  go_enter Try.func48, Try.ntmps48
  go_wp2
  go_ret
  exact ⟨by rw [← HE.out]; rfl, rfl⟩
end Go.Proofs.Ytcggghiionlngaa.GeoR
