/- Contracts of the sums' functions. -/
import Derived.Test.YtbblldhlbhoglaaRows
import Derived.Test.YtbblldhlbhoglaaCrcM
import Derived.WalkKit
import Derived.ProofKit
import Derived.OpenShut
import Derived.ShutString
import Derived.ChangeOld
import Derived.Below
import Derived.Outline
import Derived.Laws.BitsAllLaws
import Derived.Lib.Hide
namespace Go.Proofs.Ytbblldhlbhoglaa.CrcA
open Go.ChangeShapes Go.WideShapes Go.ChangeAt Go.RowKit
open Go.ChangeMaps (open_string shut_string)
open CrcM
set_option linter.unusedVariables false
set_option maxHeartbeats 400000

theorem ret_int {k : IntKind} {a b : Int} (h : a = b) : Ending.returned (.int k a) = .returned (.int k b) := by rw [h]

theorem x16 (a b : B16) : bits .xor .u16 (a.toNat : Int) (b.toNat : Int) = ((a ^^^ b).toNat : Int) := by
  rw [u16_xor_nat _ _ a.isLt b.isLt, BitVec.toNat_xor]
theorem x8 (a b : B8) : bits .xor .u8 (a.toNat : Int) (b.toNat : Int) = ((a ^^^ b).toNat : Int) := by
  rw [u8_xor_nat _ _ a.isLt b.isLt, BitVec.toNat_xor]
theorem sr16 (a : B16) (n : Nat) (m : Int) (h : m = 2 ^ n) : (a.toNat : Int) / m = ((a >>> n).toNat : Int) := by
  subst h; simp [BitVec.toNat_ushiftRight, Nat.shiftRight_eq_div_pow]
theorem sl16 (a : B16) (n : Nat) (m : Int) (h : m = 2 ^ n) : IntKind.u16.wrap ((a.toNat : Int) * m) = ((a <<< n).toNat : Int) := by
  subst h
  rw [IntKind.wrap_u16]
  simp [BitVec.toNat_shiftLeft, Nat.shiftLeft_eq]
theorem sr8 (a : B8) (n : Nat) (m : Int) (h : m = 2 ^ n) : (a.toNat : Int) / m = ((a >>> n).toNat : Int) := by
  subst h; simp [BitVec.toNat_ushiftRight, Nat.shiftRight_eq_div_pow]
theorem sl8 (a : B8) (n : Nat) (m : Int) (h : m = 2 ^ n) : IntKind.u8.wrap ((a.toNat : Int) * m) = ((a <<< n).toNat : Int) := by
  subst h
  rw [IntKind.wrap_u8']
  simp [BitVec.toNat_shiftLeft, Nat.shiftLeft_eq]
theorem w16 (x : B8) : (x.toNat : Int) = ((x.setWidth 16 : B16).toNat : Int) := by
  have := x.isLt
  simp [BitVec.toNat_setWidth]; omega

theorem step16 (r : B16) (x : B8) (w : World) :
    Calls Try.prog 20 #[.int .u16 r.toNat, .int .u8 x.toNat] w fun e w' => e = .returned (.int .u16 (s16 r x).toNat) ∧ w = w' := by
  have h1 := r.isLt
  have h2 := x.isLt
  go_enter Try.func20, Try.ntmps20
  go_wp2
  go_ret
  refine ⟨ret_int ?_, rfl⟩
  rw [w16 x]
  simp only [sr16 _ 8 256 rfl, sl16 _ 8 256 rfl, x16, sr16 _ 4 16 rfl, sl16 _ 12 4096 rfl, sl16 _ 5 32 rfl]
  rfl

theorem one7_int (r : B8) : bits .xor .u8 (IntKind.u8.wrap ((r.toNat : Int) * 2)) (IntKind.u8.wrap ((r.toNat : Int) / 128 * 18)) = ((one7 r).toNat : Int) := by
  rw [sl8 r 1 2 rfl, sr8 r 7 128 rfl]
  have e : IntKind.u8.wrap (((r >>> 7).toNat : Int) * 18) = (((r >>> 7) * 18#8).toNat : Int) := by
    rw [IntKind.wrap_u8']; simp [BitVec.toNat_mul]
  rw [e, x8]; rfl

theorem one7_walk (r : B8) : bits .xor .u8 ((r.toNat : Int) * 2 % 256) ((r.toNat : Int) / 128 * 18) = ((one7 r).toNat : Int) := by
  have h := one7_int r
  have := r.isLt
  rw [IntKind.wrap_u8', IntKind.wrap_u8', Int.emod_eq_of_lt (a := (r.toNat : Int) / 128 * 18) (by omega) (by omega)] at h
  exact h

theorem step7 (r x : B8) (w : World) :
    Calls Try.prog 19 #[.int .u8 r.toNat, .int .u8 x.toNat] w fun e w' => e = .returned (.int .u8 (s7 r x).toNat) ∧ w = w' := by
  have h1 := r.isLt
  have h2 := x.isLt
  have h3 := x8 r x
  go_enter Try.func19, Try.ntmps19
  go_wp2
  go_loop [0, 5, 9] (fun s t i => ∃ k : Nat, k ≤ 8 ∧ i = .int .i64 k ∧ s = .int .u8 (many7 k (r ^^^ x)).toNat) (fun _ _ i => 8 - (intOf i).toNat)
  case atStart => exact ⟨0, by omega, rfl, rfl⟩
  case round =>
    obtain ⟨k, hk, rfl, rfl⟩ := hrel
    clear h3
    have h4 := (many7 k (r ^^^ x)).isLt
    have H := Lib.hid (one7_walk (many7 k (r ^^^ x)))
    by_cases hlt : k < 8
    · go_wp2
      go_round
      case rel => exact ⟨k + 1, by omega, by go_num, by rw [H.out]; rfl⟩
      case measure => simp [intOf]; omega
    · obtain rfl : k = 8 := by omega
      go_wp2
      go_ret
      exact ⟨ret_int rfl, rfl⟩

/-- The first cells of a slice's row read as these bytes. -/
def Rd (w : World) (a : Option Addr) (l : List B8) : Prop :=
  l.length ≤ maxLen ∧ ∀ i, i < l.length → ∃ b off, a = some ⟨b, off, none⟩ ∧ w.cell? ⟨b, off + i, none⟩ = some (.int .u8 (l.getD i 0).toNat)

theorem Rd.cells {w : World} {a : Option Addr} {l : List B8} (h : Rd w a l) :
    l = [] ∨ ∃ b off, a = some ⟨b, off, none⟩ ∧ ∀ i, i < l.length → w.cell? ⟨b, off + i, none⟩ = some (.int .u8 (l.getD i 0).toNat) := by
  by_cases h0 : l.length = 0
  · exact .inl (List.length_eq_zero_iff.1 h0)
  · right
    obtain ⟨b, off, ha, hc⟩ := h.2 0 (by omega)
    refine ⟨b, off, ha, fun i hi => ?_⟩
    obtain ⟨b', off', ha', hc'⟩ := h.2 i hi
    rw [ha] at ha'
    injection ha' with ha'
    injection ha' with e1 e2
    subst e1 e2
    exact hc'

theorem sixteen (a : Option Addr) (l : List B8) (c : Nat) (w : World) (hr : Rd w a l) :
    Calls Try.prog 13 #[.slice a l.length c] w fun e w' => e = .returned (.int .u16 (sum16 l).toNat) ∧ w = w' := by
  have hm := hr.1
  unfold maxLen at hm
  rcases hr.cells with rfl | ⟨b, off, rfl, hc⟩
  · go_enter Try.func13, Try.ntmps13
    go_wp2
    go_loop [3, 5, 8] (fun s t i => i = .int .i64 0 ∧ s = .int .u16 0) (fun _ _ i => 0)
    case atStart => exact ⟨rfl, rfl⟩
    case round =>
      obtain ⟨rfl, rfl⟩ := hrel
      go_wp2
      go_ret
      exact ⟨ret_int rfl, rfl⟩
  · have HC := Lib.hid hc
    clear hc hr
    go_enter Try.func13, Try.ntmps13
    go_wp2
    go_loop [3, 5, 8] (fun s t i => ∃ k : Nat, k ≤ l.length ∧ i = .int .i64 k ∧ s = .int .u16 (sum16 (l.take k)).toNat) (fun _ _ i => l.length - (intOf i).toNat)
    case atStart => exact ⟨0, by omega, rfl, rfl⟩
    case round =>
      obtain ⟨k, hk, rfl, rfl⟩ := hrel
      by_cases hlt : k < l.length
      · have hcell := HC.out k hlt
        have HS := Lib.hid (sum16_snoc l k hlt)
        go_wp2_with (go_at_call 20; refine (step16 _ _ _).mono ?_; rintro e w' ⟨rfl, rfl⟩)
        go_round
        case rel => exact ⟨k + 1, by omega, by go_num, by rw [HS.out]; simp [hlt]⟩
        case measure => simp [intOf]; omega
      · go_wp2
        go_ret
        exact ⟨ret_int (by rw [List.take_of_length_le (by omega)]), rfl⟩

theorem seven (a : Option Addr) (l : List B8) (c : Nat) (w : World) (hr : Rd w a l) :
    Calls Try.prog 12 #[.slice a l.length c] w fun e w' => e = .returned (.int .u8 (sum7 l).toNat) ∧ w = w' := by
  have hm := hr.1
  unfold maxLen at hm
  rcases hr.cells with rfl | ⟨b, off, rfl, hc⟩
  · go_enter Try.func12, Try.ntmps12
    go_wp2
    go_loop [3, 5, 8] (fun s t i => i = .int .i64 0 ∧ s = .int .u8 0) (fun _ _ i => 0)
    case atStart => exact ⟨rfl, rfl⟩
    case round =>
      obtain ⟨rfl, rfl⟩ := hrel
      go_wp2
      go_ret
      exact ⟨ret_int rfl, rfl⟩
  · have HC := Lib.hid hc
    clear hc hr
    go_enter Try.func12, Try.ntmps12
    go_wp2
    go_loop [3, 5, 8] (fun s t i => ∃ k : Nat, k ≤ l.length ∧ i = .int .i64 k ∧ s = .int .u8 (rem7 (l.take k)).toNat) (fun _ _ i => l.length - (intOf i).toNat)
    case atStart => exact ⟨0, by omega, rfl, rfl⟩
    case round =>
      obtain ⟨k, hk, rfl, rfl⟩ := hrel
      have hb := (rem7 (l.take k)).isLt
      by_cases hlt : k < l.length
      · have hcell := HC.out k hlt
        have HS := Lib.hid (rem7_snoc l k hlt)
        go_wp2_with (go_at_call 19; refine (step7 _ _ _).mono ?_; rintro e w' ⟨rfl, rfl⟩)
        go_round
        case rel => exact ⟨k + 1, by omega, by go_num, by rw [HS.out]; simp [hlt]⟩
        case measure => simp [intOf]; omega
      · go_wp2
        go_ret
        exact ⟨ret_int (by rw [List.take_of_length_le (by omega), sr8 _ 1 2 rfl]; rfl), rfl⟩
end Go.Proofs.Ytbblldhlbhoglaa.CrcA
