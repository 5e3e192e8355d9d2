/- The law on mixed words: its walk. -/
import Derived.Test.YtnkbopmghekjdaaDoorEcE
namespace Go.Proofs.YtnkbopmghekjdaaDoor.EcI
open Go.ChangeShapes Go.WideShapes Go.ChangeAt Go.RowKit
open EcM EcA EcB EcC EcE
set_option linter.unusedVariables false
set_option maxHeartbeats 1000000

theorem b1 (p : Nat) (h : p < 256) : bits BinOp.and IntKind.u8 (p : Int) 1 = ((p % 2 : Nat) : Int) := by
  have := bits_mask .u8 8 (by decide) wraps_u8 1 (by decide) (p : Int) (by omega) (by omega)
  rw [show ((2 : Int) ^ 1 - 1) = 1 by rfl] at this
  rw [this]; omega
def oddK (p : Nat) : Nat → Nat
  | 0 => 0
  | k + 1 => oddK p k + p / 2 ^ k % 2
theorem oddK_le (p : Nat) : ∀ k, oddK p k ≤ k
  | 0 => by simp [oddK]
  | k + 1 => by have := oddK_le p k; unfold oddK; omega
theorem oddK_eight (p : Nat) : oddK p 8 = oddOf p := by simp [oddK, oddOf]; omega
theorem roundE (p k : Nat) (h : p < 256) (hk : k < 8) (v : Int) (hv : v = ((p / 2 ^ k : Nat) : Int)) : wrap64 ((oddK p k : Int) + wrap64 (bits BinOp.and IntKind.u8 v 1)) = ((oddK p (k + 1) : Nat) : Int) := by
  have h1 : p / 2 ^ k < 256 := Nat.lt_of_le_of_lt (Nat.div_le_self _ _) h
  have h2 := oddK_le p k
  rw [hv, b1 _ h1]
  show _ = ((oddK p k + p / 2 ^ k % 2 : Nat) : Int)
  generalize p / 2 ^ k = d
  unfold wrap64
  omega
theorem beqNe {a b : Nat} (h : a ≠ b) : ((a : Int) == (b : Int)) = false := by simp; omega

set_option maxRecDepth 100000 in
theorem lawIn (a b : Nat) (ha : a < 18446744073709551616) (hb : b < 18446744073709551616) (i j : Nat) (hi : i < 64) (hj : j < 64) (w : World) (hl : Laid w) :
    Calls Tryd.prog 6 #[.int .u64 (a : Int), .int .u64 (b : Int), .int .i64 (i : Int), .int .i64 (j : Int)] w fun e w' => e = .returned (.bool true) ∧ w' = w := by
  have HK := Lib.hid (known w hl)
  have hab : a ^^^ b < 18446744073709551616 := Nat.xor_lt_two_pow (n := 64) ha hb
  have HC := Lib.hid (checkS (a ^^^ b) hab w hl)
  have HA := Lib.hid (checkS a ha w hl)
  have HB := Lib.hid (checkS b hb w hl)
  have e1 : bits .xor .u64 (a : Int) (b : Int) = ((a ^^^ b : Nat) : Int) := xor64 a b ha hb
  have e2 : bits .xor .u8 (chk a : Int) (chk b : Int) = ((chk (a ^^^ b) : Nat) : Int) := by rw [chk_xor]; exact xor8 ⟨chk a, chk_lt a⟩ ⟨chk b, chk_lt b⟩
  have HI := Lib.hid (colW i hi w hl)
  have HJ := Lib.hid (colW j hj w hl)
  have h2 : 2 ^ i < 18446744073709551616 := Nat.pow_lt_pow_right (a := 2) (by omega) (show i < 64 by omega)
  have hpow : IntKind.u64.wrap ((2 : Int) ^ i) = ((2 ^ i : Nat) : Int) := by
    rw [show ((2 : Int) ^ i) = ((2 ^ i : Nat) : Int) by simp]
    exact wrapL _ h2
  have HS := checkS (2 ^ i) h2 w hl
  rw [show chk (2 ^ i) = col i from col_bit ⟨i, hi⟩] at HS
  rw [show ((2 ^ i : Nat) : Int) = (2 : Int) ^ i by simp] at HS hpow
  have HS := Lib.hid HS
  have ho := col_odd ⟨i, hi⟩
  have hc : col i = col j ↔ i = j := by simpa [Fin.ext_iff] using col_eq ⟨i, hi⟩ ⟨j, hj⟩
  have hlt : col i < 256 := by rw [← col_bit ⟨i, hi⟩]; exact chk_lt _
  simp only at ho
  have hc := Lib.hid hc
  have ho := Lib.hid ho
  generalize col i = p at HI HS ho hc hlt
  generalize col j = q at HJ hc
  clear hl hab
  generalize hx : chk (a ^^^ b) = x at HC e2
  clear hx
  generalize hy : chk a = y at HA e2
  clear hy
  generalize hz : chk b = z at HB e2
  clear hz
  go_enter Tryd.func6, Tryd.ntmps6
  go_wp2_with fail
  refine HK.out.mono ?_
  rintro e _ ⟨rfl, rfl⟩
  go_wp2_with fail
  refine HC.out.mono ?_
  rintro e _ ⟨rfl, rfl⟩
  go_wp2_with fail
  refine HA.out.mono ?_
  rintro e _ ⟨rfl, rfl⟩
  go_wp2_with fail
  refine HB.out.mono ?_
  rintro e _ ⟨rfl, rfl⟩
  go_wp2_with fail
  go_wp2_with fail
  refine HI.out.mono ?_
  rintro e _ ⟨rfl, rfl⟩
  go_wp2_with fail
  go_loop [10, 11] (fun o i => ∃ k : Nat, k ≤ 8 ∧ i = .int .i64 k ∧ o = .int .i64 (oddK p k : Nat)) (fun _ i => 8 - (intOf i).toNat)
  case atStart => exact ⟨0, by omega, rfl, rfl⟩
  case round =>
    obtain ⟨k, hk, rfl, rfl⟩ := hrel
    obtain rfl | rfl | rfl | rfl | rfl | rfl | rfl | rfl | rfl : k = 0 ∨ k = 1 ∨ k = 2 ∨ k = 3 ∨ k = 4 ∨ k = 5 ∨ k = 6 ∨ k = 7 ∨ k = 8 := by omega
    · go_wp2_with fail
      go_round
      case rel => exact ⟨1, by omega, rfl, congrArg (Value.int .i64) (roundE p 0 hlt (by omega) _ (by omega))⟩
      case measure => simp [intOf]
    · go_wp2_with fail
      go_round
      case rel => exact ⟨2, by omega, rfl, congrArg (Value.int .i64) (roundE p 1 hlt (by omega) _ (by omega))⟩
      case measure => simp [intOf]
    · go_wp2_with fail
      go_round
      case rel => exact ⟨3, by omega, rfl, congrArg (Value.int .i64) (roundE p 2 hlt (by omega) _ (by omega))⟩
      case measure => simp [intOf]
    · go_wp2_with fail
      go_round
      case rel => exact ⟨4, by omega, rfl, congrArg (Value.int .i64) (roundE p 3 hlt (by omega) _ (by omega))⟩
      case measure => simp [intOf]
    · go_wp2_with fail
      go_round
      case rel => exact ⟨5, by omega, rfl, congrArg (Value.int .i64) (roundE p 4 hlt (by omega) _ (by omega))⟩
      case measure => simp [intOf]
    · go_wp2_with fail
      go_round
      case rel => exact ⟨6, by omega, rfl, congrArg (Value.int .i64) (roundE p 5 hlt (by omega) _ (by omega))⟩
      case measure => simp [intOf]
    · go_wp2_with fail
      go_round
      case rel => exact ⟨7, by omega, rfl, congrArg (Value.int .i64) (roundE p 6 hlt (by omega) _ (by omega))⟩
      case measure => simp [intOf]
    · go_wp2_with fail
      go_round
      case rel => exact ⟨8, by omega, rfl, congrArg (Value.int .i64) (roundE p 7 hlt (by omega) _ (by omega))⟩
      case measure => simp [intOf]
    · have ho2 := ho.out
      rw [← oddK_eight] at ho2
      have hol := oddK_le p 8
      clear ho
      generalize oddK p 8 = o at hol ho2 ⊢
      obtain rfl | rfl | rfl : o = 3 ∨ o = 5 ∨ o = 7 := by omega
      all_goals
        go_wp2_with fail
        refine HJ.out.mono ?_
        rintro e _ ⟨rfl, rfl⟩
        by_cases hij : i = j
        · have hpq := hc.out.2 hij
          subst hij
          subst hpq
          go_wp2_with fail
          refine HS.out.mono ?_
          rintro e _ ⟨rfl, rfl⟩
          go_wp2
          go_ret
          exact ⟨rfl, rfl⟩
        · have e5 : ((p : Int) == (q : Int)) = false := beqNe fun h => hij (hc.out.1 h)
          have e6 : ((i : Int) == (j : Int)) = false := beqNe hij
          go_wp2_with fail
          refine HS.out.mono ?_
          rintro e _ ⟨rfl, rfl⟩
          go_wp2
          go_ret
          exact ⟨rfl, rfl⟩
end Go.Proofs.YtnkbopmghekjdaaDoor.EcI
