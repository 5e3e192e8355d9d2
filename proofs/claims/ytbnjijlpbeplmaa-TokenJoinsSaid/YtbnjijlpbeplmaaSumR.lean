/- The document's remainder, bit by bit, is the register that is fed with the bits. -/
import Derived.Test.YtbnjijlpbeplmaaTokA
import Derived.Test.YtbnjijlpbeplmaaCrcQ
namespace Go.Proofs.Ytbnjijlpbeplmaa.SumR
open Go.ChangeShapes Go.WideShapes Go.ChangeAt Go.RowKit
open Go.ChangeMaps (open_string shut_string)
open CrcM CrcB CrcL CrcQ TokA
set_option linter.unusedVariables false
set_option maxHeartbeats 1000000

theorem and_pow (n i : Nat) : n &&& 2 ^ i = if n.testBit i then 2 ^ i else 0 := by
  apply Nat.eq_of_testBit_eq
  intro j
  rw [Nat.testBit_and, Nat.testBit_two_pow]
  by_cases h : i = j
  · subst h; by_cases hb : n.testBit i <;> simp [hb]
  · by_cases hb : n.testBit i <;> simp [hb, h]
theorem top_of (n i : Nat) (hn : n < 4294967296) (hi : i < 32) (m : Int) (hm : m = ((2 ^ i : Nat) : Int)) : (bits .and .u32 (n : Int) m != 0) = n.testBit i := by
  subst hm
  have hp : 2 ^ i < 4294967296 := by have := Nat.pow_lt_pow_right (a := 2) (by omega) hi; omega
  have hpos := Nat.two_pow_pos i
  rw [u32_and_nat _ _ hn hp, and_pow]
  by_cases h : n.testBit i
  · rw [if_pos h, h, bne_iff_ne]; omega
  · rw [if_neg h]; simp [h]
theorem bit_of (x : B8) (k : Nat) : (bits .and .u8 ((x.toNat : Int) / 2 ^ k) 1 == 1) = x.toNat.testBit k := by
  have e : (x.toNat : Int) / 2 ^ k = ((x.toNat / 2 ^ k : Nat) : Int) := by simp
  have hlt : x.toNat / 2 ^ k < 256 := Nat.lt_of_le_of_lt (Nat.div_le_self _ _) x.isLt
  rw [e, show (1 : Int) = ((1 : Nat) : Int) from rfl, u8_and_nat _ _ hlt (by omega), Nat.testBit_eq_decide_div_mod_eq, Nat.and_one_is_mod]
  rw [Bool.eq_iff_iff]; simp; omega
theorem msb_bit (x : B8) (k : Nat) (h : k < 8) : x.toNat.testBit k = x.getMsbD (7 - k) := by
  simp [BitVec.getMsbD, BitVec.getLsbD, show 7 - k < 8 by omega, show 8 - 1 - (7 - k) = k by omega]

theorem feed_snoc {w : Nat} (p r : BitVec w) (x : B8) (j : Nat) : feed p r ((List.range (j + 1)).map fun i => x.getMsbD i) = reg p (feed p r ((List.range j).map fun i => x.getMsbD i)) (x.getMsbD j) := by
  rw [List.range_succ, List.map_append, feed_append]; rfl

theorem step_bits {w : Nat} (p : BitVec w) (l : List B8) (k : Nat) : feed p (feed p 0 (CrcL.bits l (8 * k))) ((List.range 8).map fun i => (l.getD k 0).getMsbD i) = feed p 0 (CrcL.bits l (8 * (k + 1))) := by
  rw [← feed_append, ← bits_more l k 8 (by omega)]; rfl

theorem low_mask (v k : Nat) (hv : v < 4294967296) (hk : k < 32) (m : Int) (hm : m = ((2 ^ k - 1 : Nat) : Int)) : bits .and .u32 (v : Int) m = ((v % 2 ^ k : Nat) : Int) := by
  subst hm
  have := Nat.pow_lt_pow_right (a := 2) (by omega) hk
  rw [u32_and_nat _ _ hv (by omega), Nat.and_two_pow_sub_one_eq_mod]

theorem shl16 (S : BitVec 16) : bits .and .u32 ((S.toNat : Int) * 2) 65535 = ((S <<< 1).toNat : Int) := by
  have := S.isLt
  rw [show (S.toNat : Int) * 2 = ((S.toNat * 2 : Nat) : Int) by omega, low_mask _ 16 (by omega) (by omega) 65535 (by omega)]
  simp [BitVec.toNat_shiftLeft, Nat.shiftLeft_eq]
theorem xor16 (S T : BitVec 16) : bits .xor .u32 (S.toNat : Int) (T.toNat : Int) = ((S ^^^ T).toNat : Int) := by
  have := S.isLt
  have := T.isLt
  rw [u32_xor_nat _ _ (by omega) (by omega), BitVec.toNat_xor]
theorem msb16 (S : BitVec 16) : (bits .and .u32 (S.toNat : Int) 32768 != 0) = S.msb := by
  have := S.isLt
  rw [top_of _ 15 (by omega) (by omega) 32768 (by omega)]
  simp [BitVec.msb, BitVec.getMsbD, BitVec.getLsbD]
theorem reg16 (S : BitVec 16) (b : Bool) : reg p16 S b = if (S.msb ^^ b) = true then (S <<< 1) ^^^ p16 else S <<< 1 := by
  unfold reg; split <;> simp_all

set_option maxRecDepth 100000 in
theorem rem16 (a : Option Addr) (l : List B8) (n c : Nat) (w : World) (hn : l.length = n) (hr : Rd w a l) :
    Calls Try.prog 97 #[.slice a n c, .int .i64 16, .int .u32 4129] w fun e w' => e = .returned (.int .u32 (feed p16 0 (CrcL.bits l (8 * n))).toNat) ∧ w = w' := by
  have hm := hr.1
  rw [hn] at hm
  unfold maxLen at hm
  have HR := Lib.hid hr
  have HN := Lib.hid hn
  clear hr hn
  go_enter Try.func97, Try.ntmps97
  go_wp2
  go_loop [7, 10, 11, 12] (fun r i k o => ∃ j : Nat, j ≤ n ∧ i = .int .i64 j ∧ r = .int .u32 (feed p16 0 (CrcL.bits l (8 * j))).toNat) (fun _ i _ _ => n - (intOf i).toNat)
  case atStart => exact ⟨0, Nat.zero_le _, rfl, rfl⟩
  case round =>
    obtain ⟨j, hj, rfl, rfl⟩ := hrel
    by_cases hlt : j < n
    · obtain ⟨b, off, ea, hc⟩ := HR.out.2 j (by rw [HN.out]; exact hlt)
      subst ea
      obtain ⟨x, hx⟩ : ∃ x, x = l.getD j 0 := ⟨_, rfl⟩
      rw [← hx] at hc
      have HX := Lib.hid hx
      obtain ⟨R, hR⟩ : ∃ R, R = feed p16 0 (CrcL.bits l (8 * j)) := ⟨_, rfl⟩
      have HRR := Lib.hid hR
      rw [← hR]
      clear hx hR
      go_wp2
      go_loop [7, 11, 12] (fun r k o => ∃ m : Nat, m ≤ 8 ∧ k = .int .i64 ((m : Int) - 1) ∧ r = .int .u32 (feed p16 R ((List.range (8 - m)).map fun i => x.getMsbD i)).toNat) (fun _ k _ => (intOf k + 1).toNat)
      case atStart => exact ⟨8, by omega, rfl, rfl⟩
      case round =>
        obtain ⟨m, hm8, rfl, rfl⟩ := hrel
        obtain ⟨S, hS⟩ : ∃ S, S = feed p16 R ((List.range (8 - m)).map fun i => x.getMsbD i) := ⟨_, rfl⟩
        have HS := Lib.hid hS
        rw [← hS]
        clear hS
        by_cases h0 : m = 0
        · subst h0
          have HE : Hid (S = feed p16 0 (CrcL.bits l (8 * (j + 1)))) := Lib.hid (by rw [HS.out, HRR.out, HX.out]; exact step_bits _ _ _)
          go_wp2
          go_round
          case rel => exact ⟨j + 1, by omega, by go_num, by rw [HE.out]⟩
          case measure => simp [intOf]; omega
        · obtain ⟨k, rfl⟩ : ∃ k, m = k + 1 := ⟨m - 1, by omega⟩
          have hk8 : k < 8 := by omega
          have e1 : ((k + 1 : Nat) : Int) - 1 = (k : Int) := by omega
          rw [e1]
          have hm1 := msb16 S
          have hb1 := bit_of x k
          obtain ⟨T, hT⟩ : ∃ T, T = S <<< 1 := ⟨_, rfl⟩
          obtain ⟨U, hU⟩ : ∃ U, U = T ^^^ p16 := ⟨_, rfl⟩
          have hs1 := shl16 S
          rw [← hT] at hs1
          have hx1 := xor16 T p16
          rw [show ((p16.toNat : Nat) : Int) = 4129 from rfl, ← hU] at hx1
          have hTl := T.isLt
          have hS' := S.isLt
          have HSt : Hid (feed p16 R ((List.range (8 - k)).map fun i => x.getMsbD i) = reg p16 S (x.toNat.testBit k)) := Lib.hid (by
            rw [show 8 - k = (8 - (k + 1)) + 1 by omega, feed_snoc, ← HS.out, msb_bit x k hk8, show 8 - (k + 1) = 7 - k by omega])
          have HG := Lib.hid (reg16 S (x.toNat.testBit k))
          rw [← hT] at HG
          rw [← hU] at HG
          clear e1 hT hU
          cases hA : S.msb <;> cases hB : x.toNat.testBit k
          all_goals
            rw [hA] at hm1
            rw [hB] at hb1
            have HA := Lib.hid hA
            have HB := Lib.hid hB
            clear hA hB
            go_wp2
            go_round
            case rel => exact ⟨k, by omega, by go_num, by rw [HSt.out, HG.out, HA.out, HB.out]; rfl⟩
            case measure => simp [intOf]
    · obtain rfl : j = n := by omega
      go_wp2
      go_ret
      exact ⟨rfl, rfl⟩
end Go.Proofs.Ytbnjijlpbeplmaa.SumR
