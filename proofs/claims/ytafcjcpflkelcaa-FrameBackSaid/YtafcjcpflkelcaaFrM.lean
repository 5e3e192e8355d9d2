/- A burst in a frame that is good: it is good no more. -/
import Derived.Test.YtafcjcpflkelcaaFrG
namespace Go.Proofs.Ytafcjcpflkelcaa.FrM
open CrcM CrcB CrcL CrcQ FrA FrB FrT FrG
set_option linter.unusedVariables false
set_option maxHeartbeats 1000000

theorem lastBit (b : B8) (h : b &&& 1#8 = 1#8) : b.getMsbD 7 = true := by
  have : ∀ b : B8, b &&& 1#8 = 1#8 → b.getMsbD 7 = true := by decide +kernel
  exact this b h

/-- Six bytes, the sum right and the last bit set, with at most seven neighbouring bits turned: they are not so again. -/
theorem burstFrame (x y : List B8) (hl : x.length = 6) (bit p k : Nat) (hk : k ≤ 7) (hbit : bit + k ≤ 48) (hy : y = turn x bit p k)
    (hx7 : sum7 (x.take 5) = x.getD 5 0 >>> 1) (hx1 : x.getD 5 0 &&& 1#8 = 1#8) (hy7 : sum7 (y.take 5) = y.getD 5 0 >>> 1) (hy1 : y.getD 5 0 &&& 1#8 = 1#8) : x = y := by
  have hly : y.length = 6 := by subst hy; rw [turn_length, hl]
  have h0 := (syn7 x 5 (by omega)).2 hx7
  have h' := (syn7 y 5 (by omega)).2 hy7
  have hbt : ∀ i, bitAt y i = (bitAt x i ^^ (decide (bit ≤ i ∧ i < bit + k) && p.testBit (i - bit))) := fun i => by
    rw [hy, bitAt_turn x bit p k (by omega)]
  have h2 := h'
  rw [hy, bits_turn p7 x bit p k _ (by omega), h0, show ∀ z : BitVec 7, 0 ^^^ z = z from fun z => BitVec.zero_xor] at h2
  have hz : ∀ i, i < 8 * 5 + 7 → (decide (bit ≤ i ∧ i < bit + k) && p.testBit (i - bit)) = false := by
    by_cases h47 : bit + k ≤ 47
    · exact burst p7 p7_low (by omega) (8 * 5 + 7) bit k hk (by omega) _ (fun i hi hn => by simp [hn]) h2
    · exact burst p7 p7_low (by omega) (8 * 5 + 7) (min bit 47) (47 - bit) (by omega) (by omega) _ (fun i hi hn => by
        have : ¬ (bit ≤ i ∧ i < bit + k) := by omega
        simp [this]) h2
  refine same_of_bits x y (by omega) fun i hi => ?_
  by_cases h48 : i < 47
  · rw [hbt i, hz i (by omega)]; simp
  · have : i = 47 := by omega
    subst this
    have e1 : bitAt x 47 = true := lastBit _ hx1
    have e2 : bitAt y 47 = true := lastBit _ hy1
    rw [e1, e2]
end Go.Proofs.Ytafcjcpflkelcaa.FrM
