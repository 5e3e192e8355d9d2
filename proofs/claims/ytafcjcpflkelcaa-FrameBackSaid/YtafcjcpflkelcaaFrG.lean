/- A frame that was made, taken apart. -/
import Derived.Test.YtafcjcpflkelcaaFrT
namespace Go.Proofs.Ytafcjcpflkelcaa.FrG
open Go.ChangeShapes Go.WideShapes Go.ChangeAt Go.RowKit
open CrcM CrcB CrcL CrcQ FrA FrB FrT
set_option linter.unusedVariables false
set_option maxHeartbeats 1000000

/-- A frame, taken apart. -/
theorem frm_good (f i : B8) (x : B32) (hf : f.toNat < 4) (hi : i.toNat ≤ 63) (b0 b1 b2 b3 b4 b5 : B8) (h : frm f i x = [b0, b1, b2, b3, b4, b5]) :
    b0 >>> 6 = f ∧ b5 &&& 1#8 = 1#8 ∧ sum7 [b0, b1, b2, b3, b4] = b5 >>> 1 ∧ (b0 &&& 63#8).toNat = i.toNat ∧ num [b1, b2, b3, b4] = x.toNat := by
  have hs := sum7_lt (five f i x)
  unfold frm at h
  obtain ⟨S, hS⟩ : ∃ S, S = sum7 (five f i x) := ⟨_, rfl⟩
  rw [← hS] at h hs
  have e5 : five f i x = [b0, b1, b2, b3, b4] := by
    have := congrArg (List.take 5) h
    simpa [five] using this
  rw [e5] at hS
  unfold five at e5
  rw [show five f i x ++ [S <<< 1 ||| 1#8] = [(f <<< 6) ||| (i &&& 63#8), (x >>> 24).setWidth 8, (x >>> 16).setWidth 8, (x >>> 8).setWidth 8, x.setWidth 8, S <<< 1 ||| 1#8] from rfl] at h
  simp only [List.cons.injEq, and_true] at h
  obtain ⟨h0, h1, h2, h3, h4, h5⟩ := h
  refine ⟨?_, ?_, ?_, ?_, ?_⟩
  · rw [← h0]
    have : ∀ f i : B8, f.toNat < 4 → ((f <<< 6) ||| (i &&& 63#8)) >>> 6 = f := by decide +kernel
    exact this f i hf
  · rw [← h5]
    have : ∀ S : B8, (S <<< 1 ||| 1#8) &&& 1#8 = 1#8 := by decide +kernel
    exact this S
  · rw [← hS, ← h5]
    have : ∀ S : B8, S.toNat < 128 → S = (S <<< 1 ||| 1#8) >>> 1 := by decide +kernel
    exact this S hs
  · rw [← h0]
    have : ∀ f i : B8, f.toNat < 4 → i.toNat ≤ 63 → (((f <<< 6) ||| (i &&& 63#8)) &&& 63#8).toNat = i.toNat := by decide +kernel
    exact this f i hf hi
  · rw [← h1, ← h2, ← h3, ← h4]
    have := x.isLt
    simp [num, BitVec.toNat_setWidth, BitVec.toNat_ushiftRight, Nat.shiftRight_eq_div_pow]
    omega
end Go.Proofs.Ytafcjcpflkelcaa.FrG
