/- Contracts of frames: bytes that are not six. -/
import Derived.Test.YtbnjijlpbeplmaaFrL
namespace Go.Proofs.Ytbnjijlpbeplmaa.FrU
open Go.ChangeShapes Go.WideShapes Go.ChangeAt Go.RowKit
open CrcM CrcB CrcL CrcQ FrA FrB FrT FrD FrR FrL
set_option linter.unusedVariables false
set_option maxHeartbeats 1000000

/-- Bytes that are not six: too short, or another form. -/
theorem takeOther (a : Option Addr) (n c : Nat) (f : B8) (w : World) (h : n ≠ 6) :
    Calls Try.prog 86 #[.slice a n c, .int .u8 f.toNat] w fun e w' => e = .returned (.tuple #[.int .i64 0, .int .u32 0, .int .i64 (if n < 6 then 23 else 24)]) ∧ Below w.heap.size w w' := by
  by_cases h6 : n < 6
  · have d1 : decide ((n : Int) < 6) = true := by simp; omega
    rw [if_pos h6]
    go_enter Try.func86, Try.ntmps86
    go_wp2
    go_ret3
    exact ⟨rfl, Below.refl _ _⟩
  · have d1 : decide ((n : Int) < 6) = false := by simp; omega
    have d2 : decide ((6 : Int) < (n : Int)) = true := by simp; omega
    rw [if_neg h6]
    go_enter Try.func86, Try.ntmps86
    go_wp2
    go_ret3
    exact ⟨rfl, Below.refl _ _⟩

/-- What six bytes and others tell, as one: index, number, error. -/
def tell (f : B8) : List B8 → Nat × Nat × Nat
  | [b0, b1, b2, b3, b4, b5] => if b0 >>> 6 = f ∧ b5 &&& 1#8 = 1#8 then (if sum7 [b0, b1, b2, b3, b4] = b5 >>> 1 then ((b0 &&& 63#8).toNat, num [b1, b2, b3, b4], 0) else (0, 0, 25)) else (0, 0, 24)
  | l => (0, 0, if l.length < 6 then 23 else 24)

theorem tell_six (f b0 b1 b2 b3 b4 b5 : B8) : tell f [b0, b1, b2, b3, b4, b5] = if b0 >>> 6 = f ∧ b5 &&& 1#8 = 1#8 then (if sum7 [b0, b1, b2, b3, b4] = b5 >>> 1 then ((b0 &&& 63#8).toNat, num [b1, b2, b3, b4], 0) else (0, 0, 25)) else (0, 0, 24) := rfl
theorem tell_other (f : B8) (l : List B8) (h : l.length ≠ 6) : tell f l = (0, 0, if l.length < 6 then 23 else 24) := by
  unfold tell
  split
  · exact absurd rfl h
  · rfl

theorem takeAny (a : Option Addr) (l : List B8) (n c : Nat) (f : B8) (w : World) (hn : l.length = n) (hc : n ≤ c) (hr : Rd w a l) :
    Calls Try.prog 86 #[.slice a n c, .int .u8 f.toNat] w fun e w' => e = .returned (.tuple #[.int .i64 (tell f l).1, .int .u32 (tell f l).2.1, .int .i64 (tell f l).2.2]) ∧ Below w.heap.size w w' := by
  by_cases h6 : n = 6
  · subst h6
    obtain ⟨b, off, rfl, _⟩ := hr.2 0 (by omega)
    match l, hn with
    | [b0, b1, b2, b3, b4, b5], _ =>
      by_cases h1 : b0 >>> 6 = f ∧ b5 &&& 1#8 = 1#8
      · by_cases h2 : sum7 [b0, b1, b2, b3, b4] = b5 >>> 1
        · refine (takeGood b off c b0 b1 b2 b3 b4 b5 f w hc hr h1.1 h1.2 h2).mono fun e w' h => ⟨?_, h.2⟩
          rw [h.1, tell_six, if_pos h1, if_pos h2]; rfl
        · refine (takeSum b off c b0 b1 b2 b3 b4 b5 f w hc hr h1.1 h1.2 h2).mono fun e w' h => ⟨?_, h.2⟩
          rw [h.1, tell_six, if_pos h1, if_neg h2]; rfl
      · refine (takeForm b off c b0 b1 b2 b3 b4 b5 f w hc hr h1).mono fun e w' h => ⟨?_, h.2⟩
        rw [h.1, tell_six, if_neg h1]; rfl
  · refine (takeOther a n c f w h6).mono fun e w' h => ⟨?_, h.2⟩
    rw [h.1, tell_other f l (by omega), hn]
    by_cases h5 : n < 6
    · rw [if_pos h5, if_pos h5]; rfl
    · rw [if_neg h5, if_neg h5]; rfl
end Go.Proofs.Ytbnjijlpbeplmaa.FrU
