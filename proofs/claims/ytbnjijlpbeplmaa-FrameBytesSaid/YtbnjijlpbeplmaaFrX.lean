/- Contracts of frames: what the reference tells of any bytes is what the program tells. -/
import Derived.Test.YtbnjijlpbeplmaaFrW
namespace Go.Proofs.Ytbnjijlpbeplmaa.FrX
open Go.ChangeShapes Go.WideShapes Go.ChangeAt Go.RowKit
open CrcM CrcB CrcL CrcQ FrA FrB FrT FrD FrR FrL FrU FrS FrW
set_option linter.unusedVariables false
set_option maxHeartbeats 1000000

theorem orAdd (a b k : Nat) (hk : k ≤ 24) (ha : a * 2 ^ k < 4294967296) (hb : b < 2 ^ k) : bits .or .u32 ((a * 2 ^ k : Nat) : Int) (b : Int) = ((a * 2 ^ k + b : Nat) : Int) := by
  have hb' : b < 4294967296 := by
    have := Nat.pow_le_pow_right (n := 2) (by omega) hk
    omega
  rw [u32_or_nat _ _ ha hb', Nat.mul_comm, ← Nat.two_pow_add_eq_or_of_lt hb]

theorem refNum (b1 b2 b3 b4 : B8) : bits BinOp.or IntKind.u32 (bits BinOp.or IntKind.u32 (bits BinOp.or IntKind.u32 ((b1.toNat : Int) * 16777216) ((b2.toNat : Int) * 65536)) ((b3.toNat : Int) * 256)) (b4.toNat : Int) = ((num [b1, b2, b3, b4] : Nat) : Int) := by
  have h1 := b1.isLt
  have h2 := b2.isLt
  have h3 := b3.isLt
  have h4 := b4.isLt
  rw [show ((b1.toNat : Int) * 16777216) = ((b1.toNat * 2 ^ 24 : Nat) : Int) by omega, show ((b2.toNat : Int) * 65536) = ((b2.toNat * 65536 : Nat) : Int) by omega, orAdd _ _ 24 (by omega) (by omega) (by omega),
    show b1.toNat * 2 ^ 24 + b2.toNat * 65536 = (b1.toNat * 256 + b2.toNat) * 2 ^ 16 by omega, show ((b3.toNat : Int) * 256) = ((b3.toNat * 256 : Nat) : Int) by omega, orAdd _ _ 16 (by omega) (by omega) (by omega),
    show (b1.toNat * 256 + b2.toNat) * 2 ^ 16 + b3.toNat * 256 = ((b1.toNat * 256 + b2.toNat) * 256 + b3.toNat) * 2 ^ 8 by omega, orAdd _ _ 8 (by omega) (by omega) (by omega)]
  have e : num [b1, b2, b3, b4] = ((b1.toNat * 256 + b2.toNat) * 256 + b3.toNat) * 256 + b4.toNat := by simp [num]
  rw [e]

theorem readGood (b off : Nat) (c : Nat) (b0 b1 b2 b3 b4 b5 f : B8) (w : World) (hc : 6 ≤ c) (hr : Rd w (some ⟨b, off, none⟩) [b0, b1, b2, b3, b4, b5]) (h1 : b0 >>> 6 = f) (h2 : b5 &&& 1#8 = 1#8) (h3 : sum7 [b0, b1, b2, b3, b4] = b5 >>> 1) :
    Calls Try.prog 87 #[.slice (some ⟨b, off, none⟩) 6 c, .int .u8 f.toNat] w fun e w' => e = .returned (.tuple #[.int .i64 (b0 &&& 63#8).toNat, .int .u32 (num [b1, b2, b3, b4]), .int .i64 0]) ∧ Below w.heap.size w w' := by
  have c0 : w.cell? ⟨b, off, none⟩ = some (.int .u8 b0.toNat) := Rd.at hr 0 (by simp)
  have c1 : w.cell? ⟨b, off + 1, none⟩ = some (.int .u8 b1.toNat) := Rd.at hr 1 (by simp)
  have c2 : w.cell? ⟨b, off + 2, none⟩ = some (.int .u8 b2.toNat) := Rd.at hr 2 (by simp)
  have c3 : w.cell? ⟨b, off + 3, none⟩ = some (.int .u8 b3.toNat) := Rd.at hr 3 (by simp)
  have c4 : w.cell? ⟨b, off + 4, none⟩ = some (.int .u8 b4.toNat) := Rd.at hr 4 (by simp)
  have c5 : w.cell? ⟨b, off + 5, none⟩ = some (.int .u8 b5.toNat) := Rd.at hr 5 (by simp)
  have HR : Hid (Rd w (some ⟨b, off, none⟩) [b0, b1, b2, b3, b4]) := Lib.hid (Rd.take hr 5)
  have HL : Hid ([b0, b1, b2, b3, b4].length = 5) := Lib.hid rfl
  have hs := (sum7 [b0, b1, b2, b3, b4]).isLt
  have q3 : (((sum7 [b0, b1, b2, b3, b4]).toNat : Int) != (b5.toNat : Int) / 2) = false := by
    rw [sr8 b5 1 2 rfl, h3]; simp
  clear hr h3
  obtain ⟨S, hS⟩ : ∃ S, S = sum7 [b0, b1, b2, b3, b4] := ⟨_, rfl⟩
  rw [← hS] at q3 hs
  have HS := Lib.hid hS
  clear hS
  have q4 : bits BinOp.and IntKind.u8 (b0.toNat : Int) 63 = ((b0 &&& 63#8).toNat : Int) := by
    rw [show (63 : Int) = ((63#8).toNat : Int) from rfl, u8_and_nat _ _ b0.isLt (by decide), BitVec.toNat_and]
  obtain ⟨V, hV⟩ : ∃ V, V = (b0 &&& 63#8).toNat := ⟨_, rfl⟩
  have hV63 : V ≤ 63 := by
    rw [hV, BitVec.toNat_and, show (63#8).toNat = 63 from rfl]; exact Nat.and_le_right
  rw [← hV] at q4 ⊢
  clear hV
  have h0 := b0.isLt
  have h1' := b1.isLt
  have h2' := b2.isLt
  have h3' := b3.isLt
  have h4' := b4.isLt
  have h5 := b5.isLt
  have q1 := (front b0 f).2 h1
  have q2 := last b5 false (by simp [h2])
  clear h1 h2
  go_enter Try.func87, Try.ntmps87
  go_wp2_with fail
  go_quiet ((go_at_call 95; exact q7r HR.out HL.out HS.out))
  go_wp2_with fail
  go_quiet (fail)
  go_wp2
  go_ret3
  refine ⟨?_, Below.drewN' (Below.drewN' (Below.refl _ _) _) _⟩
  rw [← refNum]; rfl

theorem readAny (a : Option Addr) (l : List B8) (n c : Nat) (f : B8) (w : World) (hn : l.length = n) (hc : n ≤ c) (hr : Rd w a l) :
    Calls Try.prog 87 #[.slice a n c, .int .u8 f.toNat] w fun e w' => e = .returned (.tuple #[.int .i64 (tell f l).1, .int .u32 (tell f l).2.1, .int .i64 (tell f l).2.2]) ∧ Below w.heap.size w w' := by
  by_cases h6 : n = 6
  · subst h6
    obtain ⟨b, off, rfl, _⟩ := hr.2 0 (by omega)
    match l, hn with
    | [b0, b1, b2, b3, b4, b5], _ =>
      by_cases h1 : b0 >>> 6 = f ∧ b5 &&& 1#8 = 1#8
      · by_cases h2 : sum7 [b0, b1, b2, b3, b4] = b5 >>> 1
        · refine (readGood b off c b0 b1 b2 b3 b4 b5 f w hc hr h1.1 h1.2 h2).mono fun e w' h => ⟨?_, h.2⟩
          rw [h.1, tell_six, if_pos h1, if_pos h2]; rfl
        · refine (FrW.readSum b off c b0 b1 b2 b3 b4 b5 f w hc hr h1.1 h1.2 h2).mono fun e w' h => ⟨?_, h.2⟩
          rw [h.1, tell_six, if_pos h1, if_neg h2]; rfl
      · refine (FrW.readForm b off c b0 b1 b2 b3 b4 b5 f w hc hr h1).mono fun e w' h => ⟨?_, h.2⟩
        rw [h.1, tell_six, if_neg h1]; rfl
  · refine (FrW.readOther a n c f w h6).mono fun e w' h => ⟨?_, h.2⟩
    rw [h.1, tell_other f l (by omega), hn]
    by_cases h5 : n < 6
    · rw [if_pos h5, if_pos h5]; rfl
    · rw [if_neg h5, if_neg h5]; rfl
end Go.Proofs.Ytbnjijlpbeplmaa.FrX
