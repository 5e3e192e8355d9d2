/- Contracts of frames: how the reference takes one apart. -/
import Derived.Test.YtbnjijlpbeplmaaFrS
import Derived.Test.YtbnjijlpbeplmaaFrV
namespace Go.Proofs.Ytbnjijlpbeplmaa.FrW
open Go.ChangeShapes Go.WideShapes Go.ChangeAt Go.RowKit
open CrcM CrcB CrcL CrcQ FrA FrB FrT FrD FrR FrL FrU FrS
set_option linter.unusedVariables false
set_option maxHeartbeats 1000000

theorem q7r {a : Option Addr} {l : List B8} {n c j : Nat} {S : B8} {w : World} (hr : Rd w a l) (hn : l.length = n) (hS : S = sum7 l) :
    Calls Try.prog 95 #[.slice a n c] (w.drewN j) fun e w'' => e = .returned (.int .u8 S.toNat) ∧ ∃ m, w'' = w.drewN m := by
  subst hS
  exact (refSeven a l n c (w.drewN j) hn hr).mono fun e w' h => ⟨h.1, j, h.2.symm⟩

theorem readOther (a : Option Addr) (n c : Nat) (f : B8) (w : World) (h : n ≠ 6) :
    Calls Try.prog 87 #[.slice a n c, .int .u8 f.toNat] w fun e w' => e = .returned (.tuple #[.int .i64 0, .int .u32 0, .int .i64 (if n < 6 then 23 else 24)]) ∧ Below w.heap.size w w' := by
  by_cases h6 : n < 6
  · have d1 : decide ((n : Int) < 6) = true := by simp; omega
    rw [if_pos h6]
    go_enter Try.func87, Try.ntmps87
    go_wp2
    go_ret3
    exact ⟨rfl, Below.refl _ _⟩
  · have d1 : decide ((n : Int) < 6) = false := by simp; omega
    have d2 : decide ((6 : Int) < (n : Int)) = true := by simp; omega
    rw [if_neg h6]
    go_enter Try.func87, Try.ntmps87
    go_wp2
    go_ret3
    exact ⟨rfl, Below.refl _ _⟩

theorem readForm (b off : Nat) (c : Nat) (b0 b1 b2 b3 b4 b5 f : B8) (w : World) (hc : 6 ≤ c) (hr : Rd w (some ⟨b, off, none⟩) [b0, b1, b2, b3, b4, b5]) (h : ¬ (b0 >>> 6 = f ∧ b5 &&& 1#8 = 1#8)) :
    Calls Try.prog 87 #[.slice (some ⟨b, off, none⟩) 6 c, .int .u8 f.toNat] w fun e w' => e = .returned (.tuple #[.int .i64 0, .int .u32 0, .int .i64 24]) ∧ Below w.heap.size w w' := by
  have c0 : w.cell? ⟨b, off, none⟩ = some (.int .u8 b0.toNat) := Rd.at hr 0 (by simp)
  have c5 : w.cell? ⟨b, off + 5, none⟩ = some (.int .u8 b5.toNat) := Rd.at hr 5 (by simp)
  clear hr
  have h0 := b0.isLt
  have h5 := b5.isLt
  by_cases h1 : b0 >>> 6 = f
  · have q1 := (front b0 f).2 h1
    have q2 := last b5 true (by simp [h1] at h; simp [h])
    clear h h1
    go_enter Try.func87, Try.ntmps87
    go_wp2
    go_ret3
    exact ⟨rfl, Below.refl _ _⟩
  · have q1 : ¬ ((b0.toNat : Int) / 64 = (f.toNat : Int)) := fun e => h1 ((front b0 f).1 e)
    clear h h1
    go_enter Try.func87, Try.ntmps87
    go_wp2
    go_ret3
    exact ⟨rfl, Below.refl _ _⟩

theorem readSum (b off : Nat) (c : Nat) (b0 b1 b2 b3 b4 b5 f : B8) (w : World) (hc : 6 ≤ c) (hr : Rd w (some ⟨b, off, none⟩) [b0, b1, b2, b3, b4, b5]) (h1 : b0 >>> 6 = f) (h2 : b5 &&& 1#8 = 1#8) (h3 : sum7 [b0, b1, b2, b3, b4] ≠ b5 >>> 1) :
    Calls Try.prog 87 #[.slice (some ⟨b, off, none⟩) 6 c, .int .u8 f.toNat] w fun e w' => e = .returned (.tuple #[.int .i64 0, .int .u32 0, .int .i64 25]) ∧ Below w.heap.size w w' := by
  have c0 : w.cell? ⟨b, off, none⟩ = some (.int .u8 b0.toNat) := Rd.at hr 0 (by simp)
  have c5 : w.cell? ⟨b, off + 5, none⟩ = some (.int .u8 b5.toNat) := Rd.at hr 5 (by simp)
  have HR : Hid (Rd w (some ⟨b, off, none⟩) [b0, b1, b2, b3, b4]) := Lib.hid (Rd.take hr 5)
  have HL : Hid ([b0, b1, b2, b3, b4].length = 5) := Lib.hid rfl
  have hs := (sum7 [b0, b1, b2, b3, b4]).isLt
  have q3 : (((sum7 [b0, b1, b2, b3, b4]).toNat : Int) != (b5.toNat : Int) / 2) = true := by
    rw [sr8 b5 1 2 rfl, bne_iff_ne]
    intro e
    exact h3 (BitVec.eq_of_toNat_eq (by omega))
  clear hr h3
  obtain ⟨S, hS⟩ : ∃ S, S = sum7 [b0, b1, b2, b3, b4] := ⟨_, rfl⟩
  rw [← hS] at q3 hs
  have HS := Lib.hid hS
  clear hS
  have h0 := b0.isLt
  have h5 := b5.isLt
  have q1 := (front b0 f).2 h1
  have q2 := last b5 false (by simp [h2])
  clear h1 h2
  go_enter Try.func87, Try.ntmps87
  go_wp2_with fail
  go_quiet ((go_at_call 95; exact q7r HR.out HL.out HS.out))
  go_wp2
  go_ret3
  exact ⟨rfl, Below.drewN' (Below.refl _ _) _⟩
end Go.Proofs.Ytbnjijlpbeplmaa.FrW
