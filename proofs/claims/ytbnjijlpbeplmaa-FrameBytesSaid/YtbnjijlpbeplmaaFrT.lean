/- Contracts of frames: how one is taken apart. -/
import Derived.Test.YtbnjijlpbeplmaaFrB
namespace Go.Proofs.Ytbnjijlpbeplmaa.FrT
open Go.ChangeShapes Go.WideShapes Go.ChangeAt Go.RowKit
open CrcM CrcB CrcL CrcQ FrA FrB
set_option linter.unusedVariables false
set_option maxHeartbeats 1000000

/-- A number of bytes, the highest first. -/
def num (l : List B8) : Nat := l.foldl (fun a b => a * 256 + b.toNat) 0
theorem num_snoc (l : List B8) (k : Nat) (h : k < l.length) : num (l.take (k + 1)) = num (l.take k) * 256 + (l.getD k 0).toNat := by
  unfold num; rw [take_snoc l k h, foldl_snoc]
theorem num_lt (l : List B8) (k : Nat) (h : k ≤ l.length) : num (l.take k) < 256 ^ k := by
  induction k with
  | zero => simp [num]
  | succ k ih =>
    rw [num_snoc l k (by omega), Nat.pow_succ]
    have := ih (by omega)
    have := (l.getD k 0).isLt
    omega
theorem numOr (a : Nat) (b : B8) (h : a * 256 < 4294967296) : bits .or .u32 ((a : Int) * 256) (b.toNat : Int) = ((a * 256 + b.toNat : Nat) : Int) := by
  have hb := b.isLt
  rw [show ((a : Int) * 256) = ((a * 256 : Nat) : Int) by omega, u32_or_nat _ _ (by omega) (by omega)]
  rw [Nat.mul_comm, show (256 : Nat) = 2 ^ 8 from rfl, ← Nat.two_pow_add_eq_or_of_lt (by omega)]

theorem Rd.tail {w : World} {b off : Nat} {x : B8} {l : List B8} (h : Rd w (some ⟨b, off, none⟩) (x :: l)) : Rd w (some ⟨b, off + 1, none⟩) l :=
  ⟨by have := h.1; simp at this; omega, fun i hi => by
    obtain ⟨b', off', e, hc⟩ := h.2 (i + 1) (by simp; omega)
    injection e with e
    injection e with e1 e2
    subst e1 e2
    exact ⟨b, off + 1, rfl, by rw [show off + 1 + i = off + (i + 1) by omega, hc]; rfl⟩⟩

theorem Rd.at {w : World} {b off : Nat} {l : List B8} (h : Rd w (some ⟨b, off, none⟩) l) (i : Nat) (hi : i < l.length) : w.cell? ⟨b, off + i, none⟩ = some (.int .u8 (l.getD i 0).toNat) := by
  obtain ⟨b', off', e, hc⟩ := h.2 i hi
  injection e with e
  injection e with e1 e2
  subst e1 e2
  exact hc

theorem front (b f : B8) : ((b.toNat : Int) / 64 = (f.toNat : Int)) ↔ b >>> 6 = f := by
  rw [sr8 b 6 64 rfl]
  constructor
  · intro e; exact BitVec.eq_of_toNat_eq (by omega)
  · intro e; rw [e]
theorem last (b : B8) (B : Bool) (h : b &&& 1#8 = 1#8 ↔ B = false) : (bits BinOp.and IntKind.u8 (b.toNat : Int) 1 != 1) = B := by
  have e : bits BinOp.and IntKind.u8 (b.toNat : Int) 1 = ((b &&& 1#8).toNat : Int) := by
    rw [show (1 : Int) = ((1#8).toNat : Int) from rfl, u8_and_nat _ _ b.isLt (by decide), BitVec.toNat_and]
  rw [e]
  cases B with
  | false => rw [h.2 rfl]; rfl
  | true =>
    rw [bne_iff_ne]
    intro e2
    have : b &&& 1#8 = 1#8 := BitVec.eq_of_toNat_eq (by
      have : ((1#8).toNat : Int) = 1 := rfl
      omega)
    have := h.1 this
    cases this

/-- What does not begin or end as it is to. -/
theorem takeForm (b off : Nat) (c : Nat) (b0 b1 b2 b3 b4 b5 f : B8) (w : World) (hc : 6 ≤ c) (hr : Rd w (some ⟨b, off, none⟩) [b0, b1, b2, b3, b4, b5]) (h : ¬ (b0 >>> 6 = f ∧ b5 &&& 1#8 = 1#8)) :
    Calls Try.prog 86 #[.slice (some ⟨b, off, none⟩) 6 c, .int .u8 f.toNat] w fun e w' => e = .returned (.tuple #[.int .i64 0, .int .u32 0, .int .i64 24]) ∧ Below w.heap.size w w' := by
  have c0 : w.cell? ⟨b, off, none⟩ = some (.int .u8 b0.toNat) := Rd.at hr 0 (by simp)
  have c5 : w.cell? ⟨b, off + 5, none⟩ = some (.int .u8 b5.toNat) := Rd.at hr 5 (by simp)
  clear hr
  have h0 := b0.isLt
  have h5 := b5.isLt
  by_cases h1 : b0 >>> 6 = f
  · have q1 := (front b0 f).2 h1
    have q2 := last b5 true (by simp [h1] at h; simp [h])
    clear h h1
    go_enter Try.func86, Try.ntmps86
    go_wp2
    go_ret3
    exact ⟨rfl, Below.refl _ _⟩
  · have q1 : ¬ ((b0.toNat : Int) / 64 = (f.toNat : Int)) := fun e => h1 ((front b0 f).1 e)
    clear h h1
    go_enter Try.func86, Try.ntmps86
    go_wp2
    go_ret3
    exact ⟨rfl, Below.refl _ _⟩

theorem q7 {a : Option Addr} {l : List B8} {n c j : Nat} {S : B8} {w : World} (hr : Rd w a l) (hn : l.length = n) (hS : S = sum7 l) :
    Calls Try.prog 94 #[.slice a n c] (w.drewN j) fun e w'' => e = .returned (.int .u8 S.toNat) ∧ ∃ m, w'' = w.drewN m := by
  subst hS
  exact (seven' a l n c (w.drewN j) hn hr).mono fun e w' h => ⟨h.1, j, h.2.symm⟩

/-- What has another sum. -/
theorem takeSum (b off : Nat) (c : Nat) (b0 b1 b2 b3 b4 b5 f : B8) (w : World) (hc : 6 ≤ c) (hr : Rd w (some ⟨b, off, none⟩) [b0, b1, b2, b3, b4, b5]) (h1 : b0 >>> 6 = f) (h2 : b5 &&& 1#8 = 1#8) (h3 : sum7 [b0, b1, b2, b3, b4] ≠ b5 >>> 1) :
    Calls Try.prog 86 #[.slice (some ⟨b, off, none⟩) 6 c, .int .u8 f.toNat] w fun e w' => e = .returned (.tuple #[.int .i64 0, .int .u32 0, .int .i64 25]) ∧ Below w.heap.size w w' := by
  have c0 : w.cell? ⟨b, off, none⟩ = some (.int .u8 b0.toNat) := Rd.at hr 0 (by simp)
  have c5 : w.cell? ⟨b, off + 5, none⟩ = some (.int .u8 b5.toNat) := Rd.at hr 5 (by simp)
  have HR : Hid (Rd w (some ⟨b, off, none⟩) [b0, b1, b2, b3, b4]) := Lib.hid (Rd.take hr 5)
  have HL : Hid ([b0, b1, b2, b3, b4].length = 5) := Lib.hid rfl
  have hs := (sum7 [b0, b1, b2, b3, b4]).isLt
  have q3 : (((sum7 [b0, b1, b2, b3, b4]).toNat : Int) != (b5.toNat : Int) / 2) = true := by
    rw [sr8 b5 1 2 rfl, bne_iff_ne]
    intro e
    exact h3 (BitVec.eq_of_toNat_eq (by omega))
  clear hr h3
  obtain ⟨S, hS⟩ : ∃ S, S = sum7 [b0, b1, b2, b3, b4] := ⟨_, rfl⟩
  rw [← hS] at q3 hs
  have HS := Lib.hid hS
  clear hS
  have h0 := b0.isLt
  have h5 := b5.isLt
  have q1 := (front b0 f).2 h1
  have q2 := last b5 false (by simp [h2])
  clear h1 h2
  go_enter Try.func86, Try.ntmps86
  go_wp2_with fail
  go_quiet ((go_at_call 94; exact q7 HR.out HL.out HS.out))
  go_wp2
  go_ret3
  exact ⟨rfl, Below.drewN' (Below.refl _ _) _⟩

/-- What is taken apart. -/
theorem takeGood (b off : Nat) (c : Nat) (b0 b1 b2 b3 b4 b5 f : B8) (w : World) (hc : 6 ≤ c) (hr : Rd w (some ⟨b, off, none⟩) [b0, b1, b2, b3, b4, b5]) (h1 : b0 >>> 6 = f) (h2 : b5 &&& 1#8 = 1#8) (h3 : sum7 [b0, b1, b2, b3, b4] = b5 >>> 1) :
    Calls Try.prog 86 #[.slice (some ⟨b, off, none⟩) 6 c, .int .u8 f.toNat] w fun e w' => e = .returned (.tuple #[.int .i64 (b0 &&& 63#8).toNat, .int .u32 (num [b1, b2, b3, b4]), .int .i64 0]) ∧ Below w.heap.size w w' := by
  have c0 : w.cell? ⟨b, off, none⟩ = some (.int .u8 b0.toNat) := Rd.at hr 0 (by simp)
  have c5 : w.cell? ⟨b, off + 5, none⟩ = some (.int .u8 b5.toNat) := Rd.at hr 5 (by simp)
  have HR : Hid (Rd w (some ⟨b, off, none⟩) [b0, b1, b2, b3, b4]) := Lib.hid (Rd.take hr 5)
  have HL : Hid ([b0, b1, b2, b3, b4].length = 5) := Lib.hid rfl
  have HT : Hid (Rd w (some ⟨b, off + 1, none⟩) [b1, b2, b3, b4]) := Lib.hid (Rd.tail (Rd.take hr 5))
  have hs := (sum7 [b0, b1, b2, b3, b4]).isLt
  have q3 : (((sum7 [b0, b1, b2, b3, b4]).toNat : Int) != (b5.toNat : Int) / 2) = false := by
    rw [sr8 b5 1 2 rfl, h3]; simp
  clear hr h3
  obtain ⟨S, hS⟩ : ∃ S, S = sum7 [b0, b1, b2, b3, b4] := ⟨_, rfl⟩
  rw [← hS] at q3 hs
  have HS := Lib.hid hS
  clear hS
  obtain ⟨l, hl⟩ : ∃ l, l = [b1, b2, b3, b4] := ⟨_, rfl⟩
  rw [← hl] at HT
  have hlen : l.length = 4 := by rw [hl]; rfl
  have HLL := Lib.hid hl
  clear hl
  have q4 : bits BinOp.and IntKind.u8 (b0.toNat : Int) 63 = ((b0 &&& 63#8).toNat : Int) := by
    rw [show (63 : Int) = ((63#8).toNat : Int) from rfl, u8_and_nat _ _ b0.isLt (by decide), BitVec.toNat_and]
  obtain ⟨V, hV⟩ : ∃ V, V = (b0 &&& 63#8).toNat := ⟨_, rfl⟩
  have hV63 : V ≤ 63 := by
    rw [hV, BitVec.toNat_and, show (63#8).toNat = 63 from rfl]; exact Nat.and_le_right
  rw [← hV] at q4 ⊢
  have HV := Lib.hid hV
  clear hV
  have h0 := b0.isLt
  have h5 := b5.isLt
  have q1 := (front b0 f).2 h1
  have q2 := last b5 false (by simp [h2])
  clear h1 h2
  go_enter Try.func86, Try.ntmps86
  go_wp2_with fail
  go_quiet ((go_at_call 94; exact q7 HR.out HL.out HS.out))
  go_wp2
  go_loop [5, 9, 43] (fun s t i => ∃ k : Nat, k ≤ 4 ∧ i = .int .i64 k ∧ s = .int .u32 (num (l.take k))) (fun _ _ i => 4 - (intOf i).toNat)
  case atStart => exact ⟨0, by omega, rfl, rfl⟩
  case round =>
    obtain ⟨k, hk, rfl, rfl⟩ := hrel
    by_cases hlt : k < 4
    · have hcell := Rd.at HT.out k (by omega)
      have HX := Lib.hid (num_snoc l k (by omega))
      have hn := num_lt l k (by omega)
      have hn3 : num (l.take k) * 256 < 4294967296 := by
        have : 256 ^ k ≤ 256 ^ 3 := Nat.pow_le_pow_right (by omega) (by omega)
        omega
      have HO := Lib.hid (numOr (num (l.take k)) (l.getD k 0) hn3)
      clear hn
      go_wp2
      go_round
      case rel => exact ⟨k + 1, by omega, by go_num, by rw [HX.out, ← HO.out]; simp [hlen, hlt]⟩
      case measure => simp [intOf]; omega
    · obtain rfl : k = 4 := by omega
      go_wp2
      go_ret3
      refine ⟨?_, Below.drewN' (Below.refl _ _) _⟩
      rw [← HLL.out, List.take_of_length_le (by omega)]; rfl

end Go.Proofs.Ytbnjijlpbeplmaa.FrT
