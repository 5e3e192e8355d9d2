/- The tables of sums: their filling. -/
import Derived.Test.YtbblldhlbhoglaaCrcP
import Derived.Deep.RegionHeld3
namespace Go.Proofs.Ytbblldhlbhoglaa.SumF
open Go.ChangeShapes Go.WideShapes Go.ChangeAt Go.RowKit
open CrcM CrcA CrcK CrcP
set_option linter.unusedVariables false
set_option maxHeartbeats 1000000

/-- The block of one sums' object. -/
def Blk (w : World) (g : Nat) (cs : Array Value) : Prop := w.heap[g]? = some (.cells cs 55 (0, 0))
theorem Blk.lt {w g cs} (h : Blk w g cs) : g < w.heap.size := by
  rcases Nat.lt_or_ge g w.heap.size with hlt | hge
  · exact hlt
  · unfold Blk at h; rw [Array.getElem?_eq_none hge] at h; cases h
theorem Blk.cell {w g cs} (h : Blk w g cs) (i : Nat) : w.cell? ⟨g, i, none⟩ = cs[i]? := cell_of_row w g i cs 55 (0, 0) h
theorem Blk.free {w g cs} (h : Blk w g cs) (i : Nat) : w.frozen? ⟨g, i, none⟩ = false := by
  unfold Blk at h; simp [World.frozen?, h]
theorem Blk.put {w g cs} (h : Blk w g cs) (i : Nat) (u : Value) : Blk (w.setCell ⟨g, i, none⟩ u) g (cs.setIfInBounds i u) := by
  unfold Blk at h ⊢
  simp [World.setCell, Array.getElem?_modify, h]
theorem Blk.drew {w g cs} (h : Blk w g cs) : Blk w.drew g cs := h

def n7 (k : Nat) : Int := ((s7 0 (BitVec.ofNat 8 k)).toNat : Nat)
def n16 (k : Nat) : Int := ((s16 0 (BitVec.ofNat 8 k)).toNat : Nat)
abbrev v7 (k : Nat) : Value := .int .u8 (n7 k)
abbrev v16 (k : Nat) : Value := .int .u16 (n16 k)
def fillA (cs : Array Value) : Nat → Array Value
  | 0 => cs
  | k + 1 => ((fillA cs k).setIfInBounds (3 + k) (v7 k)).setIfInBounds (259 + k) (v16 k)
theorem fillA_size (cs : Array Value) (k : Nat) : (fillA cs k).size = cs.size := by
  induction k with
  | zero => rfl
  | succ k ih => simp [fillA, ih]
theorem fillA_far (cs : Array Value) (k i : Nat) (hi : i < 3 ∨ 515 ≤ i) (hk : k ≤ 256) : (fillA cs k)[i]? = cs[i]? := by
  induction k with
  | zero => rfl
  | succ k ih =>
    unfold fillA
    rw [Array.getElem?_setIfInBounds_ne (by omega), Array.getElem?_setIfInBounds_ne (by omega)]
    exact ih (by omega)
theorem fillA_7 (cs : Array Value) (hs : cs.size = 516) (k i : Nat) (hi : i < k) (hk : k ≤ 256) : (fillA cs k)[3 + i]? = some (v7 i) := by
  induction k with
  | zero => omega
  | succ k ih =>
    unfold fillA
    rw [Array.getElem?_setIfInBounds_ne (by omega)]
    by_cases e : i = k
    · subst e; rw [Array.getElem?_setIfInBounds_self_of_lt (by rw [fillA_size]; omega)]
    · rw [Array.getElem?_setIfInBounds_ne (by omega)]; exact ih (by omega) (by omega)
theorem fillA_16 (cs : Array Value) (hs : cs.size = 516) (k i : Nat) (hi : i < k) (hk : k ≤ 256) : (fillA cs k)[259 + i]? = some (v16 i) := by
  induction k with
  | zero => omega
  | succ k ih =>
    unfold fillA
    by_cases e : i = k
    · subst e; rw [Array.getElem?_setIfInBounds_self_of_lt (by rw [Array.size_setIfInBounds, fillA_size]; omega)]
    · rw [Array.getElem?_setIfInBounds_ne (by omega), Array.getElem?_setIfInBounds_ne (by omega)]; exact ih (by omega) (by omega)

theorem grown_set {w w' : World} {g : Nat} (h : w.grownBy w' (some g)) (i : Nat) (u : Value) : w.grownBy (w'.setCell ⟨g, i, none⟩ u) (some g) :=
  ⟨h.os, h.tape, h.output, by simpa using h.size, fun k hk hne => by
    rw [Below.heap_setCell _ _ _ _ (fun e => hne (by rw [show k = g from e]))]
    exact h.block k hk hne⟩
theorem grown_drew {w w' : World} {g : Nat} (h : w.grownBy w' (some g)) : w.grownBy w'.drew (some g) := ⟨h.os, h.tape, h.output, h.size, h.block⟩

theorem step16' (k : Nat) (hk : k < 256) (w : World) :
    Calls Try.prog 20 #[.int .u16 0, .int .u8 k] w fun e w' => e = .returned (v16 k) ∧ w = w' := by
  have h := step16 0 (BitVec.ofNat 8 k) w
  rw [show ((BitVec.ofNat 8 k).toNat) = k by simp; omega] at h
  exact h
theorem step7' (k : Nat) (hk : k < 256) (w : World) :
    Calls Try.prog 19 #[.int .u8 0, .int .u8 k] w fun e w' => e = .returned (v7 k) ∧ w = w' := by
  have h := step7 0 (BitVec.ofNat 8 k) w
  rw [show ((BitVec.ofNat 8 k).toNat) = k by simp; omega] at h
  exact h

set_option maxRecDepth 100000 in
theorem fill_any (g : Nat) (cs : Array Value) (w : World) (hb : Blk w g cs) (hs : cs.size = 516) :
    Calls Try.prog 22 #[.pointer (some ⟨g, 0, none⟩)] w fun e w' => e = .returned (.tuple #[]) ∧ Blk w' g (fillA cs 256) ∧ w.grownBy w' (some g) := by
  have HB := Lib.hid hb
  have HS := Lib.hid hs
  clear hb hs
  go_enter Try.func22, Try.ntmps22
  go_wp2
  go_loopw [2, 3] (fun _ i wr => ∃ k : Nat, k ≤ 256 ∧ i = .int .i64 k ∧ Blk wr g (fillA cs k) ∧ w.grownBy wr (some g)) (fun _ i _ => 256 - (intOf i).toNat)
  case atStart => exact ⟨0, Nat.zero_le _, rfl, HB.out, World.grownBy.refl _ _⟩
  case round =>
    obtain ⟨k, hk, rfl, hw, hg⟩ := hrel
    by_cases hlt : k < 256
    · have HW := Lib.hid hw
      have hsz : (fillA cs k).size = 516 := by rw [fillA_size, HS.out]
      obtain ⟨u7, hc7⟩ : ∃ u, wr.cell? ⟨g, 3 + k, none⟩ = some u := ⟨_, (hw.cell (3 + k)).trans (Array.getElem?_eq_getElem (by omega))⟩
      have hf7 := hw.free (3 + k)
      have hp1 := Blk.drew (hw.put (3 + k) (v7 k))
      obtain ⟨w2, hw2⟩ : ∃ w2, w2 = (wr.setCell ⟨g, 3 + k, none⟩ (v7 k)).drew := ⟨_, rfl⟩
      obtain ⟨u16, hc16⟩ : ∃ u, w2.cell? ⟨g, 259 + k, none⟩ = some u := ⟨_, by rw [hw2, hp1.cell (259 + k)]; exact Array.getElem?_eq_getElem (by simp; omega)⟩
      have hf16 : w2.frozen? ⟨g, 259 + k, none⟩ = false := by rw [hw2]; exact hp1.free (259 + k)
      have HP2 : Hid (Blk ((w2.setCell ⟨g, 259 + k, none⟩ (v16 k)).drew) g (fillA cs (k + 1))) := Lib.hid (by rw [hw2]; exact Blk.drew (hp1.put (259 + k) (v16 k)))
      have HG2 : Hid (w.grownBy ((w2.setCell ⟨g, 259 + k, none⟩ (v16 k)).drew) (some g)) := Lib.hid (by
        rw [hw2]; exact grown_drew (grown_set (grown_drew (grown_set hg _ _)) _ _))
      have HW2 := Lib.hid hw2
      clear hw hp1 hw2
      have hwrap : IntKind.u8.wrap (k : Int) = (k : Int) := by rw [IntKind.wrap_u8']; omega
      have i0 : (0 : Int) ≤ (k : Int) := Int.natCast_nonneg _
      have i1 : (k : Int) < 256 := by omega
      go_wp2_with fail
      go_region_held3 (fun w' => w'.frozen? ⟨g, 3 + k, none⟩ = false)
        (go_keep)
        ((go_at_call 19; refine (step7' k hlt _).mono ?_; rintro e w' ⟨rfl, rfl⟩))
      rw [← HW2.out]
      go_wp2_with fail
      go_region_held3 (fun w' => w'.frozen? ⟨g, 259 + k, none⟩ = false)
        (go_keep)
        ((go_at_call 20; refine (step16' k hlt _).mono ?_; rintro e w' ⟨rfl, rfl⟩))
      go_wp2
      go_roundw
      case rel => exact ⟨k + 1, by omega, by go_num, HP2.out, HG2.out⟩
      case measure => simp [intOf]; omega
    · obtain rfl : k = 256 := by omega
      have HW := Lib.hid hw
      clear hw
      go_wp2
      go_end0
      exact ⟨rfl, HW.out, hg⟩
end Go.Proofs.Ytbblldhlbhoglaa.SumF
