/- The walk of the law on one bit that is turned. -/
import Derived.Test.YtbblldhlbhoglaaTurnW
namespace Go.Proofs.Ytbblldhlbhoglaa.BitsW
open Go.ChangeShapes Go.WideShapes Go.ChangeAt Go.RowKit
open Go.ChangeMaps (open_string shut_string)
open CrcM CrcA CrcK CrcP CrcL TurnW
set_option linter.unusedVariables false
set_option maxHeartbeats 1000000

theorem early (a : Option Addr) (n c : Nat) (z : Int) (w : World) (hn : n ≤ maxLen) (h : 4096 < n ∨ n = 0) :
    Calls Try.prog 7 #[.slice a n c, .int .i64 z] w fun e w' => e = .returned (.bool true) ∧ Below w.heap.size w w' := by
  unfold maxLen at hn
  rcases h with h | rfl
  · have he : decide ((4096 : Int) < (n : Int)) = true := by simp; omega
    go_enter Try.func7, Try.ntmps7
    go_wp2_with (go_at_call 8; refine (known_any _).mono ?_; rintro e w' ⟨rfl, hb⟩)
    go_ret
    exact ⟨rfl, hb⟩
  · go_enter Try.func7, Try.ntmps7
    go_wp2_with (go_at_call 8; refine (known_any _).mono ?_; rintro e w' ⟨rfl, hb⟩)
    go_ret
    exact ⟨rfl, hb⟩

theorem turned1 (a : Option Addr) (l : List B8) (n c bit : Nat) (w : World) (hln : l.length = n) (hr : Rd w a l) (ha : ∀ x, 0 < l.length → a = some x → x.block < w.heap.size) (h1 : n ≤ 5000) (hbit : bit < 8 * n) :
    Calls Try.prog 17 #[.slice a n c, .int .i64 bit, .int .u32 1, .int .i64 1] w fun e w' => ∃ a' c', e = .returned (.slice a' n c') ∧ Rd w' a' (turn l bit 1 1) ∧ Below w.heap.size w w' := by
  have h := turned a l n c bit 1 1 w hln hr ha h1 (by omega) (by omega) (by omega)
  refine Calls.mono h ?_
  rintro e w' ⟨a', c', he, h2, _, _, h3⟩
  rw [show min 1 (8 * n - bit) = 1 by omega] at h2
  exact ⟨a', c', he, h2, h3⟩

theorem neqs (x y : Nat) (h : x ≠ y) : (((x : Int) == (y : Int)) = false) ∧ (((x : Int) != (y : Int)) = true) := by
  constructor
  · simp; omega
  · rw [bne_iff_ne]; omega

theorem lateN (a : Option Addr) (l : List B8) (n c : Nat) (z : Int) (w : World) (hln : l.length = n) (hr : Rd w a l) (ha : ∀ x, 0 < l.length → a = some x → x.block < w.heap.size) (h0 : 0 < n) (h1 : n ≤ 4096)
    (m : Nat) (hm : m < 8 * n) (hz : z.tmod (8 * (n : Int)) < 0) (hw : wrap64 (z.tmod (8 * (n : Int)) + 8 * (n : Int)) = (m : Int)) :
    Calls Try.prog 7 #[.slice a n c, .int .i64 z] w fun e w' => e = .returned (.bool true) ∧ Below w.heap.size w w' := by
  have he : decide ((4096 : Int) < (n : Int)) = false := by simp; omega
  have hne : ((n : Int) == 0) = false := by simp; omega
  obtain ⟨g1, g2⟩ := neqs (sum16 l).toNat (sum16 (turn l m 1 1)).toNat (fun e => bits16 l m (by omega) (BitVec.eq_of_toNat_eq e))
  obtain ⟨g3, g4⟩ := neqs (sum7 l).toNat (sum7 (turn l m 1 1)).toNat (fun e => bits7 l m (by omega) (BitVec.eq_of_toNat_eq e))
  have HR : Hid (∀ w', Below w.heap.size w w' → Rd w' a l) := Lib.hid fun w' hb' => Rd.below hr hb' ha
  have HLA : Hid (∀ x, 0 < l.length → a = some x → x.block < w.heap.size) := Lib.hid ha
  have HL := Lib.hid hln
  clear hln hr ha
  go_enter Try.func7, Try.ntmps7
  go_wp2_with (go_at_call 8; refine (known_any _).mono ?_; rintro e w1 ⟨rfl, hb⟩)
  refine Calls.mono (turned1 a l n c m _ HL.out (HR.out _ hb) (fun x h0 hx => Nat.lt_of_lt_of_le (HLA.out x h0 hx) hb.size) (by omega) hm) ?_
  rintro e w2 ⟨a', c', rfl, hr2, hb2⟩
  have hb3 := hb.trans (hb2.mono hb.size)
  have HR2 := Lib.hid hr2
  have HL2 := Lib.hid (turn_length l m 1 1)
  clear hr2 hb2
  go_wp2_with fail
  refine Calls.mono (sixteen' a l _ _ _ HL.out (HR.out _ hb3)) ?_
  rintro e w' ⟨rfl, rfl⟩
  go_wp2_with fail
  refine Calls.mono (sixteen' a' _ _ _ _ (by rw [HL2.out, HL.out]) HR2.out) ?_
  rintro e w' ⟨rfl, rfl⟩
  go_wp2_with fail
  refine Calls.mono (seven' a l _ _ _ HL.out (HR.out _ hb3)) ?_
  rintro e w' ⟨rfl, rfl⟩
  go_wp2_with fail
  refine Calls.mono (seven' a' _ _ _ _ (by rw [HL2.out, HL.out]) HR2.out) ?_
  rintro e w' ⟨rfl, rfl⟩
  go_wp2
  go_ret
  exact ⟨rfl, hb3⟩

theorem lateP (a : Option Addr) (l : List B8) (n c : Nat) (z : Int) (w : World) (hln : l.length = n) (hr : Rd w a l) (ha : ∀ x, 0 < l.length → a = some x → x.block < w.heap.size) (h0 : 0 < n) (h1 : n ≤ 4096)
    (m : Nat) (hm : m < 8 * n) (hw : z.tmod (8 * (n : Int)) = (m : Int)) :
    Calls Try.prog 7 #[.slice a n c, .int .i64 z] w fun e w' => e = .returned (.bool true) ∧ Below w.heap.size w w' := by
  have he : decide ((4096 : Int) < (n : Int)) = false := by simp; omega
  have hne : ((n : Int) == 0) = false := by simp; omega
  obtain ⟨g1, g2⟩ := neqs (sum16 l).toNat (sum16 (turn l m 1 1)).toNat (fun e => bits16 l m (by omega) (BitVec.eq_of_toNat_eq e))
  obtain ⟨g3, g4⟩ := neqs (sum7 l).toNat (sum7 (turn l m 1 1)).toNat (fun e => bits7 l m (by omega) (BitVec.eq_of_toNat_eq e))
  have HR : Hid (∀ w', Below w.heap.size w w' → Rd w' a l) := Lib.hid fun w' hb' => Rd.below hr hb' ha
  have HLA : Hid (∀ x, 0 < l.length → a = some x → x.block < w.heap.size) := Lib.hid ha
  have HL := Lib.hid hln
  clear hln hr ha
  go_enter Try.func7, Try.ntmps7
  go_wp2_with (go_at_call 8; refine (known_any _).mono ?_; rintro e w1 ⟨rfl, hb⟩)
  refine Calls.mono (turned1 a l n c m _ HL.out (HR.out _ hb) (fun x h0 hx => Nat.lt_of_lt_of_le (HLA.out x h0 hx) hb.size) (by omega) hm) ?_
  rintro e w2 ⟨a', c', rfl, hr2, hb2⟩
  have hb3 := hb.trans (hb2.mono hb.size)
  have HR2 := Lib.hid hr2
  have HL2 := Lib.hid (turn_length l m 1 1)
  clear hr2 hb2
  go_wp2_with fail
  refine Calls.mono (sixteen' a l _ _ _ HL.out (HR.out _ hb3)) ?_
  rintro e w' ⟨rfl, rfl⟩
  go_wp2_with fail
  refine Calls.mono (sixteen' a' _ _ _ _ (by rw [HL2.out, HL.out]) HR2.out) ?_
  rintro e w' ⟨rfl, rfl⟩
  go_wp2_with fail
  refine Calls.mono (seven' a l _ _ _ HL.out (HR.out _ hb3)) ?_
  rintro e w' ⟨rfl, rfl⟩
  go_wp2_with fail
  refine Calls.mono (seven' a' _ _ _ _ (by rw [HL2.out, HL.out]) HR2.out) ?_
  rintro e w' ⟨rfl, rfl⟩
  go_wp2
  go_ret
  exact ⟨rfl, hb3⟩

end Go.Proofs.Ytbblldhlbhoglaa.BitsW
