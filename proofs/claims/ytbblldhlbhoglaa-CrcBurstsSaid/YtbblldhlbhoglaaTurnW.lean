/- The walk of 'turned': the bits of a pattern, from a bit on, turned in a new row. -/
import Derived.Test.YtbblldhlbhoglaaCrcP
import Derived.Test.YtbblldhlbhoglaaCrcL
namespace Go.Proofs.Ytbblldhlbhoglaa.TurnW
open Go.ChangeShapes Go.WideShapes Go.ChangeAt Go.RowKit
open Go.ChangeMaps (open_string shut_string)
open CrcM CrcA CrcK CrcP CrcL
set_option linter.unusedVariables false
set_option maxHeartbeats 1000000

theorem Own.put {w : World} {base g c n : Nat} {xs : List B8} (h : Own w base (.slice (some ⟨g, 0, none⟩) n c) xs) (j : Nat) (hj : j < xs.length) (y : B8) :
    Own (w.setCell ⟨g, j, none⟩ (.int .u8 y.toNat)) base (.slice (some ⟨g, 0, none⟩) n c) (xs.set j y) := by
  have hn := h.rd.2.1
  obtain ⟨hl, h2⟩ := h
  rcases h2 with ⟨hv, _⟩ | ⟨g', cap, cur, hv, hg, hh, hnc, hcm, hcs, ht⟩
  · cases hv
  · injection hv with e1 e2 e3
    injection e1 with e1
    injection e1 with e1
    subst e1 e3
    refine ⟨by rw [vals_length, List.length_set]; omega, .inr ⟨g, c, cur.setIfInBounds j (.int .u8 y.toNat), by rw [List.length_set, hn], hg, Whole.put hh j _, by rw [List.length_set]; omega, hcm, by simpa using hcs, ?_⟩⟩
    rw [List.length_set, Array.toList_setIfInBounds]
    have hv : vals (xs.set j y) = (vals xs).set j (.int .u8 y.toNat) := by simp [vals, List.map_set]
    rw [hv, ← ht, List.take_set]
theorem Own.free {w : World} {base g c n : Nat} {xs : List B8} (h : Own w base (.slice (some ⟨g, 0, none⟩) n c) xs) (j : Nat) : w.frozen? ⟨g, j, none⟩ = false := by
  obtain ⟨hl, h2⟩ := h
  rcases h2 with ⟨hv, _⟩ | ⟨g', cap, cur, hv, hg, hh, hnc, hcm, hcs, ht⟩
  · cases hv
  · injection hv with e1 e2 e3
    injection e1 with e1
    injection e1 with e1
    subst e1
    exact Whole.free hh j

theorem and_one (p k : Nat) (hp : p < 4294967296) : (bits .and .u32 ((p : Int) / 2 ^ k) 1 == 1) = p.testBit k := by
  have e : (p : Int) / 2 ^ k = ((p / 2 ^ k : Nat) : Int) := by simp
  have hlt : p / 2 ^ k < 4294967296 := Nat.lt_of_le_of_lt (Nat.div_le_self _ _) hp
  rw [e, show (1 : Int) = ((1 : Nat) : Int) from rfl, u32_and_nat _ _ hlt (by omega), Nat.testBit_eq_decide_div_mod_eq, Nat.and_one_is_mod]
  rw [Bool.eq_iff_iff]; simp; omega

theorem turned (a : Option Addr) (l : List B8) (n c bit p N : Nat) (w : World) (hln : l.length = n) (hr : Rd w a l) (ha : ∀ x, 0 < l.length → a = some x → x.block < w.heap.size) (h1 : n ≤ 5000) (hbit : bit ≤ 9223372036854775807)
    (hp : p < 4294967296) (hN : N ≤ 16) :
    Calls Try.prog 17 #[.slice a n c, .int .i64 bit, .int .u32 p, .int .i64 N] w fun e w' => ∃ a' c', e = .returned (.slice a' n c') ∧ Rd w' a' (turn l bit p (min N (8 * n - bit))) ∧ (∀ x, a' = some x → w.heap.size ≤ x.block ∧ x.block < w'.heap.size) ∧ n ≤ c' ∧ Below w.heap.size w w' := by
  have hb2 := (Below.refl w.heap.size w).alloc (Nat.le_refl _) (.cells #[] 5)
  have HO := Lib.hid (Own.made w w.heap.size (Nat.le_refl _) #[] 0 [] rfl (Nat.zero_le _) rfl)
  have HR : Hid (∀ w', Below w.heap.size w w' → Rd w' a l) := Lib.hid fun w' hb => Rd.below hr hb ha
  have HL := Lib.hid hln
  clear hr hln ha
  have hb0 : (0 : Int) ≤ (bit : Int) := Int.natCast_nonneg _
  go_enter Try.func17, Try.ntmps17
  go_wp2_with (at_builtin
               refine wpList_app rfl (.tmp 11) (.tmp 12) rfl w.heap.size (.slice (some ⟨w.heap.size, 0, none⟩) 0 0) [] rfl HO.out a l n c rfl HL.out (HR.out _ hb2) l n rfl HL.out (by omega) hb2.size ?_
               intro a1 c1 w2 hv1 hr1 hg1 hn1
               have hb3 := hb2.grown hg1 hb2.size (HO.out.blocks · · |>.1)
               have HV := Lib.hid hv1
               have HN1 := Lib.hid hn1
               clear hr1 hg1 hv1 hn1)
  go_loopw [10] (fun i wr => ∃ k : Nat, k ≤ min N (8 * n - bit) ∧ i = .int .i64 k ∧ Own wr w.heap.size (.slice a1 n c1) (turn l bit p k) ∧ Below w.heap.size w wr ∧ w2.heap.size ≤ wr.heap.size) (fun i _ => N - (intOf i).toNat)
  case atStart => exact ⟨0, Nat.zero_le _, rfl, HV.out, hb3, Nat.le_refl _⟩
  case round =>
    obtain ⟨k, hk, rfl, hown, hbw, hsz⟩ := hrel
    by_cases hlt : k < min N (8 * n - bit)
    · have k1 : k < N := by omega
      have k2 : (bit : Int) < 8 * (n : Int) - (k : Int) := by omega
      have hA := and_one p k hp
      by_cases ht : p.testBit k = true
      · rw [ht] at hA
        have hlen : (turn l bit p k).length = n := by rw [turn_length, HL.out]
        obtain ⟨q, hq⟩ : ∃ q : Nat, q = (bit + k) / 8 := ⟨_, rfl⟩
        obtain ⟨s, hs⟩ : ∃ s : Nat, s = (bit + k) % 8 := ⟨_, rfl⟩
        have hqn : q < n := by omega
        have hs8 : s < 8 := by omega
        have hq' : ((bit : Int) + (k : Int)) / 8 = (q : Int) := by omega
        have hs' : ((bit : Int) + (k : Int)) % 8 = (s : Int) := by omega
        obtain ⟨g, off, eg, hcell⟩ := hown.rd.1.2 q (by omega)
        have hoff : off = 0 := by
          obtain ⟨a', c', e, _, _, _, hz, _⟩ := hown.shape
          injection e with e1
          have := hz _ (e1.symm.trans eg)
          injection this
        subst hoff eg
        obtain ⟨y, hy⟩ : ∃ y : B8, y = (turn l bit p k).getD q 0 := ⟨_, rfl⟩
        rw [← hy] at hcell
        have hfree := TurnW.Own.free hown q
        have HX : Hid (bits .xor .u8 (y.toNat : Int) (128 / 2 ^ s) = ((y ^^^ (0x80#8 >>> s)).toNat : Int)) := Lib.hid (by
          rw [← x8]; congr 1
          simp [BitVec.toNat_ushiftRight, Nat.shiftRight_eq_div_pow])
        have HP := Lib.hid (TurnW.Own.put hown q (by omega) (y ^^^ (0x80#8 >>> s)))
        have HT : Hid ((turn l bit p k).set q (y ^^^ (0x80#8 >>> s)) = turn l bit p (k + 1)) := Lib.hid (by
          conv => rhs; unfold turn
          rw [if_pos ht, hy, hq, hs]; rfl)
        have hg0 := HN1.out _ rfl
        have HQ := Lib.hid hq
        have HS := Lib.hid hs
        have HY := Lib.hid hy
        have HTT := Lib.hid ht
        have HLL := Lib.hid hlen
        have HW := Lib.hid hown
        clear hq hs hy ht hlen hown
        simp only [Nat.zero_add] at hcell
        go_wp2
        go_roundw
        case rel => exact ⟨k + 1, by omega, by go_num, by rw [HX.out, ← HT.out]; exact HP.out, hbw.setCell (by simpa using hg0.1) _, by simpa using hsz⟩
        case measure => simp [intOf]; omega
      · have ht' : p.testBit k = false := by simpa using ht
        rw [ht'] at hA
        have HT : Hid (turn l bit p k = turn l bit p (k + 1)) := Lib.hid (by
          conv => rhs; unfold turn
          rw [if_neg ht])
        have HW := Lib.hid hown
        clear ht ht' hown
        go_wp2
        go_roundw
        case rel => exact ⟨k + 1, by omega, by go_num, by rw [← HT.out]; exact HW.out, hbw, hsz⟩
        case measure => simp [intOf]; omega
    · have hkk : k = min N (8 * n - bit) := by omega
      rw [hkk] at hown
      have HW := Lib.hid hown
      have hrd := Lib.hid (Own.rd hown)
      have HK := Lib.hid hkk
      clear hown hkk
      by_cases k1 : k < N
      · have k2 : ¬ (bit : Int) < 8 * (n : Int) - (k : Int) := by omega
        go_wp2
        go_ret
        exact ⟨a1, c1, rfl, hrd.out.1, fun x hx => ⟨(HN1.out x hx).1, by have := (HN1.out x hx).2; omega⟩, hrd.out.2.2.1, hbw⟩
      · have k2 : decide (k < N) = false := by simp; omega
        go_wp2
        go_ret
        exact ⟨a1, c1, rfl, hrd.out.1, fun x hx => ⟨(HN1.out x hx).1, by have := (HN1.out x hx).2; omega⟩, hrd.out.2.2.1, hbw⟩
end Go.Proofs.Ytbblldhlbhoglaa.TurnW
