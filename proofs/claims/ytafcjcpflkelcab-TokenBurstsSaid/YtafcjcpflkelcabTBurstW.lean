/- The walk of the law on bursts in laid blocks. -/
import Derived.Test.YtafcjcpflkelcabFrontW
namespace Go.Proofs.Ytafcjcpflkelcab.TBurstW
open Go.ChangeShapes Go.WideShapes Go.ChangeAt Go.RowKit
open CrcM CrcB CrcL CrcQ TokA TokB FrontW
set_option linter.unusedVariables false
set_option maxHeartbeats 1000000

theorem flip_cons (x : B8) (t : List B8) (j : Nat) : CrcL.flip (x :: t) (8 + j) = x :: CrcL.flip t j := by
  unfold CrcL.flip
  rw [show (8 + j) / 8 = j / 8 + 1 by omega, show (8 + j) % 8 = j % 8 by omega]
  rfl
theorem turn_cons (x : B8) (t : List B8) (bit p k : Nat) : turn (x :: t) (8 + bit) p k = x :: turn t bit p k := by
  induction k with
  | zero => rfl
  | succ k ih =>
    unfold turn
    rw [ih]
    split
    · rw [show 8 + bit + k = 8 + (bit + k) by omega, flip_cons]
    · rfl

theorem and_one (p k : Nat) (hp : p < 65536) : (bits .and .u16 ((p : Int) / 2 ^ k) 1 == 1) = p.testBit k := by
  have e : (p : Int) / 2 ^ k = ((p / 2 ^ k : Nat) : Int) := by simp
  have hlt : p / 2 ^ k < 65536 := Nat.lt_of_le_of_lt (Nat.div_le_self _ _) hp
  rw [e, show (1 : Int) = ((1 : Nat) : Int) from rfl, u16_and_nat _ _ hlt (by omega), Nat.testBit_eq_decide_div_mod_eq, Nat.and_one_is_mod]
  rw [Bool.eq_iff_iff]; simp; omega

theorem block_cons (y : List B8) (n : Nat) : block (254 :: y) n = y.take n := by simp [block]
theorem sum_cons (y : List B8) (n : Nat) : sumOf (254 :: y) n = (y.getD n 0 ++ y.getD (n + 1) 0 : BitVec 16) := by
  unfold sumOf
  rw [show 1 + n = n + 1 by omega, show 2 + n = (n + 1) + 1 by omega]; rfl

theorem early (a : Option Addr) (n c : Nat) (z p : Int) (w : World) (hn : n ≤ maxLen) (h : 4096 < n ∨ z < 0) :
    Calls Try.prog 4 #[.slice a n c, .int .i64 z, .int .u16 p] w fun e w' => e = .returned (.bool true) ∧ Below w.heap.size w w' := by
  unfold maxLen at hn
  by_cases h1 : 4096 < n
  · have d1 : decide ((4096 : Int) < (n : Int)) = true := by simp; omega
    go_enter Try.func4, Try.ntmps4
    go_wp2_with (go_at_call 6; refine (known_any _).mono ?_; rintro e w' ⟨rfl, hb⟩)
    go_ret
    exact ⟨rfl, hb⟩
  · have d1 : decide ((4096 : Int) < (n : Int)) = false := by simp; omega
    have d2 : decide (z < 0) = true := by simp; omega
    go_enter Try.func4, Try.ntmps4
    go_wp2_with (go_at_call 6; refine (known_any _).mono ?_; rintro e w' ⟨rfl, hb⟩)
    go_ret
    exact ⟨rfl, hb⟩

set_option maxRecDepth 100000 in
theorem late (a : Option Addr) (l : List B8) (n c bit p : Nat) (w : World) (hn : l.length = n) (hl : Rd w a l) (ha : ∀ x, 0 < l.length → a = some x → x.block < w.heap.size) (h1 : n ≤ 4096) (hbit : bit ≤ 9223372036854775807) (hp : p < 65536) :
    Calls Try.prog 4 #[.slice a n c, .int .i64 bit, .int .u16 p] w fun e w' => e = .returned (.bool true) ∧ Below w.heap.size w w' := by
  have d1 : decide ((4096 : Int) < (n : Int)) = false := by simp; omega
  have d2 : decide ((bit : Int) < 0) = false := by simp
  have hb0 : (0 : Int) ≤ (bit : Int) := Int.natCast_nonneg _
  have HL : Hid (∀ w', Below w.heap.size w w' → Rd w' a l) := Lib.hid fun w' hb' => Rd.below hl hb' ha
  have HA : Hid (∀ x, 0 < l.length → a = some x → x.block < w.heap.size) := Lib.hid ha
  have HN := Lib.hid hn
  obtain ⟨t, ht⟩ : ∃ t, t = l ++ tail16 l := ⟨_, rfl⟩
  have HTL : Hid (t.length = n + 2) := Lib.hid (by rw [ht]; simp [tail16, hn])
  have HLD : Hid (laid l = 254 :: t) := Lib.hid (by rw [ht]; rfl)
  have HT := Lib.hid ht
  clear hn hl ha ht
  go_enter Try.func4, Try.ntmps4
  go_wp2_with fail
  refine Calls.mono (known_any _) ?_
  rintro e w1 ⟨rfl, hb1⟩
  go_wp2_with fail
  refine Calls.mono (lay a l n c _ HN.out (HL.out _ hb1) (fun x h0 hx => Nat.lt_of_lt_of_le (HA.out x h0 hx) hb1.size) (by omega)) ?_
  rintro e w2 ⟨a2, c2, rfl, hv2, hb2'⟩
  have hb2 := hb1.trans (hb2'.mono hb1.size)
  have hrd2 := hv2.rd
  have hk2 : ∀ x, a2 = some x → x.block < w2.heap.size := by
    obtain ⟨a', c', e, _, _, hk, _⟩ := hv2.shape
    injection e with e1
    intro x hx
    exact (hk x (by rw [← e1]; exact hx)).2
  have HK : Hid (∀ w', Below w2.heap.size w2 w' → Rd w' a2 (laid l)) := Lib.hid fun w' hb' => Rd.below hrd2.1 hb' (fun x _ hx => hk2 x hx)
  have HLEN : Hid ((laid l).length = n + 3) := Lib.hid hrd2.2.1
  have hb3 := (Below.refl w2.heap.size w2).alloc (Nat.le_refl _) (.cells #[] 5)
  have HO := Lib.hid (Own.made w2 w2.heap.size (Nat.le_refl _) #[] 0 [] rfl (Nat.zero_le _) rfl)
  clear hv2 hb2' hrd2 hk2
  go_wp2_with (first
    | (at_builtin
       refine wpList_app rfl (.tmp 30) (.tmp 31) rfl w2.heap.size (.slice (some ⟨w2.heap.size, 0, none⟩) 0 0) [] rfl HO.out a2 (laid l) (n + 3) c2 rfl HLEN.out (HK.out _ hb3) (laid l) (n + 3) rfl HLEN.out (by omega) hb3.size ?_
       intro a3 c3 w3 hv3 hr3 hg3 hn3
       have hb4 := hb3.grown hg3 hb3.size (HO.out.blocks · · |>.1)
       have hc3 : n + 3 ≤ c3 := hv3.rd.2.2.1
       have HV3 := Lib.hid hv3
       have HN3 := Lib.hid hn3
       have HR3 := Lib.hid hr3
       clear hv3 hg3 hr3 hn3))
  have hlen0 := HLEN.out
  obtain ⟨g, o, e3, _⟩ := HR3.out.2 0 (by omega)
  subst e3
  have ho : o = 0 := by
    obtain ⟨a', c', e, _, _, _, hz, _⟩ := HV3.out.shape
    injection e with e1
    have := hz _ (e1.symm.trans rfl)
    injection this
  subst ho
  have hg2 : w2.heap.size ≤ g := (HN3.out _ rfl).1
  clear hlen0
  go_loopw [9] (fun i wr => ∃ k : Nat, k ≤ min 16 (8 * (n + 2) - bit) ∧ i = .int .i64 k ∧ Own wr w2.heap.size (.slice (some ⟨g, 0, none⟩) (n + 3) c3) (254 :: turn t bit p k) ∧ Below w2.heap.size w2 wr ∧ w3.heap.size ≤ wr.heap.size) (fun i _ => 16 - (intOf i).toNat)
  case atStart => exact ⟨0, Nat.zero_le _, rfl, by rw [show turn t bit p 0 = t from rfl, ← HLD.out]; exact HV3.out, hb4, Nat.le_refl _⟩
  case round =>
    obtain ⟨k, hk, rfl, hown, hbw, hsz⟩ := hrel
    by_cases hlt : k < min 16 (8 * (n + 2) - bit)
    · have k1 : k < 16 := by omega
      have k2 : (bit : Int) < 8 * ((n : Int) + 3) - 8 - (k : Int) := by omega
      have hA := and_one p k hp
      by_cases ht : p.testBit k = true
      · rw [ht] at hA
        have hlen : (254 :: turn t bit p k).length = n + 3 := by rw [List.length_cons, turn_length, HTL.out]
        obtain ⟨q, hq⟩ : ∃ q : Nat, q = (bit + k) / 8 := ⟨_, rfl⟩
        obtain ⟨s, hs⟩ : ∃ s : Nat, s = (bit + k) % 8 := ⟨_, rfl⟩
        have hqn : q < n + 2 := by omega
        have hs8 : s < 8 := by omega
        have hq' : ((bit : Int) + (k : Int)) / 8 = (q : Int) := by omega
        have hs' : ((bit : Int) + (k : Int)) % 8 = (s : Int) := by omega
        obtain ⟨b', off', eg, hcell⟩ := hown.rd.1.2 (1 + q) (by omega)
        injection eg with eg
        injection eg with i1 i2
        subst i1 i2
        obtain ⟨y, hy⟩ : ∃ y : B8, y = (254 :: turn t bit p k).getD (1 + q) 0 := ⟨_, rfl⟩
        rw [← hy] at hcell
        have hfree := hown.free (1 + q)
        have HX : Hid (bits .xor .u8 (y.toNat : Int) (128 / 2 ^ s) = ((y ^^^ (0x80#8 >>> s)).toNat : Int)) := Lib.hid (by
          rw [← x8]; congr 1
          simp [BitVec.toNat_ushiftRight, Nat.shiftRight_eq_div_pow])
        have HP := Lib.hid (hown.put (1 + q) (by omega) (y ^^^ (0x80#8 >>> s)))
        have HTT : Hid ((254 :: turn t bit p k).set (1 + q) (y ^^^ (0x80#8 >>> s)) = 254 :: turn t bit p (k + 1)) := Lib.hid (by
          conv => rhs; unfold turn
          rw [if_pos ht, hy, hq, hs, show 1 + (bit + k) / 8 = (bit + k) / 8 + 1 by omega]; rfl)
        have HQ := Lib.hid hq
        have HSS := Lib.hid hs
        have HY := Lib.hid hy
        have HTB := Lib.hid ht
        have HLL := Lib.hid hlen
        have HW := Lib.hid hown
        have q9 : (0 : Int) ≤ (q : Int) := Int.natCast_nonneg _
        have q8 : 1 + (q : Int) < (n : Int) + 3 := by omega
        clear hq hs hy ht hlen hown
        simp only [Nat.zero_add] at hcell
        go_wp2
        go_roundw
        case rel => exact ⟨k + 1, by omega, by go_num, by rw [HX.out, ← HTT.out]; exact HP.out, hbw.setCell (by simpa using hg2) _, by simpa using hsz⟩
        case measure => simp [intOf]; omega
      · have ht' : p.testBit k = false := by simpa using ht
        rw [ht'] at hA
        have HTT : Hid (turn t bit p k = turn t bit p (k + 1)) := Lib.hid (by
          conv => rhs; unfold turn
          rw [if_neg ht])
        have HW := Lib.hid hown
        clear ht ht' hown
        go_wp2
        go_roundw
        case rel => exact ⟨k + 1, by omega, by go_num, by rw [← HTT.out]; exact HW.out, hbw, hsz⟩
        case measure => simp [intOf]; omega
    · have HW := Lib.hid hown
      have hbk : bit + k ≤ 8 * (n + 2) ∨ k = 0 := by omega
      have hbb := hb2.trans (hbw.mono hb2.size)
      have HRD := Lib.hid (Own.rd hown)
      have hgl : g < wr.heap.size := Nat.lt_of_lt_of_le (HN3.out _ rfl).2 hsz
      obtain ⟨y, hy⟩ : ∃ y, y = turn t bit p k := ⟨_, rfl⟩
      rw [← hy] at HRD
      have HY := Lib.hid hy
      have hYL : y.length = n + 2 := by rw [hy, turn_length, HTL.out]
      have HIFF : Hid (sum16 (y.take n) = (y.getD n 0 ++ y.getD (n + 1) 0 : BitVec 16) ↔ t = y) := Lib.hid (by
        rcases hbk with h | h
        · exact burst16 l n bit p k HN.out (by omega) t y HT.out h hy
        · exact burst16 l n 0 p k HN.out (by omega) t y HT.out (by omega) (by rw [hy, h]; rfl))
      have HYL := Lib.hid hYL
      clear hown hy hYL
      have kk : decide ((k : Int) < 16) = true ∧ ¬ (bit : Int) < 8 * ((n : Int) + 3) - 8 - (k : Int) ∨ decide ((k : Int) < 16) = false := by
        by_cases h16 : k < 16
        · exact .inl ⟨by simp; omega, by omega⟩
        · exact .inr (by simp; omega)
      have HRL : Hid (∀ w', Below wr.heap.size wr w' → Rd w' (some ⟨g, 0, none⟩) (254 :: y)) := Lib.hid fun w' hb' => Rd.below HRD.out.1 hb' (fun x _ hx => by injection hx with hx; subst hx; exact hgl)
      by_cases hxy : t = y
      · have e : laid l = 254 :: y := by rw [HLD.out, hxy]
        have HC : Hid (Calls Try.prog 13 #[.slice (some ⟨g, 0, none⟩) (n + 3) c3, .int .i64 n] wr fun e w' => ∃ a' c', e = .returned (.tuple #[.slice a' n c', .int .i64 ((n : Int) + 3), .int .i64 0]) ∧ Rd w' a' l ∧ Below wr.heap.size wr w') := Lib.hid
          (readLaid _ l [] n (n + 3) c3 n wr HN.out (by rw [List.append_nil]; exact HLEN.out) (by rw [List.append_nil, e]; exact HRD.out.1) (fun x _ hx => by injection hx with hx; subst hx; exact hgl) h1 hc3)
        have HE := Lib.hid e
        clear hxy e
        rcases kk with ⟨kk1, kk2⟩ | kk1
        all_goals
          go_wp2_with fail
          refine Calls.mono HC.out ?_
          rintro e w5 ⟨a5, c5, rfl, hr5, hb5⟩
          have hb6 := hbw.trans (hb5.mono hbw.size)
          have hbe := hb2.trans (hb6.mono hb2.size)
          have k1 := conv w5 a5 l n c5 HN.out hr5
          have k2 := conv w5 a l n c HN.out (HL.out _ hbe)
          have k3 := conv w5 a2 (laid l) (n + 3) c2 HLEN.out (HK.out _ hb6)
          have k4 := conv w5 (some ⟨g, 0, none⟩) (laid l) (n + 3) c3 HLEN.out (by rw [HE.out]; exact HRL.out _ hb5)
          clear hr5 hb5 hb6
          go_wp2
          go_ret
          exact ⟨rfl, hbe⟩
      · have HC : Hid (Calls Try.prog 13 #[.slice (some ⟨g, 0, none⟩) (n + 3) c3, .int .i64 n] wr fun e w' => e = .returned (none3 25) ∧ Below wr.heap.size wr w') := Lib.hid
          (readSum _ (254 :: y) (n + 3) c3 n wr (by rw [List.length_cons, HYL.out]) HRD.out.1 rfl h1 (by omega) hc3 (by rw [block_cons, sum_cons]; intro e; exact hxy (HIFF.out.1 e)))
        have k5 : ((strB (laid l)).toList == (strB (254 :: y)).toList) = false := testS (laid l) (254 :: y) false (by
          constructor
          · intro e
            rw [HLD.out] at e
            injection e with _ e
            exact absurd e hxy
          · intro e; cases e)
        obtain ⟨Y, hY⟩ : ∃ Y, Y = 254 :: y := ⟨_, rfl⟩
        rw [← hY] at k5
        have HK5 := Lib.hid k5
        have HYY := Lib.hid hY
        clear hxy k5 hY
        rcases kk with ⟨kk1, kk2⟩ | kk1
        all_goals
          go_wp2_with fail
          refine Calls.mono HC.out ?_
          rintro e w5 ⟨rfl, hb5⟩
          unfold none3
          have hb6 := hbw.trans (hb5.mono hbw.size)
          have hbe := hb2.trans (hb6.mono hb2.size)
          have k3 := conv w5 a2 (laid l) (n + 3) c2 HLEN.out (HK.out _ hb6)
          have k4 := conv w5 (some ⟨g, 0, none⟩) Y (n + 3) c3 (by rw [HYY.out, List.length_cons, HYL.out]) (by rw [HYY.out]; exact HRL.out _ hb5)
          have k5 := HK5.out
          clear hb5 hb6
          go_wp2
          go_ret
          exact ⟨rfl, hbe⟩
end Go.Proofs.Ytafcjcpflkelcab.TBurstW
