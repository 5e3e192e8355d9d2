/- Contracts of the document's pages: marks, counts, states. -/
import Derived.Test.YtjnpfnpeekpleaaDoorPgA
namespace Go.Proofs.YtjnpfnpeekpleaaDoor.PgS
open Go.ChangeShapes Go.WideShapes Go.ChangeAt Go.RowKit
open EcM EcA EcB EcC EcT EcX EcY EcZ EcWM EcWP EcWR EcFM PgM PgA
set_option linter.unusedVariables false
set_option maxHeartbeats 1000000

def sumTo (x : Nat) : Nat → Nat
  | 0 => 0
  | j + 1 => sumTo x j + x / 2 ^ j % 2
theorem sum8 (x : B8) : sumTo x.toNat 8 = pc x.toNat := by
  have H : ∀ x : B8, sumTo x.toNat 8 = pc x.toNat := by decide +kernel
  exact H x
theorem sumTo_le (x : Nat) : ∀ j, sumTo x j ≤ j
  | 0 => Nat.le_refl _
  | j + 1 => by have := sumTo_le x j; unfold sumTo; omega

theorem and1 (y : Int) (h0 : 0 ≤ y) (h1 : y < 256) : bits .and .u8 y 1 = y % 2 := by
  obtain ⟨n, rfl⟩ := Int.eq_ofNat_of_zero_le h0
  have hlt : n < 256 := by omega
  rw [show (1 : Int) = ((1 : Nat) : Int) from rfl, u8_and_nat _ _ hlt (by omega), Nat.and_one_is_mod]
  omega

set_option maxRecDepth 100000 in
theorem markR (x : B8) (w : World) : Calls Tryd.prog 15 #[.int .u8 (x.toNat : Int)] w fun e w' => e = .returned (.bool (marked x)) ∧ w' = w := by
  have HD : Hid (marked x = decide ((sumTo x.toNat 8 : Int) ≤ 4)) := Lib.hid (by unfold marked; rw [sum8]; exact decide_eq_decide.2 (by omega))
  rw [HD.out]
  have hx : x.toNat < 256 := by have := x.isLt; omega
  have hle := Lib.hid (sumTo_le x.toNat)
  have hs : Hid (∀ j, sumTo x.toNat (j + 1) = sumTo x.toNat j + x.toNat / 2 ^ j % 2) := Lib.hid fun j => rfl
  have h0 : Hid (sumTo x.toNat 0 = 0) := Lib.hid rfl
  generalize sumTo x.toNat = S at *
  generalize x.toNat = X at *
  clear HD
  go_enter Tryd.func15, Tryd.ntmps15
  go_wp2
  go_loopw [4, 3] (fun i v wr => ∃ j : Nat, j ≤ 8 ∧ i = .int .i64 (j : Int) ∧ v = .int .i64 (S j : Int) ∧ wr = w) (fun i _ _ => 8 - (intOf i).toNat)
  case atStart => exact ⟨0, by omega, rfl, by rw [h0.out]; rfl, rfl⟩
  case round =>
    obtain ⟨j, hj, rfl, rfl, hwr⟩ := hrel
    obtain rfl := hwr.symm
    by_cases hlt : j < 8
    · have hst := hs.out j
      have hl := hle.out j
      rcases (show j = 0 ∨ j = 1 ∨ j = 2 ∨ j = 3 ∨ j = 4 ∨ j = 5 ∨ j = 6 ∨ j = 7 by omega) with rfl | rfl | rfl | rfl | rfl | rfl | rfl | rfl
      · simp only [Nat.reducePow, Nat.reduceAdd] at hst
        have hb1 : bits .and .u8 (X : Int) 1 = (X : Int) % 2 := and1 _ (by omega) (by omega)
        go_wp2
        go_roundw
        case rel => exact ⟨1, by omega, rfl, by rw [hst]; go_num, by trivial⟩
        case measure => simp [intOf]
      · simp only [Nat.reducePow, Nat.reduceAdd] at hst
        have hb1 : bits .and .u8 ((X : Int) / 2) 1 = ((X : Int) / 2) % 2 := and1 _ (by omega) (by omega)
        go_wp2
        go_roundw
        case rel => exact ⟨2, by omega, rfl, by rw [hst]; go_num, by trivial⟩
        case measure => simp [intOf]
      · simp only [Nat.reducePow, Nat.reduceAdd] at hst
        have hb1 : bits .and .u8 ((X : Int) / 4) 1 = ((X : Int) / 4) % 2 := and1 _ (by omega) (by omega)
        go_wp2
        go_roundw
        case rel => exact ⟨3, by omega, rfl, by rw [hst]; go_num, by trivial⟩
        case measure => simp [intOf]
      · simp only [Nat.reducePow, Nat.reduceAdd] at hst
        have hb1 : bits .and .u8 ((X : Int) / 8) 1 = ((X : Int) / 8) % 2 := and1 _ (by omega) (by omega)
        go_wp2
        go_roundw
        case rel => exact ⟨4, by omega, rfl, by rw [hst]; go_num, by trivial⟩
        case measure => simp [intOf]
      · simp only [Nat.reducePow, Nat.reduceAdd] at hst
        have hb1 : bits .and .u8 ((X : Int) / 16) 1 = ((X : Int) / 16) % 2 := and1 _ (by omega) (by omega)
        go_wp2
        go_roundw
        case rel => exact ⟨5, by omega, rfl, by rw [hst]; go_num, by trivial⟩
        case measure => simp [intOf]
      · simp only [Nat.reducePow, Nat.reduceAdd] at hst
        have hb1 : bits .and .u8 ((X : Int) / 32) 1 = ((X : Int) / 32) % 2 := and1 _ (by omega) (by omega)
        go_wp2
        go_roundw
        case rel => exact ⟨6, by omega, rfl, by rw [hst]; go_num, by trivial⟩
        case measure => simp [intOf]
      · simp only [Nat.reducePow, Nat.reduceAdd] at hst
        have hb1 : bits .and .u8 ((X : Int) / 64) 1 = ((X : Int) / 64) % 2 := and1 _ (by omega) (by omega)
        go_wp2
        go_roundw
        case rel => exact ⟨7, by omega, rfl, by rw [hst]; go_num, by trivial⟩
        case measure => simp [intOf]
      · simp only [Nat.reducePow, Nat.reduceAdd] at hst
        have hb1 : bits .and .u8 ((X : Int) / 128) 1 = ((X : Int) / 128) % 2 := and1 _ (by omega) (by omega)
        go_wp2
        go_roundw
        case rel => exact ⟨8, by omega, rfl, by rw [hst]; go_num, by trivial⟩
        case measure => simp [intOf]
    · obtain rfl : j = 8 := by omega
      go_wp2
      go_ret
      exact ⟨rfl, rfl⟩

theorem chunksR (b : Int) (hb : -9223372036854775808 ≤ b ∧ b ≤ 9223372036854775807) (w : World) : Calls Tryd.prog 17 #[.int .i64 b] w fun e w' => e = .returned (.int .i64 (chunks b)) ∧ w' = w := by
  by_cases h : b < 1
  · have HD : Hid (chunks b = 1) := Lib.hid (by unfold chunks; rw [if_pos h])
    rw [HD.out]
    go_enter Tryd.func17, Tryd.ntmps17
    go_wp2
    go_ret
    exact ⟨rfl, rfl⟩
  · by_cases h2 : b % 64 = 0
    · have HD : Hid (chunks b = b / 64) := Lib.hid (by unfold chunks; rw [if_neg h]; omega)
      have e1 : (b % 64 == 0) = true := by simp; omega
      have e2 : (b % 64 != 0) = false := by rw [bne, e1]; rfl
      rw [HD.out]
      go_enter Tryd.func17, Tryd.ntmps17
      go_wp2
      go_ret
      exact ⟨rfl, rfl⟩
    · have HD : Hid (chunks b = b / 64 + 1) := Lib.hid (by unfold chunks; rw [if_neg h]; omega)
      have e1 : (b % 64 == 0) = false := by simp; omega
      have e2 : (b % 64 != 0) = true := by rw [bne, e1]; rfl
      rw [HD.out]
      go_enter Tryd.func17, Tryd.ntmps17
      go_wp2
      go_ret
      exact ⟨rfl, rfl⟩

set_option maxRecDepth 100000 in
theorem stateR (a : Option Addr) (l : List B8) (n c : Nat) (w : World) (hn : l.length = n) (hr : Rd w a l) :
    Calls Tryd.prog 13 #[.slice a n c] w fun e w' => e = .returned (.int .i64 (stateOf l : Int)) ∧ w' = w := by
  have hm := hr.1
  rw [hn] at hm
  unfold maxLen at hm
  by_cases hs : shaped l
  case neg =>
    have HD : Hid (stateOf l = 3) := Lib.hid (by unfold stateOf; rw [if_pos hs])
    rw [HD.out]
    unfold shaped at hs
    rw [hn] at hs
    clear HD hr
    by_cases h1 : n % 73 = 0
    · have e1 : ((n : Int) % 73 == 0) = true := by simp; omega
      have e2 : ((n : Int) % 73 != 0) = false := by rw [bne, e1]; rfl
      by_cases h2 : n = 0
      · subst h2
        go_enter Tryd.func13, Tryd.ntmps13
        go_wp2
        go_ret
        exact ⟨rfl, rfl⟩
      · have d2 : ((n : Int) == 0) = false := by simp; omega
        have d3 : (584 : Int) < (n : Int) := by omega
        go_enter Tryd.func13, Tryd.ntmps13
        go_wp2
        go_ret
        exact ⟨rfl, rfl⟩
    · have e1 : ((n : Int) % 73 == 0) = false := by simp; omega
      have e2 : ((n : Int) % 73 != 0) = true := by rw [bne, e1]; rfl
      go_enter Tryd.func13, Tryd.ntmps13
      go_wp2
      go_ret
      exact ⟨rfl, rfl⟩
  case pos =>
    obtain ⟨q, hq⟩ : ∃ q, q = n / 73 := ⟨_, rfl⟩
    have hs2 := hs
    unfold shaped at hs2
    rw [hn, ← hq] at hs2
    have HD : Hid (stateOf l = if marks l q = 0 then 0 else if marks l q = q then 2 else 1) := Lib.hid (by unfold stateOf; rw [if_neg (fun e => e hs), hn, ← hq])
    rw [HD.out]
    generalize hVO : (if marks l q = 0 then 0 else if marks l q = q then 2 else 1) = VO
    replace hVO := Lib.hid hVO
    have hnq : n = 73 * q := by omega
    obtain ⟨b, off, rfl, _⟩ := hr.2 0 (by omega)
    have HC : Hid (∀ j, j < q → w.cell? ⟨b, off + (73 * j + 72), none⟩ = some (.int .u8 (mk l j).toNat)) := Lib.hid fun j hj => rd_at hr (73 * j + 72) (by omega)
    have e1 : ((n : Int) % 73 == 0) = true := by simp; omega
    have e2 : ((n : Int) % 73 != 0) = false := by rw [bne, e1]; rfl
    have d1 : (n : Int) / 73 = (q : Int) := by omega
    have d2 : ((n : Int) == 0) = false := by simp; omega
    have d3 : ¬ (584 : Int) < (n : Int) := by omega
    have hml := Lib.hid (marks_le l)
    have hms : Hid (∀ j, marks l (j + 1) = marks l j + if marked (mk l j) = true then 1 else 0) := Lib.hid fun j => rfl
    have h0 : Hid (marks l 0 = 0) := Lib.hid rfl
    generalize marks l = M at *
    have hq8 : q ≤ 8 := hs2.2.2
    clear hs hq hr HD hs2 d1 hm
    replace hn := Lib.hid hn
    have hn9 : n ≤ 584 := by omega
    replace hnq := Lib.hid hnq
    go_enter Tryd.func13, Tryd.ntmps13
    go_wp2
    go_loopw [4, 3] (fun i v wr => ∃ j p : Nat, j ≤ q ∧ Hid (p = 73 * j) ∧ i = .int .i64 (p : Int) ∧ v = .int .i64 (M j : Int) ∧ wr = w) (fun i _ _ => 584 + 73 - (intOf i).toNat)
    case atStart => exact ⟨0, 0, by omega, Lib.hid rfl, rfl, by rw [h0.out]; rfl, rfl⟩
    case round =>
      obtain ⟨j, p, hj, hp, rfl, rfl, hwr⟩ := hrel
      obtain rfl := hwr.symm
      have hp9 : p ≤ 584 := by have := hnq.out; have := hp.out; omega
      by_cases hlt : j < q
      · have hlt' : (p : Int) < (n : Int) := by have := hnq.out; have := hp.out; omega
        have hc := HC.out j hlt
        rw [← hp.out] at hc
        have hM := Lib.hid (markR (mk l j))
        have hst := hms.out j
        have hmj := hml.out j
        have ix : (p : Int) + 73 - 1 = ((p + 72 : Nat) : Int) := by omega
        have ix1 : (0 : Int) ≤ ((p + 72 : Nat) : Int) := by omega
        have ix2 : ((p + 72 : Nat) : Int) < (n : Int) := by have := hnq.out; have := hp.out; omega
        have hp1 : Hid (p + 73 = 73 * (j + 1)) := Lib.hid (by have := hp.out; omega)
        generalize mk l j = x at *
        cases hk : marked x with
        | true =>
          rw [hk] at hM hst
          replace hst := Lib.hid hst
          go_wp2_with (go_at_call 15; refine (hM.out _).mono ?_; rintro e w' ⟨rfl, hw⟩; obtain rfl := hw.symm)
          go_roundw
          case rel => exact ⟨j + 1, p + 73, by omega, hp1, by go_num, by rw [hst.out]; go_num, by trivial⟩
          case measure => simp [intOf]; omega
        | false =>
          rw [hk] at hM hst
          replace hst := Lib.hid hst
          go_wp2_with (go_at_call 15; refine (hM.out _).mono ?_; rintro e w' ⟨rfl, hw⟩; obtain rfl := hw.symm)
          go_roundw
          case rel => exact ⟨j + 1, p + 73, by omega, hp1, by go_num, by rw [hst.out]; rfl, by trivial⟩
          case measure => simp [intOf]; omega
      · obtain rfl : j = q := by omega
        have hlt' : ¬ (p : Int) < (n : Int) := by have := hnq.out; have := hp.out; omega
        have hdv : (n : Int) / 73 = (j : Int) := by have := hnq.out; omega
        by_cases z0 : M j = 0
        · have z0' : (M j : Int) = 0 := by omega
          have e0 : VO = 0 := by rw [← hVO.out, if_pos z0]
          subst e0
          go_wp2
          go_ret
          exact ⟨rfl, rfl⟩
        · have z0' : ((M j : Int) == 0) = false := by simp; omega
          by_cases z1 : M j = j
          · have z1' : ((M j : Int) == (j : Int)) = true := by simp; omega
            have e0 : VO = 2 := by rw [← hVO.out, if_neg z0, if_pos z1]
            subst e0
            go_wp2
            go_ret
            exact ⟨rfl, rfl⟩
          · have z1' : ((M j : Int) == (j : Int)) = false := by simp; omega
            have e0 : VO = 1 := by rw [← hVO.out, if_neg z0, if_neg z1]
            subst e0
            go_wp2
            go_ret
            exact ⟨rfl, rfl⟩
end Go.Proofs.YtjnpfnpeekpleaaDoor.PgS
