/- Contracts of pages: marks, states, cuts. -/
import Derived.Test.YtjnpfnpeekpleaaDoorPgM
import Derived.Test.YtjnpfnpeekpleaaDoorEcWR
namespace Go.Proofs.YtjnpfnpeekpleaaDoor.PgA
open Go.ChangeShapes Go.WideShapes Go.ChangeAt Go.RowKit
open EcM EcA EcB EcC EcT EcX EcY EcZ EcWM EcWP EcWR EcFM PgM
set_option linter.unusedVariables false
set_option maxHeartbeats 1000000

theorem markW (x : B8) (w : World) : Calls Tryd.prog 14 #[.int .u8 (x.toNat : Int)] w fun e w' => e = .returned (.bool (marked x)) ∧ w' = w := by
  have H := Lib.hid (ones8 x.toNat (by have := x.isLt; omega) w)
  have HD : Hid (marked x = decide ((pc x.toNat : Int) ≤ 4)) := Lib.hid (by unfold marked; exact decide_eq_decide.2 (by omega))
  rw [HD.out]
  go_enter Tryd.func14, Tryd.ntmps14
  go_wp2_with fail
  refine H.out.mono ?_
  rintro e w' ⟨rfl, hw⟩
  obtain rfl := hw.symm
  go_wp2
  go_ret
  exact ⟨rfl, rfl⟩

def chunks (b : Int) : Int := if b < 1 then 1 else (b - 1) / 64 + 1
theorem chunksW (b : Int) (hb : -9223372036854775808 ≤ b ∧ b ≤ 9223372036854775807) (w : World) : Calls Tryd.prog 16 #[.int .i64 b] w fun e w' => e = .returned (.int .i64 (chunks b)) ∧ w' = w := by
  by_cases h : b < 1
  · have HD : Hid (chunks b = 1) := Lib.hid (by unfold chunks; rw [if_pos h])
    rw [HD.out]
    go_enter Tryd.func16, Tryd.ntmps16
    go_wp2
    go_ret
    exact ⟨rfl, rfl⟩
  · have HD : Hid (chunks b = (b - 1) / 64 + 1) := Lib.hid (by unfold chunks; rw [if_neg h])
    rw [HD.out]
    go_enter Tryd.func16, Tryd.ntmps16
    go_wp2
    go_ret
    exact ⟨rfl, rfl⟩

theorem rd_at {w : World} {b off : Nat} {l : List B8} (h : Rd w (some ⟨b, off, none⟩) l) (i : Nat) (hi : i < l.length) : w.cell? ⟨b, off + i, none⟩ = some (.int .u8 (l.getD i 0).toNat) := by
  obtain ⟨b', o', e, hc⟩ := h.2 i hi
  injection e with e
  injection e with e1 e2
  subst e1 e2
  exact hc

set_option maxRecDepth 100000 in
theorem stateW (a : Option Addr) (l : List B8) (n c : Nat) (w : World) (hn : l.length = n) (hr : Rd w a l) :
    Calls Tryd.prog 12 #[.slice a n c] w fun e w' => e = .returned (.int .i64 (stateOf l : Int)) ∧ w' = w := by
  have hm := hr.1
  rw [hn] at hm
  unfold maxLen at hm
  by_cases hs : shaped l
  case neg =>
    have HD : Hid (stateOf l = 3) := Lib.hid (by unfold stateOf; rw [if_pos hs])
    rw [HD.out]
    unfold shaped at hs
    rw [hn] at hs
    clear HD hr
    by_cases h1 : n % 73 = 0
    · have e1 : ((n : Int) % 73 == 0) = true := by simp; omega
      have e2 : ((n : Int) % 73 != 0) = false := by rw [bne, e1]; rfl
      by_cases h2 : n / 73 < 1
      · have d2 : (n : Int) / 73 < 1 := by omega
        go_enter Tryd.func12, Tryd.ntmps12
        go_wp2
        go_ret
        exact ⟨rfl, rfl⟩
      · have d2 : ¬ (n : Int) / 73 < 1 := by omega
        have d3 : (8 : Int) < (n : Int) / 73 := by omega
        go_enter Tryd.func12, Tryd.ntmps12
        go_wp2
        go_ret
        exact ⟨rfl, rfl⟩
    · have e1 : ((n : Int) % 73 == 0) = false := by simp; omega
      have e2 : ((n : Int) % 73 != 0) = true := by rw [bne, e1]; rfl
      go_enter Tryd.func12, Tryd.ntmps12
      go_wp2
      go_ret
      exact ⟨rfl, rfl⟩
  case pos =>
    obtain ⟨q, hq⟩ : ∃ q, q = n / 73 := ⟨_, rfl⟩
    have hs2 := hs
    unfold shaped at hs2
    rw [hn, ← hq] at hs2
    have HD : Hid (stateOf l = if marks l q = 0 then 0 else if marks l q = q then 2 else 1) := Lib.hid (by unfold stateOf; rw [if_neg (fun e => e hs), hn, ← hq])
    rw [HD.out]
    generalize hVO : (if marks l q = 0 then 0 else if marks l q = q then 2 else 1) = VO
    replace hVO := Lib.hid hVO
    have hnq : n = 73 * q := by omega
    obtain ⟨b, off, rfl, _⟩ := hr.2 0 (by omega)
    have HC : Hid (∀ j, j < q → w.cell? ⟨b, off + (73 * j + 72), none⟩ = some (.int .u8 (mk l j).toNat)) := Lib.hid fun j hj => rd_at hr (73 * j + 72) (by omega)
    have e1 : ((n : Int) % 73 == 0) = true := by simp; omega
    have e2 : ((n : Int) % 73 != 0) = false := by rw [bne, e1]; rfl
    have d1 : (n : Int) / 73 = (q : Int) := by omega
    have d2 : ¬ (q : Int) < 1 := by omega
    have d3 : ¬ (8 : Int) < (q : Int) := by omega
    have hml := Lib.hid (marks_le l)
    have hms : Hid (∀ j, marks l (j + 1) = marks l j + if marked (mk l j) = true then 1 else 0) := Lib.hid fun j => rfl
    have h0 : Hid (marks l 0 = 0) := Lib.hid rfl
    generalize marks l = M at *
    clear hs hq hr HD
    replace hn := Lib.hid hn
    go_enter Tryd.func12, Tryd.ntmps12
    go_wp2
    go_loopw [22, 4] (fun i v wr => ∃ j : Nat, j ≤ q ∧ i = .int .i64 (j : Int) ∧ v = .int .i64 (M j : Int) ∧ wr = w) (fun i _ _ => q - (intOf i).toNat)
    case atStart => exact ⟨0, by omega, rfl, by rw [h0.out]; rfl, rfl⟩
    case round =>
      obtain ⟨j, hj, rfl, rfl, hwr⟩ := hrel
      obtain rfl := hwr.symm
      by_cases hlt : j < q
      · have hlt' : (j : Int) < (q : Int) := by omega
        have hc := HC.out j hlt
        have hM := Lib.hid (markW (mk l j))
        have hst := hms.out j
        have hmj := hml.out j
        have ix : ((j : Int) + 1) * 73 - 1 = ((73 * j + 72 : Nat) : Int) := by omega
        have ix1 : (0 : Int) ≤ ((73 * j + 72 : Nat) : Int) := by omega
        have ix2 : ((73 * j + 72 : Nat) : Int) < (n : Int) := by omega
        generalize mk l j = x at *
        cases hk : marked x with
        | true =>
          rw [hk] at hM hst
          replace hst := Lib.hid hst
          go_wp2_with (go_at_call 14; refine (hM.out _).mono ?_; rintro e w' ⟨rfl, hw⟩; obtain rfl := hw.symm)
          go_roundw
          case rel => exact ⟨j + 1, by omega, by go_num, by rw [hst.out]; go_num, by trivial⟩
          case measure => simp [intOf]; omega
        | false =>
          rw [hk] at hM hst
          replace hst := Lib.hid hst
          go_wp2_with (go_at_call 14; refine (hM.out _).mono ?_; rintro e w' ⟨rfl, hw⟩; obtain rfl := hw.symm)
          go_roundw
          case rel => exact ⟨j + 1, by omega, by go_num, by rw [hst.out]; rfl, by trivial⟩
          case measure => simp [intOf]; omega
      · obtain rfl : j = q := by omega
        by_cases z0 : M j = 0
        · have z0' : (M j : Int) = 0 := by omega
          have e0 : VO = 0 := by rw [← hVO.out, if_pos z0]
          subst e0
          go_wp2
          go_ret
          exact ⟨rfl, rfl⟩
        · have z0' : ((M j : Int) == 0) = false := by simp; omega
          by_cases z1 : M j = j
          · have z1' : ((M j : Int) == (j : Int)) = true := by simp; omega
            have e0 : VO = 2 := by rw [← hVO.out, if_neg z0, if_pos z1]
            subst e0
            go_wp2
            go_ret
            exact ⟨rfl, rfl⟩
          · have z1' : ((M j : Int) == (j : Int)) = false := by simp; omega
            have e0 : VO = 1 := by rw [← hVO.out, if_neg z0, if_neg z1]
            subst e0
            go_wp2
            go_ret
            exact ⟨rfl, rfl⟩

set_option maxRecDepth 100000 in
theorem cutW (b off n c i : Nat) (w : World) (hi : 73 * i + 73 ≤ n) (hc : n ≤ c) (h1 : n ≤ 1000000) (hcm : c ≤ maxLen) :
    Calls Tryd.prog 20 #[.slice (some ⟨b, off, none⟩) n c, .int .i64 (i : Int)] w fun e w' => e = .returned (.tuple #[.slice (some ⟨b, off + 73 * i, none⟩) 64 64, .slice (some ⟨b, off + (73 * i + 64), none⟩) 8 8]) ∧ w' = w.drew := by
  unfold maxLen at hcm
  have i1 : (i : Int) * 73 = ((73 * i : Nat) : Int) := by omega
  have i2 : ((i : Int) + 1) * 73 = ((73 * i + 73 : Nat) : Int) := by omega
  have i3 : (0 : Int) ≤ ((73 * i : Nat) : Int) := by omega
  have i4 : ((73 * i : Nat) : Int) ≤ ((73 * i + 73 : Nat) : Int) := by omega
  have i5 : ((73 * i + 73 : Nat) : Int) ≤ (c : Int) := by omega
  have i6 : 73 * i + 73 - 73 * i = 73 := by omega
  go_enter Tryd.func20, Tryd.ntmps20
  go_wp2_with fail
  refine wp_region_held_drew (S := fun _ => True) (by kernel_rfl) trivial (fun hS => ?_)
  try simp only [List.size_toArray, List.length_cons, List.length_nil, Nat.reduceAdd]
  refine wpAnyH_take (i := 0) (v := ?_) (by simp only [List.getElem?_toArray, List.getElem?_cons_succ, List.getElem?_cons_zero]; rfl) (by kernel_rfl) (by kernel_rfl) (by kernel_rfl) (by exact fun _ _ _ h => h) (Or.inl ⟨by rfl, ?_⟩) hS ?_
  rotate_left
  · intro w hSw
    go_simp
    try with_reducible rfl
  try simp only [Act.put, List.setIfInBounds_toArray, List.set_cons_zero, List.set_cons_succ]
  refine wpAnyH_take (i := 1) (v := ?_) (by simp only [List.getElem?_toArray, List.getElem?_cons_succ, List.getElem?_cons_zero]; rfl) (by kernel_rfl) (by kernel_rfl) (by kernel_rfl) (by exact fun _ _ _ h => h) (Or.inl ⟨by rfl, ?_⟩) hS ?_
  rotate_left
  · intro w hSw
    go_simp
    try with_reducible rfl
  try simp only [Act.put, List.setIfInBounds_toArray, List.set_cons_zero, List.set_cons_succ]
  refine wpAnyH_take (i := 2) (v := ?_) (by simp only [List.getElem?_toArray, List.getElem?_cons_succ, List.getElem?_cons_zero]; rfl) (by kernel_rfl) (by kernel_rfl) (by kernel_rfl) (by exact fun _ _ _ h => h) (Or.inl ⟨by rfl, ?_⟩) hS ?_
  rotate_left
  · intro w hSw
    go_simp
    try with_reducible rfl
  try simp only [Act.put, List.setIfInBounds_toArray, List.set_cons_zero, List.set_cons_succ]
  refine wpAnyH_take (i := 3) (v := ?_) (by simp only [List.getElem?_toArray, List.getElem?_cons_succ, List.getElem?_cons_zero]; rfl) (by kernel_rfl) (by kernel_rfl) (by kernel_rfl) (by exact fun _ _ _ h => h) (Or.inl ⟨by rfl, ?_⟩) hS ?_
  rotate_left
  · intro w hSw
    go_simp
    try with_reducible rfl
  try simp only [Act.put, List.setIfInBounds_toArray, List.set_cons_zero, List.set_cons_succ]
  refine wpAnyH_take (i := 4) (v := ?_) (by simp only [List.getElem?_toArray, List.getElem?_cons_succ, List.getElem?_cons_zero]; rfl) (by kernel_rfl) (by kernel_rfl) (by kernel_rfl) (by exact fun _ _ _ h => h) (Or.inl ⟨by rfl, ?_⟩) hS ?_
  rotate_left
  · intro w hSw
    go_simp
    try with_reducible rfl
  try simp only [Act.put, List.setIfInBounds_toArray, List.set_cons_zero, List.set_cons_succ]
  refine wpAnyH_take (i := 5) (v := ?_) (by simp only [List.getElem?_toArray, List.getElem?_cons_succ, List.getElem?_cons_zero]; rfl) (by kernel_rfl) (by kernel_rfl) (by kernel_rfl) (by exact fun _ _ _ h => h) (Or.inl ⟨by rfl, ?_⟩) hS ?_
  rotate_left
  · intro w hSw
    go_simp
    try with_reducible rfl
  try simp only [Act.put, List.setIfInBounds_toArray, List.set_cons_zero, List.set_cons_succ]
  refine wpAnyH_done (by kernel_rfl) ?_ _
  go_wp2
  go_ret2
  exact ⟨by simp [Nat.add_assoc], rfl⟩
end Go.Proofs.YtjnpfnpeekpleaaDoor.PgA
