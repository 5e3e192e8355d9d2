/- Groups: what is done to them. -/
import Derived.Test.YtleflegbdnmgeaaGdA
namespace Go.Proofs.Ytleflegbdnmgeaa.GdB
open Go.ChangeShapes Go.WideShapes Go.ChangeAt Go.RowKit
open GdT GdA
set_option linter.unusedVariables false
set_option maxHeartbeats 1000000

def setE (n : Nat) (k kind : Int) : Int := if inN n k = false then 20 else if kind < 1 ∨ 3 < kind then 1 else 0
def setL (n : Nat) (L : List B8) (k kind : Int) : List B8 := if setE n k kind = 0 then L.set k.toNat (if (L.getD k.toNat 0).toNat < kind.toNat then BitVec.ofNat 8 kind.toNat else L.getD k.toNat 0) else L

theorem setOut (g q n : Nat) (L : List B8) (k kind : Int) (w : World) (h : Gd w g q n L) (hk : inN n k = false) :
    Calls Try.prog 10 #[.pointer (some ⟨g, 0, none⟩), .int .i64 k, .int .i64 kind] w fun e w' => e = .returned (.int .i64 20) ∧ w' = w := by
  have HH := Lib.hid (hasW g q n L k w h)
  rw [hk] at HH
  clear h hk
  go_enter Try.func10, Try.ntmps10
  go_wp2_with fail
  refine HH.out.mono ?_
  rintro e' w5 ⟨rfl, h5⟩
  obtain rfl := h5.symm
  go_wp2
  go_ret
  exact ⟨rfl, rfl⟩
theorem setArg (g q n : Nat) (L : List B8) (k kind : Int) (w : World) (h : Gd w g q n L) (hk : inN n k = true) (h2 : kind < 1 ∨ 3 < kind) :
    Calls Try.prog 10 #[.pointer (some ⟨g, 0, none⟩), .int .i64 k, .int .i64 kind] w fun e w' => e = .returned (.int .i64 1) ∧ w' = w := by
  have HH := Lib.hid (hasW g q n L k w h)
  rw [hk] at HH
  clear h hk
  rcases h2 with h2 | h2
  all_goals
    go_enter Try.func10, Try.ntmps10
    go_wp2_with fail
    refine HH.out.mono ?_
    rintro e' w5 ⟨rfl, h5⟩
    obtain rfl := h5.symm
    go_wp2
    go_ret
    exact ⟨rfl, rfl⟩

set_option maxRecDepth 100000 in
theorem setGood (g q n : Nat) (L : List B8) (K m : Nat) (w : World) (h : Gd w g q n L) (hK : K < n) (h1 : 1 ≤ m) (h3 : m ≤ 3) :
    Calls Try.prog 10 #[.pointer (some ⟨g, 0, none⟩), .int .i64 K, .int .i64 m] w fun e w' => e = .returned (.int .i64 0) ∧ Gd w' g q n (L.set K (if (L.getD K 0).toNat < m then BitVec.ofNat 8 m else L.getD K 0)) ∧ w.grownBy w' (some q) := by
  have HH := Lib.hid (hasW g q n L K w h)
  rw [inN_nat hK] at HH
  have DD : Hid (Gd w.drew g q n L) := Lib.hid (h.below (Below.refl _ _).drew)
  have GG : Hid (w.grownBy w.drew (some q)) := Lib.hid (below_grown (Below.refl _ _).drew _)
  have c := DD.out.head
  have ck := DD.out.cell K hK
  have zk := DD.out.frozen K
  have hKi : (K : Int) < (n : Int) := by omega
  have hm1 : (1 : Int) ≤ (m : Int) := by omega
  have hm3 : (m : Int) ≤ 3 := by omega
  have hmm : (BitVec.ofNat 8 m).toNat = m := by rw [BitVec.toNat_ofNat]; omega
  obtain ⟨y, hy⟩ : ∃ y, y = L.getD K 0 := ⟨_, rfl⟩
  rw [← hy] at ck ⊢
  have hy8 := y.isLt
  have HP := Lib.hid (fun z => DD.out.put K z)
  clear h hy DD
  by_cases hlt : y.toNat < m
  · rw [if_pos hlt]
    have hmax : max (y.toNat : Int) (m : Int) = (m : Int) := by omega
    have hlt' : (y.toNat : Int) < (m : Int) := by omega
    go_enter Try.func10, Try.ntmps10
    go_wp2_with fail
    refine HH.out.mono ?_
    rintro e' w5 ⟨rfl, h5⟩
    obtain rfl := h5.symm
    go_wp2_with fail
    refine wp_region_still_tail 16 (by kernel_rfl) (by kernel_rfl) ?_
    simp only [List.take_succ_cons, List.take_zero, List.drop_succ_cons, List.drop_zero]
    change wpStill _ _ (World.drew w) (fun a' => wpList _ _ _ _ a' (World.drew w)) _ _
    generalize World.drew w = wd at *
    repeat still_step

    try refine wpStill_nil ?_
    change wpList _ _ _ _ _ wd
    have HX := HP.out (BitVec.ofNat 8 m)
    rw [hmm] at HX
    replace HX := Lib.hid HX
    go_wp2
    all_goals go_ret
    all_goals first
      | exact ⟨rfl, HX.out, GG.out.trans (grown_set _ _ _ _)⟩
      | (exfalso; omega)
  · rw [if_neg hlt]
    have hmax : max (y.toNat : Int) (m : Int) = (y.toNat : Int) := by omega
    have hlt' : ¬ ((y.toNat : Int) < (m : Int)) := by omega
    go_enter Try.func10, Try.ntmps10
    go_wp2_with fail
    refine HH.out.mono ?_
    rintro e' w5 ⟨rfl, h5⟩
    obtain rfl := h5.symm
    go_wp2_with fail
    refine wp_region_still_tail 16 (by kernel_rfl) (by kernel_rfl) ?_
    simp only [List.take_succ_cons, List.take_zero, List.drop_succ_cons, List.drop_zero]
    change wpStill _ _ (World.drew w) (fun a' => wpList _ _ _ _ a' (World.drew w)) _ _
    generalize World.drew w = wd at *
    repeat still_step

    try refine wpStill_nil ?_
    change wpList _ _ _ _ _ wd
    go_wp2
    all_goals go_ret
    all_goals first
      | exact ⟨rfl, HP.out y, GG.out.trans (grown_set _ _ _ _)⟩
      | (exfalso; omega)

theorem setW (g q n : Nat) (L : List B8) (k kind : Int) (w : World) (h : Gd w g q n L) :
    Calls Try.prog 10 #[.pointer (some ⟨g, 0, none⟩), .int .i64 k, .int .i64 kind] w fun e w' => e = .returned (.int .i64 (setE n k kind)) ∧ Gd w' g q n (setL n L k kind) ∧ w.grownBy w' (some q) := by
  unfold setL setE
  have hr : w.grownBy w (some q) := ⟨rfl, rfl, rfl, Nat.le_refl _, fun _ _ _ => rfl⟩
  cases hk : inN n k with
  | false =>
    simp only [if_true]
    refine (setOut g q n L k kind w h hk).mono ?_
    rintro e w' ⟨rfl, rfl⟩
    exact ⟨rfl, by simpa using h, hr⟩
  | true =>
    by_cases h2 : kind < 1 ∨ 3 < kind
    · refine (setArg g q n L k kind w h hk h2).mono ?_
      rintro e w' ⟨rfl, rfl⟩
      exact ⟨by simp [h2], by simpa [h2] using h, hr⟩
    · have hk' : 0 ≤ k ∧ k < (n : Int) := by unfold inN at hk; simpa using hk
      obtain ⟨K, rfl⟩ := Int.eq_ofNat_of_zero_le hk'.1
      obtain ⟨m, rfl⟩ := Int.eq_ofNat_of_zero_le (by omega : 0 ≤ kind)
      refine (setGood g q n L K m w h (by omega) (by omega) (by omega)).mono ?_
      rintro e w' ⟨rfl, h4, h5⟩
      exact ⟨by simp [h2], by simpa [h2] using h4, h5⟩

def clrE (n : Nat) (L : List B8) (k : Int) : Int := if inN n k = false then 20 else if 1 < (L.getD k.toNat 0).toNat then 21 else 0
def clrL (n : Nat) (L : List B8) (k : Int) : List B8 := if clrE n L k = 0 then L.set k.toNat 0 else L
theorem clearW (g q n : Nat) (L : List B8) (k : Int) (w : World) (h : Gd w g q n L) :
    Calls Try.prog 12 #[.pointer (some ⟨g, 0, none⟩), .int .i64 k] w fun e w' => e = .returned (.int .i64 (clrE n L k)) ∧ Gd w' g q n (clrL n L k) ∧ w.grownBy w' (some q) := by
  have HH := Lib.hid (hasW g q n L k w h)
  have hr : Hid (w.grownBy w (some q)) := Lib.hid ⟨rfl, rfl, rfl, Nat.le_refl _, fun _ _ _ => rfl⟩
  have Hg := Lib.hid h
  unfold clrL clrE
  cases hk : inN n k with
  | false =>
    rw [hk] at HH
    clear h
    go_enter Try.func12, Try.ntmps12
    go_wp2_with fail
    refine HH.out.mono ?_
    rintro e' w5 ⟨rfl, h5⟩
    obtain rfl := h5.symm
    go_wp2
    go_ret
    exact ⟨rfl, by simpa using Hg.out, hr.out⟩
  | true =>
    rw [hk] at HH
    have hk' : 0 ≤ k ∧ k < (n : Int) := by unfold inN at hk; simpa using hk
    obtain ⟨K, rfl⟩ := Int.eq_ofNat_of_zero_le hk'.1
    have hK : K < n := by omega
    have hKi : (K : Int) < (n : Int) := by omega
    have c := h.head
    have ck := h.cell K hK
    have zk := h.frozen K
    rw [Int.toNat_natCast]
    obtain ⟨y, hy⟩ : ∃ y, y = L.getD K 0 := ⟨_, rfl⟩
    rw [← hy] at ck ⊢
    have hy8 := y.isLt
    have HP := Lib.hid (h.put K 0)
    clear h hy hk hk'
    by_cases h2 : 1 < y.toNat
    · have h2' : (1 : Int) < (y.toNat : Int) := by omega
      have h2b : ((1 : Int) < (y.toNat : Int)) = True := by simp [h2']
      go_enter Try.func12, Try.ntmps12
      go_wp2_with fail
      refine HH.out.mono ?_
      rintro e' w5 ⟨rfl, h5⟩
      obtain rfl := h5.symm
      go_wp2
      go_ret
      exact ⟨by simp [h2], by simpa [h2] using Hg.out, hr.out⟩
    · have h2' : ¬ ((1 : Int) < (y.toNat : Int)) := by omega
      go_enter Try.func12, Try.ntmps12
      go_wp2_with fail
      refine HH.out.mono ?_
      rintro e' w5 ⟨rfl, h5⟩
      obtain rfl := h5.symm
      go_wp2
      go_ret
      exact ⟨by simp [h2], by simpa [h2] using HP.out, grown_set _ _ _ _⟩
end Go.Proofs.Ytleflegbdnmgeaa.GdB
