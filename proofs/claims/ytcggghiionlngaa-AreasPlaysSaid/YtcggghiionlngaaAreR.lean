/- Areas: the places are tiled. -/
import Derived.Test.YtcggghiionlngaaAreQ0
namespace Go.Proofs.Ytcggghiionlngaa.AreR
open Go.ChangeShapes Go.WideShapes Go.ChangeAt Go.RowKit
open Mem GeoM GeoC GeoD GeoE GeoF AreA AreB AreC AreD AreF AreG AreH AreI AreJ AreK AreL AreN AreO AreP AreQ0
set_option linter.unusedVariables false
set_option maxHeartbeats 1000000

/-- What a table that is made is like. -/
theorem okay (c : Cfg) (s : Stt) (h : okV c s = true) : check c = true ∧ Gd c (force s) ∧ (∀ j, 0 ≤ (sz c (force s)).getD j 0) ∧ 1 ≤ (sz c (force s)).getD 0 0 := by
  unfold okV at h
  rw [Bool.and_eq_true] at h
  obtain ⟨hk, hm⟩ := h
  obtain ⟨hp, hr, hg, _⟩ := check_plain hk
  have hz : (0 ≤ (force s).z0 ∧ 0 ≤ (force s).z1 ∧ 0 ≤ (force s).z2 ∧ 0 ≤ (force s).z3) ∧ (force s).z0 + (force s).z1 + (force s).z2 + (force s).z3 < groups c := by
    have hg1 : 0 < groups c := by
      have e := Int.mul_ediv_cancel_of_emod_eq_zero (a := c.user) (b := c.group) hr
      have h1 : 1 ≤ c.user := hp.2.2.2.2.2.2.2.2.1
      have h2 : 1 ≤ c.group := hp.2.2.2.2.2.2.2.2.2.2.2.2.2.2.1
      rcases Int.lt_or_le 0 (groups c) with h | h
      · exact h
      · have := Int.mul_le_mul_of_nonneg_left h (show 0 ≤ c.group by omega)
        unfold groups at this
        rw [Int.mul_zero] at this
        omega
    unfold force
    split
    · rename_i hd
      unfold mayV at hm
      rw [hd] at hm
      simp only [Bool.not_true, Bool.false_or, Bool.or_eq_true, Bool.and_eq_true, decide_eq_true_eq] at hm
      rcases hm with ⟨⟨h0, h1, h2, h3⟩, _⟩ | hf
      · omega
      · unfold fitsV at hf
        simp only [Bool.and_eq_true, decide_eq_true_eq] at hf
        exact ⟨hf.1.1.2, hf.1.2⟩
    · exact ⟨⟨Int.le_refl _, Int.le_refl _, Int.le_refl _, Int.le_refl _⟩, hg1⟩
  generalize force s = a at hz ⊢
  obtain ⟨⟨z0, z1, z2, z3⟩, hs⟩ := hz
  unfold Plain at hp
  have hGd : Gd c a := ⟨⟨by omega, by omega⟩, ⟨by omega, by omega⟩, ⟨⟨by omega, by omega⟩, ⟨by omega, by omega⟩, ⟨by omega, by omega⟩, ⟨by omega, by omega⟩⟩, ⟨by omega, by omega⟩, ⟨by omega, by omega⟩⟩
  have hu : 1 ≤ c.user - a.z0 * c.group - a.z1 * c.group - a.z2 * c.group - a.z3 * c.group := by
    have e := Int.mul_ediv_cancel_of_emod_eq_zero (a := c.user) (b := c.group) hr
    have e' : c.user = groups c * c.group := by unfold groups; rw [Int.mul_comm]; exact e.symm
    have e2 : (groups c - a.z0 - a.z1 - a.z2 - a.z3) * c.group = c.user - a.z0 * c.group - a.z1 * c.group - a.z2 * c.group - a.z3 * c.group := by
      rw [Int.sub_mul, Int.sub_mul, Int.sub_mul, Int.sub_mul, ← e']
    rw [← e2]
    have := Int.mul_le_mul_of_nonneg_right (show 1 ≤ groups c - a.z0 - a.z1 - a.z2 - a.z3 by omega) (show 0 ≤ c.group by omega)
    rw [Int.one_mul] at this
    omega
  have m0 := Int.mul_nonneg z0 (show 0 ≤ c.group by omega)
  have m1 := Int.mul_nonneg z1 (show 0 ≤ c.group by omega)
  have m2 := Int.mul_nonneg z2 (show 0 ≤ c.group by omega)
  have m3 := Int.mul_nonneg z3 (show 0 ≤ c.group by omega)
  refine ⟨hk, hGd, fun j => ?_, hu⟩
  unfold sz
  match j with
  | 0 => simp only [List.getD_cons_zero]; omega
  | 1 => simp only [List.getD_cons_succ, List.getD_cons_zero]; omega
  | 2 => simp only [List.getD_cons_succ, List.getD_cons_zero]; omega
  | 3 => simp only [List.getD_cons_succ, List.getD_cons_zero]; omega
  | 4 => simp only [List.getD_cons_succ, List.getD_cons_zero]; exact m0
  | 5 => simp only [List.getD_cons_succ, List.getD_cons_zero]; exact m1
  | 6 => simp only [List.getD_cons_succ, List.getD_cons_zero]; exact m2
  | 7 => simp only [List.getD_cons_succ, List.getD_cons_zero]; exact m3
  | j + 8 => simp

section
variable {c : Cfg} {a : Stt} (H : ∀ j, 0 ≤ (sz c a).getD j 0)
theorem nx_succ (k : Nat) : nx c a (k + 1) = nx c a k + (sz c a).getD (ordN k) 0 := rfl
include H in
theorem nx_mono : ∀ (d k : Nat), nx c a k ≤ nx c a (k + d)
  | 0, k => Int.le_refl _
  | d + 1, k => by
    have := nx_mono d k
    have := H (ordN (k + d))
    rw [show k + (d + 1) = (k + d) + 1 from rfl, nx_succ]
    omega
theorem nx_zero : nx c a 0 = 0 := rfl
theorem nx_all : nx c a 8 = c.user + 2 * c.boot + c.rpa := by
  simp only [nx, ordN, sz, List.getD_cons_zero, List.getD_cons_succ]
  omega
theorem inv_ord (j : Nat) (h : j < 8) : inv (ordN j) = j := by
  have H : ∀ j : Fin 8, inv (ordN j.val) = j.val := by decide +kernel
  exact H ⟨j, h⟩
theorem In_iff (k : Nat) (hk : k < 8) (p : Int) : In c a k p ↔ nx c a (inv k) ≤ p ∧ p < nx c a (inv k + 1) := by
  unfold In fs
  rw [nx_succ, ord_inv k hk]
theorem find (p : Int) : ∀ m, m ≤ 8 → nx c a 0 ≤ p → p < nx c a m → ∃ j, j < m ∧ nx c a j ≤ p ∧ p < nx c a (j + 1)
  | 0, _, h1, h2 => absurd h2 (by omega)
  | m + 1, hm, h1, h2 => by
    rcases Int.lt_or_le p (nx c a m) with h | h
    · obtain ⟨j, hj, h3, h4⟩ := find p m (by omega) h1 h
      exact ⟨j, by omega, h3, h4⟩
    · exact ⟨m, by omega, h, h2⟩
theorem In_ex (p : Int) (h0 : 0 ≤ p) (h1 : p < c.user + 2 * c.boot + c.rpa) : ∃ k, k < 8 ∧ In c a k p := by
  obtain ⟨j, hj, h2, h3⟩ := find (c := c) (a := a) p 8 (by omega) h0 (by rw [nx_all]; exact h1)
  refine ⟨ordN j, ordN_lt j, (In_iff _ (ordN_lt j) p).2 ?_⟩
  rw [inv_ord j hj]
  exact ⟨h2, h3⟩
include H in
theorem In_bd (k : Nat) (hk : k < 8) (p : Int) (h : In c a k p) : 0 ≤ p ∧ p < c.user + 2 * c.boot + c.rpa := by
  obtain ⟨h1, h2⟩ := (In_iff k hk p).1 h
  have hi := inv_lt k
  have m1 := nx_mono H (inv k) 0
  have m2 := nx_mono H (8 - (inv k + 1)) (inv k + 1)
  rw [show inv k + 1 + (8 - (inv k + 1)) = 8 by omega, nx_all] at m2
  rw [Nat.zero_add, nx_zero] at m1
  omega
/-- The sum of the first areas' sizes, from area -1 on. -/
def sm (c : Cfg) (a : Stt) : Nat → Int
  | 0 => 0
  | k + 1 => sm c a k + szA c a ((k : Int) - 1)
theorem sm_all : sm c a 10 = c.user + 2 * c.boot + c.rpa := by
  have h : ∀ k : Nat, k < 8 → szA c a ((k : Int) + 1 - 1) = (sz c a).getD k 0 := fun k hk => by
    unfold szA
    rw [if_pos (by omega), show (k : Int) + 1 - 1 = (k : Int) by omega]
    rfl
  have e0 : szA c a ((0 : Nat) - 1 : Int) = 0 := if_neg (by decide)
  have e9 : szA c a ((9 : Nat) - 1 : Int) = 0 := if_neg (by decide)
  have h0 := h 0 (by omega)
  have h1 := h 1 (by omega)
  have h2 := h 2 (by omega)
  have h3 := h 3 (by omega)
  have h4 := h 4 (by omega)
  have h5 := h 5 (by omega)
  have h6 := h 6 (by omega)
  have h7 := h 7 (by omega)
  simp only [sm]
  rw [e0, e9]
  simp only [sz, List.getD_cons_zero, List.getD_cons_succ] at h0 h1 h2 h3 h4 h5 h6 h7
  simp only [Int.natCast_add, Int.cast_ofNat_Int, Int.reduceAdd, Int.reduceSub] at h0 h1 h2 h3 h4 h5 h6 h7 ⊢
  omega
end
end Go.Proofs.Ytcggghiionlngaa.AreR
