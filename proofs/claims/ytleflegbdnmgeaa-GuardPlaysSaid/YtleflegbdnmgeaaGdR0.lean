/- The law on kinds that rise: its walk. -/
import Derived.Test.YtleflegbdnmgeaaGdG
import Derived.Laws.BitsLemmas
namespace Go.Proofs.Ytleflegbdnmgeaa.GdR0
open Go.ChangeShapes Go.WideShapes Go.ChangeAt Go.RowKit
open GdT GdA GdB GdC GdD GdE GdK GdO
set_option linter.unusedVariables false
set_option maxHeartbeats 1000000

theorem early (n k : Int) (a : Option Addr) (m c : Nat) (w : World) (h : 300 < m ∨ n < 1 ∨ 256 < n) : Calls Try.prog 6 #[.int .i64 n, .slice a m c, .int .i64 k] w fun e w' => e = .returned (.bool true) ∧ Below w.heap.size w w' := by
  by_cases h1 : 300 < m
  · have h1' : (300 : Int) < (m : Int) := by omega
    go_enter Try.func6, Try.ntmps6
    go_wp2_with fail
    refine (known _).mono ?_
    rintro e' w1 ⟨rfl, B1⟩
    go_wp2
    go_ret
    exact ⟨rfl, B1⟩
  have h1' : ¬ (300 : Int) < (m : Int) := by omega
  by_cases h2 : n < 1
  · go_enter Try.func6, Try.ntmps6
    go_wp2_with fail
    refine (known _).mono ?_
    rintro e' w1 ⟨rfl, B1⟩
    go_wp2
    go_ret
    exact ⟨rfl, B1⟩
  have h3 : 256 < n := by omega
  go_enter Try.func6, Try.ntmps6
  go_wp2_with fail
  refine (known _).mono ?_
  rintro e' w1 ⟨rfl, B1⟩
  go_wp2
  go_ret
  exact ⟨rfl, B1⟩

/-! ### The bits -/
theorem wrap_small {z : Int} (h : -9223372036854775808 ≤ z ∧ z ≤ 9223372036854775807) : IntKind.i64.wrap z = z := by rw [IntKind.wrap_i64]; omega
theorem bit0_step (F : Nat) (hF : F ≤ 256) (v : Nat) (k y : Nat) (hk : k < 256) : (bitStep (F : Int) v (k, y)) % 2 = if k = F then 1 else v % 2 := by
  unfold bitStep
  simp only
  rw [wrap_small (by omega)]
  by_cases e : k = F
  · subst e
    rw [if_pos (by omega), if_pos rfl]
    have : ((k : Int) - (k : Int)).toNat = 0 := by omega
    rw [this]
    have h2 : (v ||| 2 ^ 0) % 2 = ((v ||| 1) &&& 1) := (Nat.and_one_is_mod _).symm
    rw [h2, Nat.and_or_distrib_right]
    have h3 : v &&& 1 = v % 2 := Nat.and_one_is_mod v
    rw [h3]
    rcases Nat.mod_two_eq_zero_or_one v with h | h <;> rw [h] <;> rfl
  · rw [if_neg e]
    split
    · rename_i hh
      have hd : ((k : Int) - (F : Int)).toNat = (((k : Int) - (F : Int)).toNat - 1) + 1 := by omega
      rw [hd, Nat.pow_succ]
      generalize ((k : Int) - (F : Int)).toNat - 1 = d
      have h2 : (v ||| 2 ^ d * 2) % 2 = ((v ||| 2 ^ d * 2) &&& 1) := (Nat.and_one_is_mod _).symm
      rw [h2, Nat.and_or_distrib_right, Nat.and_one_is_mod, Nat.and_one_is_mod]
      have : 2 ^ d * 2 % 2 = 0 := by omega
      rw [this]
      simp
    · rfl
theorem bit0_prs (F : Nat) (hF : F ≤ 256) (L : List B8) : ∀ k, k ≤ 256 → bitsF (F : Int) (prs L k) % 2 = if F < k ∧ L.getD F 0 ≠ 0 then 1 else 0
  | 0, _ => by simp [prs, bitsF]
  | k + 1, h => by
    have ih := bit0_prs F hF L k (by omega)
    by_cases hz : L.getD k 0 = 0
    · rw [prs_zero L k hz, ih]
      by_cases e : F = k
      · subst e
        rw [if_neg (by omega), if_neg (by intro h; exact h.2 hz)]
      · congr 1
        rw [eq_iff_iff]
        constructor
        · rintro ⟨a, b⟩; exact ⟨by omega, b⟩
        · rintro ⟨a, b⟩; exact ⟨by omega, b⟩
    · rw [prs_one L k hz, bitsF_snoc, bit0_step F hF _ k _ (by omega), ih]
      by_cases e : k = F
      · subst e
        rw [if_pos rfl, if_pos ⟨by omega, hz⟩]
      · rw [if_neg e]
        congr 1
        rw [eq_iff_iff]
        constructor
        · rintro ⟨a, b⟩; exact ⟨by omega, b⟩
        · rintro ⟨a, b⟩; exact ⟨by omega, b⟩
theorem bit0 (n : Nat) (hn : n ≤ 256) (L : List B8) (k : Int) : bitsP n L k % 2 = if inN n k = true ∧ mayP n L k = false then 1 else 0 := by
  unfold bitsP mayP
  cases hk : inN n k with
  | false => simp
  | true =>
    have hk' : 0 ≤ k ∧ k < (n : Int) := by unfold inN at hk; simpa using hk
    obtain ⟨F, rfl⟩ := Int.eq_ofNat_of_zero_le hk'.1
    rw [if_pos rfl, bit0_prs F (by omega) L n hn, Int.toNat_natCast]
    congr 1
    rw [eq_iff_iff]
    constructor
    · rintro ⟨a, b⟩; exact ⟨rfl, by simpa using b⟩
    · rintro ⟨a, b⟩; exact ⟨by omega, by simpa using b⟩
theorem and1 (v : Nat) (h : v < 2 ^ 32) : bits .and .u32 (v : Int) 1 = ((v % 2 : Nat) : Int) := by
  rw [show (1 : Int) = ((1 : Nat) : Int) from rfl, u32_and_nat _ _ h (by decide), Nat.and_one_is_mod]
theorem and1' (v : Nat) (h : v < 2 ^ 32) : bits .and .u32 (v : Int) 1 = (v : Int) % 2 := by
  rw [and1 v h]
  omega
theorem bitsP_lt (n : Nat) (L : List B8) (k : Int) : bitsP n L k < 2 ^ 32 := by
  unfold bitsP
  split
  · exact bitsF_lt _ _
  · decide

/-! ### The kinds -/
theorem set_kind (n : Nat) (L : List B8) (x kd : Int) (hL : L.length = n) (h : setE n x kd = 0) : kindP n L x ≤ kindP n (setL n L x kd) x ∧ kd ≤ kindP n (setL n L x kd) x := by
  have hx : inN n x = true ∧ ¬ (kd < 1 ∨ 3 < kd) := by
    unfold setE at h
    revert h
    split
    · intro h; cases h
    · split
      · intro h; cases h
      · rename_i h1 h2
        intro _
        exact ⟨by simpa using h1, h2⟩
  unfold setL kindP
  rw [h, if_pos rfl, if_pos hx.1, if_pos hx.1]
  have hx' : 0 ≤ x ∧ x < (n : Int) := by have := hx.1; unfold inN at this; simpa using this
  rw [List.getD_eq_getElem?_getD (l := L.set _ _), List.getElem?_set, if_pos rfl, if_pos (by omega)]
  have hk := hx.2
  have hy := (L.getD x.toNat 0).isLt
  generalize L.getD x.toNat 0 = y at *
  simp only [Option.getD_some]
  split
  · rw [BitVec.toNat_ofNat]
    omega
  · omega
theorem clr_kind (n : Nat) (L : List B8) (x : Int) (hL : L.length = n) : (clrE n L x = 0 → kindP n (clrL n L x) x = 0) ∧ (clrE n L x ≠ 0 → kindP n (clrL n L x) x = kindP n L x) := by
  constructor
  · intro h
    unfold clrL kindP
    rw [if_pos h]
    split
    · rename_i hx
      have hx' : 0 ≤ x ∧ x < (n : Int) := by unfold inN at hx; simpa using hx
      rw [List.getD_eq_getElem?_getD, List.getElem?_set, if_pos rfl, if_pos (by omega)]
      rfl
    · rfl
  · intro h
    unfold clrL
    rw [if_neg h]
theorem lst_kind (n : Nat) (L : List B8) (x : Int) : kindP n (L.map lst) x ≠ 2 := by
  unfold kindP
  split
  · rw [List.getD_eq_getElem?_getD, List.getElem?_map]
    cases hl : L[x.toNat]? with
    | none => simp
    | some y =>
      simp only [Option.map_some, Option.getD_some]
      unfold lst
      split
      · decide
      · rename_i h
        intro e
        exact h (BitVec.eq_of_toNat_eq (by
          have : (2 : B8).toNat = 2 := rfl
          omega))
  · decide
end Go.Proofs.Ytleflegbdnmgeaa.GdR0
