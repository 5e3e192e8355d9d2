/- Contracts of debts, payments, lives; the chapter's example. -/
import Derived.Test.YtbnjijlpbeplmaaMem
import Derived.Test.YtbnjijlpbeplmaaWearM
namespace Go.Proofs.Ytbnjijlpbeplmaa.WearK
open Go.ChangeShapes Go.WideShapes Go.ChangeAt Go.RowKit
open WearM Mem
set_option linter.unusedVariables false
set_option maxHeartbeats 400000

theorem debtW (f t : Int) (hf : I64 f) (ht : I64 t) (w : World) :
    Calls Try.prog 73 #[.int .i64 f, .int .i64 t] w fun e w' => e = .returned (.int .i64 (debt f t)) ∧ w = w' := by
  unfold I64 at hf ht
  by_cases h : t ≤ f
  · have HD : Hid (debt f t = 0) := Lib.hid (by unfold debt; rw [if_pos h])
    go_enter Try.func73, Try.ntmps73
    go_wp2
    go_ret
    exact ⟨ret_int HD.out.symm, rfl⟩
  · have h' : f < t := by omega
    have e : IntKind.u64.wrap (IntKind.u64.wrap t - IntKind.u64.wrap f) = t - f := by
      simp only [IntKind.wrap_u64]; omega
    by_cases h2 : t - f ≤ 16
    · have HD : Hid (debt f t = t - f) := Lib.hid (by unfold debt; rw [if_neg h]; omega)
      have h3 : ¬ (16 : Int) < t - f := by omega
      go_enter Try.func73, Try.ntmps73
      go_wp2
      go_ret
      exact ⟨ret_int HD.out.symm, rfl⟩
    · have HD : Hid (debt f t = 16) := Lib.hid (by unfold debt; rw [if_neg h]; omega)
      have h3 : (16 : Int) < t - f := by omega
      go_enter Try.func73, Try.ntmps73
      go_wp2
      go_ret
      exact ⟨ret_int HD.out.symm, rfl⟩
theorem payW (d : Int) (w : World) :
    Calls Try.prog 72 #[.int .i64 d] w fun e w' => e = .returned (.int .i64 (pay d)) ∧ w = w' := by
  by_cases h1 : d ≤ 4
  · have HD : Hid (pay d = 0) := Lib.hid (by unfold pay; rw [if_pos h1])
    go_enter Try.func72, Try.ntmps72
    go_wp2
    go_ret
    exact ⟨ret_int HD.out.symm, rfl⟩
  · have h1' : 4 < d := by omega
    by_cases h2 : d ≤ 8
    · have HD : Hid (pay d = 1) := Lib.hid (by unfold pay; rw [if_neg h1, if_pos h2])
      go_enter Try.func72, Try.ntmps72
      go_wp2
      go_ret
      exact ⟨ret_int HD.out.symm, rfl⟩
    · have HD : Hid (pay d = 2) := Lib.hid (by unfold pay; rw [if_neg h1, if_neg h2])
      have h2' : 8 < d := by omega
      go_enter Try.func72, Try.ntmps72
      go_wp2
      go_ret
      exact ⟨ret_int HD.out.symm, rfl⟩
/-- The first cells of a slice's row read as these numbers. -/
def Rd (w : World) (a : Option Addr) (l : List Int) : Prop :=
  l.length ≤ maxLen ∧ (∀ i, i < l.length → ∃ b off, a = some ⟨b, off, none⟩ ∧ w.cell? ⟨b, off + i, none⟩ = some (.int .i64 (l.getD i 0))) ∧ ∀ x ∈ l, I64 x

theorem clampW (x : Int) : (if (if (1073741824 : Int) < x then (1073741824 : Int) else x) > 0 then (if (1073741824 : Int) < x then (1073741824 : Int) else x) else 0) = clampI x := by
  unfold clampI; split <;> split <;> omega

theorem lifeNil (a : Option Addr) (c : Nat) (w : World) :
    Calls Try.prog 71 #[.slice a 0 c] w fun e w' => e = .returned (.int .i64 0) ∧ w = w' := by
  go_enter Try.func71, Try.ntmps71
  go_wp2
  go_ret
  exact ⟨rfl, rfl⟩

set_option maxRecDepth 100000 in
theorem lifeW (a : Option Addr) (l : List Int) (n c : Nat) (w : World) (hn : l.length = n) (hr : Rd w a l) (h1 : n ≤ 100000) :
    Calls Try.prog 71 #[.slice a n c] w fun e w' => e = .returned (.int .i64 (life l)) ∧ w = w' := by
  by_cases h0 : n = 0
  · subst h0
    have hl : l = [] := List.length_eq_zero_iff.1 hn
    subst hl
    exact lifeNil a c w
  · have HR := Lib.hid hr
    have HN := Lib.hid hn
    have hne : ((n : Int) == 0) = false := by simp; omega
    obtain ⟨b, off, ea, _⟩ := hr.2.1 0 (by omega)
    subst ea
    clear hr hn
    go_enter Try.func71, Try.ntmps71
    go_wp2
    go_loop [3, 5, 11] (fun s _ i => ∃ k : Nat, k ≤ n ∧ i = .int .i64 k ∧ s = .int .i64 (total (l.take k))) (fun _ _ i => n - (intOf i).toNat)
    case atStart => exact ⟨0, Nat.zero_le _, rfl, rfl⟩
    case round =>
      obtain ⟨k, hk, rfl, rfl⟩ := hrel
      have hlen : (l.take k).length = k := by have := HN.out; simp; omega
      have hT := total_bd (l.take k)
      rw [hlen] at hT
      obtain ⟨T, hTT⟩ : ∃ T, T = total (l.take k) := ⟨_, rfl⟩
      rw [← hTT] at hT ⊢
      have HTT := Lib.hid hTT
      clear hTT hlen
      by_cases hlt : k < n
      · obtain ⟨b', off', e, hcell⟩ := HR.out.2.1 k (by rw [HN.out]; exact hlt)
        injection e with e
        injection e with e1 e2
        subst e1 e2
        obtain ⟨x, hx⟩ : ∃ x, x = l.getD k 0 := ⟨_, rfl⟩
        rw [← hx] at hcell
        have HE : Hid (total (l.take (k + 1)) = T + clampI x) := Lib.hid (by rw [total_take l k (by rw [HN.out]; exact hlt), HTT.out, hx])
        have hx' := hx
        clear hx hx'
        by_cases hx1 : 1073741824 < x
        · have HC : Hid (clampI x = 1073741824) := Lib.hid (by unfold clampI; omega)
          go_wp2
          go_round
          case rel => exact ⟨k + 1, by omega, by go_num, by rw [HE.out, HC.out]⟩
          case measure => simp [intOf]; omega
        · by_cases hx2 : 0 < x
          · have HC : Hid (clampI x = x) := Lib.hid (by unfold clampI; omega)
            have hx3 : ¬ 1073741824 < x := hx1
            go_wp2
            go_round
            case rel => exact ⟨k + 1, by omega, by go_num, by rw [HE.out, HC.out]⟩
            case measure => simp [intOf]; omega
          · have HC : Hid (clampI x = 0) := Lib.hid (by unfold clampI; omega)
            go_wp2
            go_round
            case rel => exact ⟨k + 1, by omega, by go_num, by rw [HE.out, HC.out]; simp⟩
            case measure => simp [intOf]; omega
      · obtain rfl : k = n := by omega
        have HL : Hid (life l = min (T / (k : Int) / 100 + 1) 11) := Lib.hid (by
          unfold life
          rw [if_neg (by rw [HN.out]; exact h0), HTT.out, List.take_of_length_le (by rw [HN.out]; omega), HN.out])
        have q0 : 0 ≤ T / (k : Int) := Int.ediv_nonneg hT.1 (by omega)
        have q2 : T / (k : Int) ≤ T := Int.ediv_le_self _ hT.1
        have q1 : T / (k : Int) ≤ 200000000000000 := by omega
        obtain ⟨V, hV⟩ : ∃ V, T / (k : Int) = V := ⟨_, rfl⟩
        rw [hV] at q0 q2 q1 HL
        by_cases hv : 11 < V / 100 + 1
        · have HE : Hid (life l = 11) := Lib.hid (by rw [HL.out]; omega)
          go_wp2
          all_goals go_ret
          all_goals exact ⟨ret_int HE.out.symm, rfl⟩
        · have HE : Hid (life l = V / 100 + 1) := Lib.hid (by rw [HL.out]; omega)
          go_wp2
          all_goals go_ret
          all_goals exact ⟨ret_int HE.out.symm, rfl⟩

theorem known_any (w : World) : Calls Try.prog 20 #[] w fun e w' => e = .returned (.bool true) ∧ Below w.heap.size w w' := by
  have hR : Hid (∀ (w : World), Rd (w.alloc (.cells #[.int .i64 250, .int .i64 50] 3)) (some ⟨w.heap.size, 0, none⟩) [250, 50]) := Lib.hid fun w =>
    ⟨by simp [maxLen], fun i hi => ⟨w.heap.size, 0, rfl, by
      have hi2 : i < 2 := hi
      match i, hi2 with
      | 0, _ => simp
      | 1, _ => simp⟩, by
      intro x hx
      unfold I64
      simp at hx
      omega⟩
  have e1 : life [250, 50] = 2 := by decide
  have e2 : pay 9 = 2 := by decide
  have e3 : debt 3 8 = 5 := by decide
  go_enter Try.func20, Try.ntmps20
  go_wp2_with fail
  refine Calls.mono (lifeW _ [250, 50] 2 2 _ rfl (hR.out w) (by omega)) ?_
  rintro e w' ⟨rfl, rfl⟩
  go_wp2_with fail
  refine Calls.mono (payW 9 _) ?_
  rintro e w' ⟨rfl, rfl⟩
  go_wp2_with fail
  refine Calls.mono (debtW 3 8 (by unfold I64; omega) (by unfold I64; omega) _) ?_
  rintro e w' ⟨rfl, rfl⟩
  go_wp2
  go_ret
  exact ⟨rfl, (Below.refl _ _).alloc (Nat.le_refl _) _⟩
end Go.Proofs.Ytbnjijlpbeplmaa.WearK
