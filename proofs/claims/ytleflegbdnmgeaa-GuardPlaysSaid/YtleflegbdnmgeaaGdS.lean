/- The document's groups: their bits, what of them lasts. -/
import Derived.Test.YtleflegbdnmgeaaGdQ
namespace Go.Proofs.Ytleflegbdnmgeaa.GdS
open Go.ChangeShapes Go.WideShapes Go.ChangeAt Go.RowKit
open GdT GdA GdB GdC GdD GdE GdQ
set_option linter.unusedVariables false
set_option maxHeartbeats 1000000

theorem prs_bit (L : List B8) (f j : Nat) (hf : f ≤ 256) : ∀ m : Nat, m ≤ 256 → (bitsF f (prs L m)).testBit j = decide (j < 32 ∧ f + j < m ∧ ¬ L.getD (f + j) 0 = 0)
  | 0, _ => by simp [prs, bitsF]
  | m + 1, hm => by
    have ih := prs_bit L f j hf m (by omega)
    by_cases hz : L.getD m 0 = 0
    · rw [prs_zero L m hz, ih, decide_eq_decide]
      constructor
      · rintro ⟨a, b, c⟩; exact ⟨a, by omega, c⟩
      · rintro ⟨a, b, c⟩
        refine ⟨a, ?_, c⟩
        by_cases e : f + j = m
        · rw [e] at c; exact absurd hz c
        · omega
    · rw [prs_one L m hz, bitsF_snoc]
      have hw : IntKind.i64.wrap ((m : Int) - (f : Int)) = (m : Int) - (f : Int) := by rw [IntKind.wrap_i64]; omega
      unfold bitStep
      simp only [hw]
      by_cases hc : 0 ≤ (m : Int) - (f : Int) ∧ (m : Int) - (f : Int) < 32
      · rw [if_pos hc]
        obtain ⟨D, hD⟩ := Int.eq_ofNat_of_zero_le hc.1
        rw [hD, Int.toNat_natCast, Nat.testBit_or, ih, Nat.testBit_two_pow]
        rw [Bool.eq_iff_iff]
        simp only [Bool.or_eq_true, decide_eq_true_eq]
        constructor
        · rintro (⟨a, b, c⟩ | e)
          · exact ⟨a, by omega, c⟩
          · subst e
            have e2 : f + D = m := by omega
            rw [e2]
            exact ⟨by omega, by omega, hz⟩
        · rintro ⟨a, b, c⟩
          by_cases e : f + j = m
          · right; omega
          · left; exact ⟨a, by omega, c⟩
      · rw [if_neg hc, ih, decide_eq_decide]
        constructor
        · rintro ⟨a, b, c⟩; exact ⟨a, by omega, c⟩
        · rintro ⟨a, b, c⟩
          exact ⟨a, by omega, c⟩

theorem half (B K : Nat) : B / 2 ^ K = 2 * (B / 2 ^ (K + 1)) + (B.testBit K).toNat := by
  rw [Nat.toNat_testBit, Nat.pow_succ, ← Nat.div_div_eq_div_mul]
  omega

theorem bitsP_lt (n : Nat) (L : List B8) (k : Int) : bitsP n L k < 2 ^ 32 := by
  unfold bitsP
  split
  · exact bitsF_lt _ _
  · exact Nat.two_pow_pos 32

theorem or1 (V : Nat) : 2 * V ||| 1 = 2 * V + 1 := (Nat.two_pow_add_eq_or_of_lt (i := 1) (b := 1) (by decide) V).symm

theorem top (B : Nat) (h : B < 2 ^ 32) : B / 2 ^ 32 = 0 := Nat.div_eq_of_lt h

set_option maxRecDepth 100000 in
theorem bitsR (r s n : Nat) (L : List B8) (k : Int) (w : World) (h : Rg w r s n L) (hki : -9223372036854775808 ≤ k ∧ k ≤ 9223372036854775807) :
    Calls Try.prog 29 #[.pointer (some ⟨r, 0, none⟩), .int .i64 k] w fun e w' => e = .returned (.int .u32 (bitsP n L k : Nat)) ∧ w' = w := by
  have c := h.head
  have hn := h.2.2.2.2
  by_cases h0 : k < 0
  · have e : bitsP n L k = 0 := by unfold bitsP; rw [inN_out (.inl h0)]; rfl
    rw [e]
    clear h e
    go_enter Try.func29, Try.ntmps29
    go_wp2
    go_ret
    exact ⟨rfl, rfl⟩
  obtain ⟨F, rfl⟩ := Int.eq_ofNat_of_zero_le (by omega : 0 ≤ k)
  have HT : Hid (∀ K, K < 32 → (bitsP n L (F : Int)).testBit K = decide (F + K < n ∧ ¬ L.getD (F + K) 0 = 0)) := Lib.hid fun K hK => by
    unfold bitsP
    by_cases hF : F < n
    · rw [inN_nat hF, if_pos rfl, prs_bit L F K (by omega) n hn]
      simp [hK]
    · rw [inN_out (.inr (by omega))]
      simp
      omega
  have hB := bitsP_lt n L (F : Int)
  generalize bitsP n L (F : Int) = B at *
  have htop := top B hB
  have Hh := Lib.hid (fun K => half B K)
  have HC := Lib.hid (fun K hK => h.cell K hK)
  have Hlt : Hid (∀ K, B / 2 ^ K < 4294967296) := Lib.hid fun K => Nat.lt_of_le_of_lt (Nat.div_le_self _ _) hB
  have hz : Hid (B / 2 ^ 0 = B) := Lib.hid (by simp)
  replace htop := Lib.hid htop
  clear h hB
  go_enter Try.func29, Try.ntmps29
  go_wp2
  go_loopw [6, 5] (fun i v wr => ∃ (m : Nat) (i' : Int) (V : Nat), m ≤ 32 ∧ i = .int .i64 i' ∧ i' = (m : Int) - 1 ∧ v = .int .u32 V ∧ V = B / 2 ^ m ∧ wr = w) (fun i _ _ => (intOf i + 1).toNat)
  case atStart => exact ⟨32, 31, 0, by omega, rfl, by omega, rfl, htop.out.symm, rfl⟩
  case round =>
    obtain ⟨m, i', V, hm, rfl, hi, rfl, hV, hwr⟩ := hrel
    obtain rfl := hwr.symm
    cases m with
    | zero =>
      have hneg : ¬ (0 : Int) ≤ i' := by omega
      rw [hz.out] at hV
      subst hV
      clear Hh HT HC Hlt htop hz
      go_wp2
      go_ret
      exact ⟨rfl, rfl⟩
    | succ K =>
      obtain rfl : i' = (K : Int) := by omega
      have hb := Hh.out K
      have hl := Hlt.out K
      have ht := HT.out K (by omega)
      rw [ht, ← hV] at hb
      have hN : B / 2 ^ K = 2 * V + (decide (F + K < n ∧ ¬ L.getD (F + K) 0 = 0)).toNat := hb
      have hK32 : K < 32 := by omega
      clear hb ht hi hV
      by_cases hF : F < n
      · by_cases hFK : F + K < n
        · have hFi : (F : Int) < (n : Int) := by omega
          have hKi : (K : Int) < (n : Int) - (F : Int) := by omega
          have ck := HC.out (F + K) hFK
          obtain ⟨y, hy⟩ : ∃ y, y = L.getD (F + K) 0 := ⟨_, rfl⟩
          rw [← hy] at ck hN
          have hN0 := hN
          obtain ⟨V1, hV1⟩ : ∃ V1, V1 = B / 2 ^ K := ⟨_, rfl⟩
          rw [← hV1] at hN hl
          have hN : V1 = 2 * V + (decide (¬ y = 0)).toNat := by rw [hN]; simp [hFK]
          replace hV1 := Lib.hid hV1
          obtain ⟨M, hM⟩ : ∃ M, M = F + K := ⟨_, rfl⟩
          have ci : ((F : Int) + (K : Int)) = (M : Int) := by omega
          have hMn : (M : Int) < (n : Int) := by omega
          rw [← hM] at ck
          clear hy hN0 hM
          by_cases hy0 : y = 0
          · subst hy0
            have e2 : (((0 : B8)).toNat : Int) = 0 := rfl
            rw [e2] at ck
            have hN2 : V1 = 2 * V := by rw [hN]; simp
            rw [hN2] at hl hV1
            clear hN hN2
            go_wp2
            go_roundw
            case rel => exact ⟨K, (K : Int) - 1, 2 * V, by omega, by go_num, rfl, by go_num, hV1.out, by trivial⟩
            case measure => simp [intOf] <;> omega
          · have hyi : ¬ ((y.toNat : Int) = 0) := fun e => hy0 (BitVec.eq_of_toNat_eq (by
              have : (0 : B8).toNat = 0 := rfl
              omega))
            have hN2 : V1 = 2 * V + 1 := by rw [hN, decide_eq_true hy0]; rfl
            rw [hN2] at hl hV1
            have hor : bits .or .u32 ((V : Int) * 2) 1 = ((2 * V + 1 : Nat) : Int) := by
              have e1 : ((V : Int) * 2) = ((2 * V : Nat) : Int) := by omega
              rw [e1, show (1 : Int) = ((1 : Nat) : Int) from rfl, u32_or_nat _ _ (by omega) (by decide), or1]
            clear hN hN2
            go_wp2
            go_roundw
            case rel => exact ⟨K, (K : Int) - 1, 2 * V + 1, by omega, by go_num, rfl, by go_num, hV1.out, by trivial⟩
            case measure => simp [intOf] <;> omega
        · have hFi : (F : Int) < (n : Int) := by omega
          have hKi : ¬ ((K : Int) < (n : Int) - (F : Int)) := by omega
          have hN2 : B / 2 ^ K = 2 * V := by rw [hN]; simp [hFK]
          rw [hN2] at hl
          replace hN2 := Lib.hid hN2
          clear hN
          go_wp2
          go_roundw
          case rel => exact ⟨K, (K : Int) - 1, 2 * V, by omega, by go_num, rfl, by go_num, hN2.out.symm, by trivial⟩
          case measure => simp [intOf] <;> omega
      · have hFi : ¬ ((F : Int) < (n : Int)) := by omega
        have hFK : ¬ (F + K < n) := by omega
        have hN2 : B / 2 ^ K = 2 * V := by rw [hN]; simp [hFK]
        rw [hN2] at hl
        replace hN2 := Lib.hid hN2
        clear hN
        go_wp2
        go_roundw
        case rel => exact ⟨K, (K : Int) - 1, 2 * V, by omega, by go_num, rfl, by go_num, hN2.out.symm, by trivial⟩
        case measure => simp [intOf] <;> omega

theorem u8y (y : B8) : IntKind.u8.wrap (y.toNat : Int) = (y.toNat : Int) := by have := y.isLt; rw [IntKind.wrap_u8']; omega
theorem lst_snoc (L : List B8) (k : Nat) (h : k < L.length) : (L.take k).map lst ++ [lst (L.getD k 0)] = (L.take (k + 1)).map lst := by rw [take_snoc' L k h]; simp

set_option maxRecDepth 100000 in
theorem lastR (r s n : Nat) (L : List B8) (w : World) (h : Rg w r s n L) :
    Calls Try.prog 30 #[.pointer (some ⟨r, 0, none⟩)] w fun e w' => ∃ a c', e = .returned (.slice a n c') ∧ GdT.Own w' w.heap.size (.slice a n c') (L.map lst) ∧ Below w.heap.size w w' := by
  have hL := Lib.hid h.2.2.2.1
  have hn := h.2.2.2.2
  have HB : Hid (∀ w', Below w.heap.size w w' → Rg w' r s n L) := Lib.hid fun w' hb => h.below hb
  clear h
  go_enter Try.func30, Try.ntmps30
  go_wp2
  go_loopw [4, 3] (fun i b wr => ∃ (k : Nat) (a : Option Addr) (cp : Nat), k ≤ n ∧ i = .int .i64 k ∧ b = .slice a k cp ∧ GdT.Own wr w.heap.size (.slice a k cp) ((L.take k).map lst) ∧ Below w.heap.size w wr) (fun i _ _ => n - (intOf i).toNat)
  case atStart => exact ⟨0, none, 0, by omega, rfl, rfl, by simpa using GdT.Own.nil w w.heap.size, Below.refl _ _⟩
  case round =>
    obtain ⟨k, a, cp, hk, rfl, rfl, hO, hb⟩ := hrel
    have HR := HB.out _ hb
    have c := HR.head
    by_cases hlt : k < n
    · have hlt' : (k : Int) < (n : Int) := by omega
      have hkL : k < L.length := by rw [hL.out]; exact hlt
      have ck := HR.cell k hlt
      have hsn := Lib.hid (lst_snoc L k hkL)
      have hln : Hid (((L.take (k + 1)).map lst).length = k + 1) := Lib.hid (by simp; omega)
      have hu8 := u8y (L.getD k 0)
      obtain ⟨y, hy⟩ : ∃ y, y = L.getD k 0 := ⟨_, rfl⟩
      rw [← hy] at ck hsn hu8
      obtain ⟨L1, hL1⟩ : ∃ L1, L1 = (L.take (k + 1)).map lst := ⟨_, rfl⟩
      rw [← hL1] at hsn hln
      replace hL1 := Lib.hid hL1
      generalize (L.take k).map lst = L0 at *
      replace hO := Lib.hid hO
      replace HR := Lib.hid HR
      clear hy
      by_cases h2 : y = 2
      · have e : lst y = 0 := by simp [lst, h2]
        rw [e] at hsn
        subst h2
        have e2 : ((2 : B8).toNat : Int) = 2 := rfl
        rw [e2] at ck
        clear hu8
        go_wp2_with (first
          | (at_builtin
             refine wpList_app rfl (.tmp 22) (.tmp 23) rfl w.heap.size (.slice a k cp) L0 rfl (hO.out.alloc _) _ [0] 1 _ rfl rfl (one wr 0 _ _ rfl rfl) L1 (k + 1) hsn.out hln.out (by omega) (by have := hb.size; simp; omega) ?_
             intro a1 c1 w4 hv1 hr1 hg1 hn1
             clear hr1 hn1
             have hb2 := (hb.alloc hb.size _).grown hg1 (by have := hb.size; simp; omega) (hO.out.blocks · · |>.1)
             have HV1 := Lib.hid hv1
             clear hv1 hg1))
        go_roundw
        case rel => exact ⟨k + 1, a1, c1, by omega, by go_num, rfl, by rw [← hL1.out]; exact HV1.out, hb2⟩
        case measure => simp [intOf]; omega
      · have e : lst y = y := if_neg h2
        rw [e] at hsn
        have e2 : ¬ ((y.toNat : Int) = 2) := fun h => h2 (BitVec.eq_of_toNat_eq (by
          have : (2 : B8).toNat = 2 := rfl
          omega))
        clear e
        go_wp2_with (first
          | (at_builtin
             refine wpList_app rfl (.tmp 25) (.tmp 34) rfl w.heap.size (.slice a k cp) L0 rfl (hO.out.alloc _) _ [y] 1 _ rfl rfl (one wr y _ _ rfl (by first | rfl | exact hu8)) L1 (k + 1) hsn.out hln.out (by omega) (by have := hb.size; simp; omega) ?_
             intro a1 c1 w4 hv1 hr1 hg1 hn1
             clear hr1 hn1
             have hb2 := (hb.alloc hb.size _).grown hg1 (by have := hb.size; simp; omega) (hO.out.blocks · · |>.1)
             have HV1 := Lib.hid hv1
             clear hv1 hg1))
        go_roundw
        case rel => exact ⟨k + 1, a1, c1, by omega, by go_num, rfl, by rw [← hL1.out]; exact HV1.out, hb2⟩
        case measure => simp [intOf]; omega
    · obtain rfl : k = n := by omega
      have e : (L.take k).map lst = L.map lst := by rw [← hL.out, List.take_length]
      rw [e] at hO
      replace hO := Lib.hid hO
      go_wp2
      go_ret
      exact ⟨a, cp, rfl, hO.out, hb⟩
end Go.Proofs.Ytleflegbdnmgeaa.GdS
