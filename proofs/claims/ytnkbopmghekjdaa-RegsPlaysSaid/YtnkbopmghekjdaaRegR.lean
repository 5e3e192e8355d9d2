/- Contracts of the document's registers. -/
import Derived.Test.YtnkbopmghekjdaaRegH
namespace Go.Proofs.Ytnkbopmghekjdaa.RegR
open Go.ChangeShapes Go.WideShapes Go.ChangeAt Go.RowKit
open RegA Mem RegB RegC RegD RegE RegF RegG RegH
set_option linter.unusedVariables false
set_option maxHeartbeats 2000000

theorem enh (v : Int) (h0 : 0 ≤ v) (h1 : v ≤ 255) : (bits .and .u8 v 14 == 0) = (an v 241 == 0) := by
  have H : ∀ v : Fin 256, (bits .and .u8 (v.val : Int) 14 == 0) = (an (v.val : Int) 241 == 0) := by decide +kernel
  have := H ⟨v.toNat, by omega⟩
  simpa only [Int.toNat_of_nonneg h0] using this

theorem mayR (n v : Int) (hv0 : 0 ≤ v) (hv1 : v ≤ 255) (w : World) (k : FuncId) (hk : k = 27) : Calls Try.prog k #[.int .i64 n, .int .u8 v] w fun e w' => e = .returned (.bool (mayB n v)) ∧ w = w' := by
  subst hk
  rcases (show (n = 0 ∨ n = 1 ∨ n = 2 ∨ n = 3 ∨ n = 4 ∨ n = 5 ∨ n = 6 ∨ n = 12 ∨ n = 13) ∨ (n ≠ 0 ∧ n ≠ 1 ∧ n ≠ 2 ∧ n ≠ 3 ∧ n ≠ 4 ∧ n ≠ 5 ∧ n ≠ 6 ∧ n ≠ 12 ∧ n ≠ 13) by omega) with (rfl | rfl | rfl | rfl | rfl | rfl | rfl | rfl | rfl) | ⟨h0, h1, h2, h3, h4, h5, h6, h12, h13⟩
  case inr =>
    have HD : Hid (mayB n v = true) := Lib.hid (by unfold mayB; rw [if_neg (by omega), if_neg (by omega), if_neg (by omega), if_neg (by omega), if_neg (by omega)])
    rw [HD.out]
    have b0 : (n == 0) = false := by simpa using h0
    have b1 : (n == 1) = false := by simpa using h1
    have b2 : (n == 2) = false := by simpa using h2
    have b3 : (n == 3) = false := by simpa using h3
    have b4 : (n == 4) = false := by simpa using h4
    have b5 : (n == 5) = false := by simpa using h5
    have b6 : (n == 6) = false := by simpa using h6
    have b12 : (n == 12) = false := by simpa using h12
    have b13 : (n == 13) = false := by simpa using h13
    clear h0 h1 h2 h3 h4 h5 h6 h12 h13 HD
    go_enter Try.func27, Try.ntmps27
    go_wp2
    go_ret
    exact ⟨rfl, rfl⟩
  case inl.inl =>
    have HD : Hid (mayB 0 v = decide (v ≤ 7)) := Lib.hid (by unfold mayB; rw [if_pos rfl]; exact decide_eq_decide.2 (by omega))
    rw [HD.out]
    clear HD
    go_enter Try.func27, Try.ntmps27
    go_wp2
    go_ret
    exact ⟨rfl, rfl⟩
  case inl.inr.inr.inr.inr.inr.inr.inr.inl =>
    have HD : Hid (mayB 12 v = (bits .and .u8 v 14 == 0)) := Lib.hid (by rw [enh v hv0 hv1]; rfl)
    rw [HD.out]
    clear HD
    go_enter Try.func27, Try.ntmps27
    go_wp2
    go_ret
    exact ⟨rfl, rfl⟩
  all_goals
    go_enter Try.func27, Try.ntmps27
    go_wp2
    go_ret
    exact ⟨rfl, rfl⟩

theorem mayR_as (B : Bool) (n v : Int) (hv0 : 0 ≤ v) (hv1 : v ≤ 255) (h : mayB n v = B) (w : World) : Calls Try.prog 27 #[.int .i64 n, .int .u8 v] w fun e w' => e = .returned (.bool B) ∧ w = w' := by
  subst h; exact mayR n v hv0 hv1 w 27 rfl

/-- Registers of no kind are 0. -/
def Zer (st : List Int) : Prop := ∀ m : Nat, m < 64 → kind (m : Int) = 0 → st.getD m 0 = 0

theorem getR (g : Nat) (st : List Int) (n : Int) (w : World) (hf : File 29 w g st) (hz : Zer st) :
    Calls Try.prog 28 #[.pointer (some ⟨g, 0, none⟩), .int .i64 n] w fun e w' => e = .returned (.int .u8 (getS st n)) ∧ w = w' := by
  by_cases h : n < 0 ∨ 63 < n
  · have hk : kind n = 0 := by
      by_cases hk : kind n = 0
      · exact hk
      · have := kind_bd hk; omega
    have HD : Hid (getS st n = 0) := Lib.hid (by unfold getS; rw [if_pos hk])
    rw [HD.out]
    clear hk hf HD hz
    by_cases h1 : n < 0
    · go_enter Try.func28, Try.ntmps28
      go_wp2
      go_ret
      exact ⟨rfl, rfl⟩
    · have h2 : 63 < n := by omega
      clear h
      go_enter Try.func28, Try.ntmps28
      go_wp2
      go_ret
      exact ⟨rfl, rfl⟩
  · obtain ⟨m, rfl⟩ := Int.eq_ofNat_of_zero_le (by omega : 0 ≤ n)
    have HD : Hid (getS st (m : Int) = st.getD m 0) := Lib.hid (by
      unfold getS
      by_cases hk : kind (m : Int) = 0
      · rw [if_pos hk, hz m (by omega) hk]
      · rw [if_neg hk]; rfl)
    rw [HD.out]
    have c := hf.cell m (by omega)
    obtain ⟨y, hy⟩ : ∃ y, y = st.getD m 0 := ⟨_, rfl⟩
    rw [← hy] at c ⊢
    have h1 : (m : Int) ≤ 63 := by omega
    have h0 : (0 : Int) ≤ (m : Int) := by omega
    clear hf HD hz h hy
    go_enter Try.func28, Try.ntmps28
    go_wp2
    go_ret
    exact ⟨rfl, rfl⟩

theorem writeR (g : Nat) (st : List Int) (n v : Int) (hv0 : 0 ≤ v) (hv1 : v ≤ 255) (w : World) (hf : File 29 w g st) (h13 : reg st 13 = 0 ∨ reg st 13 = 1) :
    Calls Try.prog 10 #[.pointer (some ⟨g, 0, none⟩), .int .i64 n, .int .u8 v] w fun e w' => e = .returned (.int .i64 (writeS st n v).1) ∧ File 29 w' g (writeS st n v).2 ∧ w.grownBy w' (some g) := by
  have HF := Lib.hid hf
  by_cases hk04 : kind n = 0 ∨ kind n = 4
  · have HD : Hid (writeS st n v = (2, st)) := Lib.hid (by unfold writeS; rw [if_pos hk04])
    rw [HD.out]
    clear hf HD
    rcases hk04 with hk | hk <;>
    · have HK := Lib.hid (kindR _ n hk)
      clear hk
      go_enter Try.func10, Try.ntmps10
      go_wp2_with (go_at_call 26; refine (HK.out _).mono ?_; rintro e w' ⟨rfl, rfl⟩)
      go_ret
      exact ⟨rfl, HF.out, World.grownBy.refl _ _⟩
  · have hk : kind n = 1 ∨ kind n = 2 ∨ kind n = 3 := by have := kind_cases n; omega
    obtain ⟨b0, b1⟩ := kind_bd (n := n) (by omega)
    cases hm : mayB n v with
    | false =>
      have HD : Hid (writeS st n v = (1, st)) := Lib.hid (by unfold writeS; rw [if_neg hk04, if_pos hm])
      have HM := Lib.hid (mayR_as _ n v hv0 hv1 hm)
      rw [HD.out]
      clear hf HD hm hk04
      rcases hk with hk | hk | hk <;>
      · have HK := Lib.hid (kindR _ n hk)
        clear hk
        go_enter Try.func10, Try.ntmps10
        go_wp2_with (first
          | (go_at_call 26; refine (HK.out _).mono ?_; rintro e w' ⟨rfl, rfl⟩)
          | (go_at_call 27; refine (HM.out _).mono ?_; rintro e w' ⟨rfl, rfl⟩))
        go_ret
        exact ⟨rfl, HF.out, World.grownBy.refl _ _⟩
    | true =>
      have HM := Lib.hid (mayR_as _ n v hv0 hv1 hm)
      obtain ⟨m, rfl⟩ := Int.eq_ofNat_of_zero_le b0
      have cm := hf.cell m (by omega)
      have zm := hf.2.frozen m
      have c13 := hf.cell 13 (by omega)
      have HP := Lib.hid (hf.put m v)
      have HG := Lib.hid (hf.mark m v)
      obtain ⟨Y, hY⟩ : ∃ Y, Y = st.getD m 0 := ⟨_, rfl⟩
      obtain ⟨Z, hZ⟩ : ∃ Z, Z = st.getD 13 0 := ⟨_, rfl⟩
      rw [← hY] at cm
      rw [← hZ] at c13
      have h13' : Z = 0 ∨ Z = 1 := by rw [hZ]; exact h13
      by_cases h6 : m = 6 ∨ m = 13
      · have hk3 : kind (m : Int) = 3 := by rcases h6 with h | h <;> subst h <;> rfl
        have HK := Lib.hid (kindR _ _ hk3)
        by_cases hz : bits .andNot .u8 Y v = 0
        · have HD : Hid (writeS st m v = (0, st.set m v)) := Lib.hid (by
            unfold writeS
            rw [if_neg hk04, if_neg (by rw [hm]; simp), if_neg (by omega), if_neg (by omega)]
            unfold fixS
            rw [if_pos (by rcases h6 with h | h <;> subst h <;> simp)]
            unfold an reg
            rw [Int.toNat_natCast, ← hY, if_neg (by simpa using hz)])
          rw [HD.out]
          have q : (bits .andNot .u8 Y v != 0) = false := by simpa using hz
          clear HD hz hY hZ hf hm hk hk3 hk04 c13 h13 h13'
          rcases h6 with rfl | rfl <;>
          · go_enter Try.func10, Try.ntmps10
            go_wp2_with (first
              | (go_at_call 26; refine (HK.out _).mono ?_; rintro e w' ⟨rfl, rfl⟩)
              | (go_at_call 27; refine (HM.out _).mono ?_; rintro e w' ⟨rfl, rfl⟩))
            go_ret
            exact ⟨rfl, HP.out, HG.out⟩
        · have HD : Hid (writeS st m v = (22, st)) := Lib.hid (by
            unfold writeS
            rw [if_neg hk04, if_neg (by rw [hm]; simp), if_neg (by omega), if_neg (by omega)]
            unfold fixS
            rw [if_pos (by rcases h6 with h | h <;> subst h <;> simp)]
            unfold an reg
            rw [Int.toNat_natCast, ← hY, if_pos (by simpa using hz)])
          rw [HD.out]
          have q : (bits .andNot .u8 Y v != 0) = true := by simpa using hz
          clear HD hz hY hZ hf hm hk hk3 hk04 c13 h13 h13'
          rcases h6 with rfl | rfl <;>
          · go_enter Try.func10, Try.ntmps10
            go_wp2_with (first
              | (go_at_call 26; refine (HK.out _).mono ?_; rintro e w' ⟨rfl, rfl⟩)
              | (go_at_call 27; refine (HM.out _).mono ?_; rintro e w' ⟨rfl, rfl⟩))
            go_ret
            exact ⟨rfl, HF.out, World.grownBy.refl _ _⟩
      · have n6 : ((m : Int) == 6) = false := by simp; omega
        have n13 : ((m : Int) == 13) = false := by simp; omega
        have hmn : ¬ ((m : Int) = 6 ∨ (m : Int) = 13) := by omega
        rcases hk with hk | hk | hk
        · have HK := Lib.hid (kindR _ _ hk)
          have HD : Hid (writeS st m v = (0, st.set m v)) := Lib.hid (by unfold writeS; rw [if_neg hk04, if_neg (by rw [hm]; simp), if_pos hk]; rfl)
          rw [HD.out]
          clear HD hY hZ hf hm hk hk04 h13 h13' h6 hmn
          go_enter Try.func10, Try.ntmps10
          go_wp2_with (first
            | (go_at_call 26; refine (HK.out _).mono ?_; rintro e w' ⟨rfl, rfl⟩)
            | (go_at_call 27; refine (HM.out _).mono ?_; rintro e w' ⟨rfl, rfl⟩))
          go_ret
          exact ⟨rfl, HP.out, HG.out⟩
        · have HK := Lib.hid (kindR _ _ hk)
          have HD : Hid (writeS st m v = (0, st)) := Lib.hid (by unfold writeS; rw [if_neg hk04, if_neg (by rw [hm]; simp), if_neg (by omega), if_pos hk])
          rw [HD.out]
          clear HD hY hZ hf hm hk hk04 h13 h13' h6 hmn
          go_enter Try.func10, Try.ntmps10
          go_wp2_with (first
            | (go_at_call 26; refine (HK.out _).mono ?_; rintro e w' ⟨rfl, rfl⟩)
            | (go_at_call 27; refine (HM.out _).mono ?_; rintro e w' ⟨rfl, rfl⟩))
          go_ret
          exact ⟨rfl, HF.out, World.grownBy.refl _ _⟩
        · have HK := Lib.hid (kindR _ _ hk)
          rcases h13' with hz | hz
          · have HD : Hid (writeS st m v = (0, st.set m v)) := Lib.hid (by
              unfold writeS
              rw [if_neg hk04, if_neg (by rw [hm]; simp), if_neg (by omega), if_neg (by omega)]
              unfold fixS reg
              rw [if_neg hmn, if_neg (by show ¬ st.getD 13 0 ≠ 0; rw [← hZ]; simpa using hz)]; rfl)
            rw [HD.out]
            have q : (Z == 1) = false := by rw [hz]; rfl
            clear HD hz hY hZ hf hm hk hk04 h13 h6 hmn
            go_enter Try.func10, Try.ntmps10
            go_wp2_with (first
              | (go_at_call 26; refine (HK.out _).mono ?_; rintro e w' ⟨rfl, rfl⟩)
              | (go_at_call 27; refine (HM.out _).mono ?_; rintro e w' ⟨rfl, rfl⟩))
            go_ret
            exact ⟨rfl, HP.out, HG.out⟩
          · have HD : Hid (writeS st m v = (22, st)) := Lib.hid (by
              unfold writeS
              rw [if_neg hk04, if_neg (by rw [hm]; simp), if_neg (by omega), if_neg (by omega)]
              unfold fixS reg
              rw [if_neg hmn, if_pos (by show st.getD 13 0 ≠ 0; rw [← hZ, hz]; decide)])
            rw [HD.out]
            have q : (Z == 1) = true := by rw [hz]; rfl
            clear HD hz hY hZ hf hm hk hk04 h13 h6 hmn
            go_enter Try.func10, Try.ntmps10
            go_wp2_with (first
              | (go_at_call 26; refine (HK.out _).mono ?_; rintro e w' ⟨rfl, rfl⟩)
              | (go_at_call 27; refine (HM.out _).mono ?_; rintro e w' ⟨rfl, rfl⟩))
            go_ret
            exact ⟨rfl, HF.out, World.grownBy.refl _ _⟩

theorem showR (g : Nat) (st : List Int) (n v : Int) (w : World) (hf : File 29 w g st) :
    Calls Try.prog 14 #[.pointer (some ⟨g, 0, none⟩), .int .i64 n, .int .u8 v] w fun e w' => e = .returned (.tuple #[]) ∧ File 29 w' g (showS st n v) ∧ w.grownBy w' (some g) := by
  by_cases hk : kind n = 4
  · obtain ⟨h0, h1⟩ := kind_bd (n := n) (by omega)
    obtain ⟨m, rfl⟩ := Int.eq_ofNat_of_zero_le h0
    have HD : Hid (showS st (m : Int) v = st.set m v) := Lib.hid (by unfold showS; rw [if_pos hk]; rfl)
    rw [HD.out]
    have c := hf.cell m (by omega)
    have z := hf.2.frozen m
    have HF := Lib.hid (hf.put m v)
    have HG := Lib.hid (hf.mark m v)
    have HK := Lib.hid (kindR 4 m hk)
    clear hk hf HD
    go_enter Try.func14, Try.ntmps14
    go_wp2_with (go_at_call 26; refine (HK.out _).mono ?_; rintro e w' ⟨rfl, rfl⟩)
    go_end0
    exact ⟨rfl, HF.out, HG.out⟩
  · have HD : Hid (showS st n v = st) := Lib.hid (by unfold showS; rw [if_neg hk])
    rw [HD.out]
    obtain ⟨K, hK⟩ : ∃ K, K = kind n := ⟨_, rfl⟩
    have HK := Lib.hid (kindR K n hK.symm)
    have hb : (K == 4) = false := by rw [hK]; simpa using hk
    have HF := Lib.hid hf
    clear hk HD hK hf
    go_enter Try.func14, Try.ntmps14
    go_wp2_with (go_at_call 26; refine (HK.out _).mono ?_; rintro e w' ⟨rfl, rfl⟩)
    go_end0
    exact ⟨rfl, HF.out, World.grownBy.refl _ _⟩
theorem powerR (g : Nat) (st : List Int) (w : World) (hf : File 29 w g st) :
    Calls Try.prog 16 #[.pointer (some ⟨g, 0, none⟩)] w fun e w' => e = .returned (.tuple #[]) ∧ File 29 w' g (powerS st) ∧ w.grownBy w' (some g) := by
  have HF := Lib.hid hf
  clear hf
  go_enter Try.func16, Try.ntmps16
  go_wp2
  go_loopw [2] (fun i wr => ∃ k : Nat, k ≤ 64 ∧ i = .int .i64 k ∧ File 29 wr g (upS st k) ∧ w.grownBy wr (some g)) (fun i _ => 64 - (intOf i).toNat)
  case atStart => exact ⟨0, by omega, rfl, HF.out, World.grownBy.refl _ _⟩
  case round =>
    obtain ⟨k, hk, rfl, hfr, hgr⟩ := hrel
    by_cases hlt : k < 64
    · by_cases h1 : kind (k : Int) = 1
      · have HU : Hid (upS st (k + 1) = (upS st k).set k 0) := Lib.hid (by rw [upS, if_pos h1])
        have HK := Lib.hid (kindR 1 k h1)
        have c := hfr.cell k hlt
        have z := hfr.2.frozen k
        have HP := Lib.hid (hfr.put k 0)
        have HG := Lib.hid (only_setCell hgr (p := ⟨g, k, none⟩) (.inl rfl) (.int .u8 0))
        clear h1 hfr hgr
        go_wp2_with (go_at_call 26; refine (HK.out _).mono ?_; rintro e w' ⟨rfl, rfl⟩)
        go_roundw
        case rel => exact ⟨k + 1, by omega, by go_num, by rw [HU.out]; exact HP.out, HG.out⟩
        case measure => simp [intOf]; omega
      · have HU : Hid (upS st (k + 1) = upS st k) := Lib.hid (by rw [upS, if_neg h1])
        obtain ⟨K, hK⟩ : ∃ K, K = kind (k : Int) := ⟨_, rfl⟩
        have HK := Lib.hid (kindR K k hK.symm)
        have hb : (K == 1) = false := by rw [hK]; simpa using h1
        have HF2 := Lib.hid hfr
        have HG := Lib.hid hgr
        clear h1 hfr hgr hK
        go_wp2_with (go_at_call 26; refine (HK.out _).mono ?_; rintro e w' ⟨rfl, rfl⟩)
        go_roundw
        case rel => exact ⟨k + 1, by omega, by go_num, by rw [HU.out]; exact HF2.out, HG.out⟩
        case measure => simp [intOf]; omega
    · obtain rfl : k = 64 := by omega
      go_wp2
      go_end0
      exact ⟨rfl, hfr, hgr⟩

end Go.Proofs.Ytnkbopmghekjdaa.RegR
