/- Contracts of registers: Next, New, PowerUp. -/
import Derived.Test.YtnkbopmghekjdaaRegD
import Derived.Laws.BitsAllLaws
namespace Go.Proofs.Ytnkbopmghekjdaa.RegE
open Go.ChangeShapes Go.WideShapes Go.ChangeAt Go.RowKit
open RegA Mem RegB RegC RegD
set_option linter.unusedVariables false
set_option maxHeartbeats 1000000

def hw (a : Int) : Int := bits .and .u32 (a / 16777216) 3
def nx (a : Int) : Int := bits .and .u32 (a / 65536) 255
def bt (a : Int) : Int := a / 256 % 256
def nextV (st : List Int) (a : Int) : Int := if hw a = 3 then bt a else if hw a = 1 then orr (getS st (nx a)) (bt a) else an (getS st (nx a)) (bt a)
def nextS (st : List Int) (a : Int) : Int × Int × Int := if hw a ≠ 1 ∧ hw a ≠ 2 ∧ hw a ≠ 3 then (0, 0, 1) else if kind (nx a) = 0 ∨ kind (nx a) = 4 then (0, 0, 2) else (nx a, nextV st a, 0)

def zeros : List Int := List.replicate 64 0
theorem newW (w : World) : Calls Try.prog 8 #[] w fun e w' => e = .returned (.pointer (some ⟨w.heap.size, 0, none⟩)) ∧ File 57 w' w.heap.size zeros ∧ Below w.heap.size w w' := by
  go_enter Try.func8, Try.ntmps8
  go_wp2
  go_ret
  exact ⟨rfl, ⟨rfl, Mem.Blk.new w 57 (vs zeros)⟩, (Below.refl _ _).alloc (Nat.le_refl _) _⟩

def upS (st : List Int) : Nat → List Int
  | 0 => st
  | k + 1 => if kind (k : Int) = 1 then (upS st k).set k 0 else upS st k
def powerS (st : List Int) : List Int := upS st 64

theorem powerW (g : Nat) (st : List Int) (w : World) (hf : File 57 w g st) :
    Calls Try.prog 15 #[.pointer (some ⟨g, 0, none⟩)] w fun e w' => e = .returned (.tuple #[]) ∧ File 57 w' g (powerS st) ∧ w.grownBy w' (some g) := by
  have HF := Lib.hid hf
  clear hf
  go_enter Try.func15, Try.ntmps15
  go_wp2
  go_loopw [3] (fun i wr => ∃ k : Nat, k ≤ 64 ∧ i = .int .i64 k ∧ File 57 wr g (upS st k) ∧ w.grownBy wr (some g)) (fun i _ => 64 - (intOf i).toNat)
  case atStart => exact ⟨0, by omega, rfl, HF.out, World.grownBy.refl _ _⟩
  case round =>
    obtain ⟨k, hk, rfl, hfr, hgr⟩ := hrel
    by_cases hlt : k < 64
    · by_cases h1 : kind (k : Int) = 1
      · have HU : Hid (upS st (k + 1) = (upS st k).set k 0) := Lib.hid (by rw [upS, if_pos h1])
        have HK := Lib.hid (kindW 1 k h1)
        have c := hfr.cell k hlt
        have z := hfr.2.frozen k
        have HP := Lib.hid (hfr.put k 0)
        have HG := Lib.hid (only_setCell hgr (p := ⟨g, k, none⟩) (.inl rfl) (.int .u8 0))
        clear h1 hfr hgr
        go_wp2_with (go_at_call 22; refine (HK.out _).mono ?_; rintro e w' ⟨rfl, rfl⟩)
        go_roundw
        case rel => exact ⟨k + 1, by omega, by go_num, by rw [HU.out]; exact HP.out, HG.out⟩
        case measure => simp [intOf]; omega
      · have HU : Hid (upS st (k + 1) = upS st k) := Lib.hid (by rw [upS, if_neg h1])
        obtain ⟨K, hK⟩ : ∃ K, K = kind (k : Int) := ⟨_, rfl⟩
        have HK := Lib.hid (kindW K k hK.symm)
        have hb : (K == 1) = false := by rw [hK]; simpa using h1
        have HF2 := Lib.hid hfr
        have HG := Lib.hid hgr
        clear h1 hfr hgr hK
        go_wp2_with (go_at_call 22; refine (HK.out _).mono ?_; rintro e w' ⟨rfl, rfl⟩)
        go_roundw
        case rel => exact ⟨k + 1, by omega, by go_num, by rw [HU.out]; exact HF2.out, HG.out⟩
        case measure => simp [intOf]; omega
    · obtain rfl : k = 64 := by omega
      go_wp2
      go_end0
      exact ⟨rfl, hfr, hgr⟩

theorem and255 (x : Int) (h0 : 0 ≤ x) (h1 : x < 4294967296) : bits .and .u32 x 255 = x % 256 := by
  obtain ⟨n, rfl⟩ := Int.eq_ofNat_of_zero_le h0
  have := u32_and_nat n 255 (by omega) (by omega)
  rw [show ((255 : Nat) : Int) = 255 from rfl] at this
  rw [this, show (255 : Nat) = 2 ^ 8 - 1 from rfl, Nat.and_two_pow_sub_one_eq_mod]
  simp
theorem and3 (x : Int) (h0 : 0 ≤ x) (h1 : x < 4294967296) : bits .and .u32 x 3 = x % 4 := by
  obtain ⟨n, rfl⟩ := Int.eq_ofNat_of_zero_le h0
  have := u32_and_nat n 3 (by omega) (by omega)
  rw [show ((3 : Nat) : Int) = 3 from rfl] at this
  rw [this, show (3 : Nat) = 2 ^ 2 - 1 from rfl, Nat.and_two_pow_sub_one_eq_mod]
  simp
theorem nx_eq (a : Int) (h0 : 0 ≤ a) (h1 : a < 4294967296) : nx a = a / 65536 % 256 := and255 _ (by omega) (by omega)
theorem hw_eq (a : Int) (h0 : 0 ≤ a) (h1 : a < 4294967296) : hw a = a / 16777216 % 4 := and3 _ (by omega) (by omega)

set_option maxRecDepth 100000 in
theorem nextW (g : Nat) (st : List Int) (a : Int) (w : World) (h0 : 0 ≤ a) (h1 : a < 4294967296) (hf : File 57 w g st) :
    Calls Try.prog 11 #[.pointer (some ⟨g, 0, none⟩), .int .u32 a] w fun e w' => e = .returned (.tuple #[.int .i64 (nextS st a).1, .int .u8 (nextS st a).2.1, .int .i64 (nextS st a).2.2]) ∧ w = w' := by
  have HG := Lib.hid (fun n => getW g st n w hf)
  clear hf
  have hn0 : 0 ≤ bits .and .u32 (a / 65536) 255 := by rw [and255 _ (by omega) (by omega)]; omega
  have hn1 : bits .and .u32 (a / 65536) 255 ≤ 255 := by rw [and255 _ (by omega) (by omega)]; omega
  have hcase : hw a = 3 ∨ hw a = 1 ∨ hw a = 2 ∨ (hw a ≠ 3 ∧ hw a ≠ 1 ∧ hw a ≠ 2) := by omega
  rcases hcase with hh | hh | hh | ⟨e3, e1, e2⟩
  · have b3 : (bits .and .u32 (a / 16777216) 3 == 3) = true := by rw [show bits .and .u32 (a / 16777216) 3 = 3 from hh]; rfl
    have b1 : (bits .and .u32 (a / 16777216) 3 == 1) = false := by rw [show bits .and .u32 (a / 16777216) 3 = 3 from hh]; rfl
    have b2 : (bits .and .u32 (a / 16777216) 3 == 2) = false := by rw [show bits .and .u32 (a / 16777216) 3 = 3 from hh]; rfl
    have HN : Hid (nextV st a = bt a) := Lib.hid (by unfold nextV; rw [hh]; rfl)
    rcases kind_cases (nx a) with hk | hk | hk | hk | hk
    case inl =>
      have HD : Hid (nextS st a = (0, 0, 2)) := Lib.hid (by unfold nextS; rw [if_neg (by omega), if_pos (.inl hk)])
      have HK := Lib.hid (kindW 0 _ hk)
      rw [HD.out]
      clear HD hk hh
      go_enter Try.func11, Try.ntmps11
      go_wp2_with fail
      refine (HG.out _).mono ?_
      rintro e w' ⟨rfl, rfl⟩
      go_wp2_with fail
      refine (HK.out _).mono ?_
      rintro e w' ⟨rfl, rfl⟩
      go_wp2
      go_ret3
      exact ⟨rfl, rfl⟩
    case inr.inr.inr.inr =>
      have HD : Hid (nextS st a = (0, 0, 2)) := Lib.hid (by unfold nextS; rw [if_neg (by omega), if_pos (.inr hk)])
      have HK := Lib.hid (kindW 4 _ hk)
      rw [HD.out]
      clear HD hk hh
      go_enter Try.func11, Try.ntmps11
      go_wp2_with fail
      refine (HG.out _).mono ?_
      rintro e w' ⟨rfl, rfl⟩
      go_wp2_with fail
      refine (HK.out _).mono ?_
      rintro e w' ⟨rfl, rfl⟩
      go_wp2
      go_ret3
      exact ⟨rfl, rfl⟩
    all_goals
      have HD : Hid (nextS st a = (nx a, nextV st a, 0)) := Lib.hid (by unfold nextS; rw [if_neg (by omega), if_neg (by omega)])
      have HK := Lib.hid (kindW _ _ hk)
      rw [HD.out, HN.out]
      clear HD hk hh HN
      go_enter Try.func11, Try.ntmps11
      go_wp2_with fail
      refine (HG.out _).mono ?_
      rintro e w' ⟨rfl, rfl⟩
      go_wp2_with fail
      refine (HK.out _).mono ?_
      rintro e w' ⟨rfl, rfl⟩
      go_wp2
      go_ret3
      exact ⟨rfl, rfl⟩
  · have b3 : (bits .and .u32 (a / 16777216) 3 == 3) = false := by rw [show bits .and .u32 (a / 16777216) 3 = 1 from hh]; rfl
    have b1 : (bits .and .u32 (a / 16777216) 3 == 1) = true := by rw [show bits .and .u32 (a / 16777216) 3 = 1 from hh]; rfl
    have b2 : (bits .and .u32 (a / 16777216) 3 == 2) = false := by rw [show bits .and .u32 (a / 16777216) 3 = 1 from hh]; rfl
    have HN : Hid (nextV st a = orr (getS st (nx a)) (bt a)) := Lib.hid (by unfold nextV; rw [hh]; rfl)
    rcases kind_cases (nx a) with hk | hk | hk | hk | hk
    case inl =>
      have HD : Hid (nextS st a = (0, 0, 2)) := Lib.hid (by unfold nextS; rw [if_neg (by omega), if_pos (.inl hk)])
      have HK := Lib.hid (kindW 0 _ hk)
      rw [HD.out]
      clear HD hk hh
      go_enter Try.func11, Try.ntmps11
      go_wp2_with fail
      refine (HG.out _).mono ?_
      rintro e w' ⟨rfl, rfl⟩
      go_wp2_with fail
      refine (HK.out _).mono ?_
      rintro e w' ⟨rfl, rfl⟩
      go_wp2
      go_ret3
      exact ⟨rfl, rfl⟩
    case inr.inr.inr.inr =>
      have HD : Hid (nextS st a = (0, 0, 2)) := Lib.hid (by unfold nextS; rw [if_neg (by omega), if_pos (.inr hk)])
      have HK := Lib.hid (kindW 4 _ hk)
      rw [HD.out]
      clear HD hk hh
      go_enter Try.func11, Try.ntmps11
      go_wp2_with fail
      refine (HG.out _).mono ?_
      rintro e w' ⟨rfl, rfl⟩
      go_wp2_with fail
      refine (HK.out _).mono ?_
      rintro e w' ⟨rfl, rfl⟩
      go_wp2
      go_ret3
      exact ⟨rfl, rfl⟩
    all_goals
      have HD : Hid (nextS st a = (nx a, nextV st a, 0)) := Lib.hid (by unfold nextS; rw [if_neg (by omega), if_neg (by omega)])
      have HK := Lib.hid (kindW _ _ hk)
      rw [HD.out, HN.out]
      clear HD hk hh HN
      go_enter Try.func11, Try.ntmps11
      go_wp2_with fail
      refine (HG.out _).mono ?_
      rintro e w' ⟨rfl, rfl⟩
      go_wp2_with fail
      refine (HK.out _).mono ?_
      rintro e w' ⟨rfl, rfl⟩
      go_wp2
      go_ret3
      exact ⟨rfl, rfl⟩
  · have b3 : (bits .and .u32 (a / 16777216) 3 == 3) = false := by rw [show bits .and .u32 (a / 16777216) 3 = 2 from hh]; rfl
    have b1 : (bits .and .u32 (a / 16777216) 3 == 1) = false := by rw [show bits .and .u32 (a / 16777216) 3 = 2 from hh]; rfl
    have b2 : (bits .and .u32 (a / 16777216) 3 == 2) = true := by rw [show bits .and .u32 (a / 16777216) 3 = 2 from hh]; rfl
    have HN : Hid (nextV st a = an (getS st (nx a)) (bt a)) := Lib.hid (by unfold nextV; rw [hh]; rfl)
    rcases kind_cases (nx a) with hk | hk | hk | hk | hk
    case inl =>
      have HD : Hid (nextS st a = (0, 0, 2)) := Lib.hid (by unfold nextS; rw [if_neg (by omega), if_pos (.inl hk)])
      have HK := Lib.hid (kindW 0 _ hk)
      rw [HD.out]
      clear HD hk hh
      go_enter Try.func11, Try.ntmps11
      go_wp2_with fail
      refine (HG.out _).mono ?_
      rintro e w' ⟨rfl, rfl⟩
      go_wp2_with fail
      refine (HK.out _).mono ?_
      rintro e w' ⟨rfl, rfl⟩
      go_wp2
      go_ret3
      exact ⟨rfl, rfl⟩
    case inr.inr.inr.inr =>
      have HD : Hid (nextS st a = (0, 0, 2)) := Lib.hid (by unfold nextS; rw [if_neg (by omega), if_pos (.inr hk)])
      have HK := Lib.hid (kindW 4 _ hk)
      rw [HD.out]
      clear HD hk hh
      go_enter Try.func11, Try.ntmps11
      go_wp2_with fail
      refine (HG.out _).mono ?_
      rintro e w' ⟨rfl, rfl⟩
      go_wp2_with fail
      refine (HK.out _).mono ?_
      rintro e w' ⟨rfl, rfl⟩
      go_wp2
      go_ret3
      exact ⟨rfl, rfl⟩
    all_goals
      have HD : Hid (nextS st a = (nx a, nextV st a, 0)) := Lib.hid (by unfold nextS; rw [if_neg (by omega), if_neg (by omega)])
      have HK := Lib.hid (kindW _ _ hk)
      rw [HD.out, HN.out]
      clear HD hk hh HN
      go_enter Try.func11, Try.ntmps11
      go_wp2_with fail
      refine (HG.out _).mono ?_
      rintro e w' ⟨rfl, rfl⟩
      go_wp2_with fail
      refine (HK.out _).mono ?_
      rintro e w' ⟨rfl, rfl⟩
      go_wp2
      go_ret3
      exact ⟨rfl, rfl⟩
  · have b3 : (bits .and .u32 (a / 16777216) 3 == 3) = false := beq_eq_false_iff_ne.2 e3
    have b1 : (bits .and .u32 (a / 16777216) 3 == 1) = false := beq_eq_false_iff_ne.2 e1
    have b2 : (bits .and .u32 (a / 16777216) 3 == 2) = false := beq_eq_false_iff_ne.2 e2
    have HD : Hid (nextS st a = (0, 0, 1)) := Lib.hid (by unfold nextS; rw [if_pos ⟨e1, e2, e3⟩])
    rw [HD.out]
    clear HD e1 e2 e3
    go_enter Try.func11, Try.ntmps11
    go_wp2_with fail
    refine (HG.out _).mono ?_
    rintro e w' ⟨rfl, rfl⟩
    go_wp2
    go_ret3
    exact ⟨rfl, rfl⟩
end Go.Proofs.Ytnkbopmghekjdaa.RegE
