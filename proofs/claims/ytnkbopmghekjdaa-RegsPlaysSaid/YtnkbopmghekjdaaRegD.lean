/- Contracts of registers: Write. -/
import Derived.Test.YtnkbopmghekjdaaRegC
namespace Go.Proofs.Ytnkbopmghekjdaa.RegD
open Go.ChangeShapes Go.WideShapes Go.ChangeAt Go.RowKit
open RegA Mem RegB RegC
set_option linter.unusedVariables false
set_option maxHeartbeats 1000000

theorem fixW (g m : Nat) (st : List Int) (v : Int) (w : World) (hm : m < 64) (hf : File 57 w g st) :
    Calls Try.prog 36 #[.pointer (some ⟨g, 0, none⟩), .int .i64 m, .int .u8 v] w fun e w' => e = .returned (.int .i64 (fixS st m v).1) ∧ File 57 w' g (fixS st m v).2 ∧ w.grownBy w' (some g) := by
  have cm := hf.cell m hm
  have c13 := hf.cell 13 (by omega)
  have HK := Lib.hid (keepW g m st v w hm hf)
  have HF := Lib.hid hf
  obtain ⟨Y, hY⟩ : ∃ Y, Y = st.getD m 0 := ⟨_, rfl⟩
  obtain ⟨Z, hZ⟩ : ∃ Z, Z = st.getD 13 0 := ⟨_, rfl⟩
  rw [← hY] at cm
  rw [← hZ] at c13
  have hone : (m = 6 ∨ m = 13) ∨ ((m : Int) == 6) = false ∧ ((m : Int) == 13) = false := by
    by_cases h6 : m = 6
    · exact .inl (.inl h6)
    · by_cases h13 : m = 13
      · exact .inl (.inr h13)
      · right; constructor <;> simp <;> omega
  rcases hone with h | ⟨b6, b13⟩
  · obtain ⟨X, hX⟩ : ∃ X, X = bits .andNot .u8 Y v := ⟨_, rfl⟩
    by_cases hz : X = 0
    · have HD : Hid (fixS st m v = (0, st.set m v)) := Lib.hid (by
        unfold fixS
        rw [if_pos (by rcases h with h | h <;> subst h <;> simp)]
        unfold an reg
        rw [Int.toNat_natCast, ← hY, ← hX, if_neg (by simpa using hz)])
      rw [HD.out]
      have q : (bits .andNot .u8 Y v != 0) = false := by rw [← hX, hz]; rfl
      clear HD hX hz c13 hf hY hZ
      rcases h with rfl | rfl <;>
      · go_enter Try.func36, Try.ntmps36
        go_wp2_with (go_at_call 34; refine HK.out.mono ?_; rintro e w' ⟨rfl, h1, h2⟩)
        go_ret
        exact ⟨rfl, h1, h2⟩
    · have HD : Hid (fixS st m v = (22, st)) := Lib.hid (by
        unfold fixS
        rw [if_pos (by rcases h with h | h <;> subst h <;> simp)]
        unfold an reg
        rw [Int.toNat_natCast, ← hY, ← hX, if_pos (by simpa using hz)])
      rw [HD.out]
      have q : (bits .andNot .u8 Y v != 0) = true := by rw [← hX]; simpa using hz
      clear HD hX hz c13 hf hY hZ
      rcases h with rfl | rfl <;>
      · go_enter Try.func36, Try.ntmps36
        go_wp2
        go_ret
        exact ⟨rfl, HF.out, World.grownBy.refl _ _⟩
  · have hn : ¬ ((m : Int) = 6 ∨ (m : Int) = 13) := by
      have := of_eq_false (by simpa using b6 : ((m : Int) = 6) = False)
      have := of_eq_false (by simpa using b13 : ((m : Int) = 13) = False)
      omega
    by_cases hz : Z = 0
    · have HD : Hid (fixS st m v = (0, st.set m v)) := Lib.hid (by
        unfold fixS reg
        rw [if_neg hn, if_neg (by show ¬ st.getD 13 0 ≠ 0; rw [← hZ]; simpa using hz)]; rfl)
      rw [HD.out]
      have q : (Z != 0) = false := by rw [hz]; rfl
      clear HD hz hn hf cm hY hZ
      go_enter Try.func36, Try.ntmps36
      go_wp2_with (go_at_call 34; refine HK.out.mono ?_; rintro e w' ⟨rfl, h1, h2⟩)
      go_ret
      exact ⟨rfl, h1, h2⟩
    · have HD : Hid (fixS st m v = (22, st)) := Lib.hid (by
        unfold fixS reg
        rw [if_neg hn, if_pos (by show st.getD 13 0 ≠ 0; rw [← hZ]; exact hz)])
      rw [HD.out]
      have q : (Z != 0) = true := by simpa using hz
      clear HD hz hn hf cm hY hZ
      go_enter Try.func36, Try.ntmps36
      go_wp2
      go_ret
      exact ⟨rfl, HF.out, World.grownBy.refl _ _⟩

/-- How registers of a kind are written, as a value. -/
def writerV (g : Nat) (K : Int) : Value := if K = 1 then .func (.func 34) #[.pointer (some ⟨g, 0, none⟩)] #[] else if K = 2 then .func (.func 35) #[.pointer (some ⟨g, 0, none⟩)] #[] else if K = 3 then .func (.func 36) #[.pointer (some ⟨g, 0, none⟩)] #[] else .nilFunc

theorem writerW (g : Nat) (n : Int) (w : World) : Calls Try.prog 24 #[.pointer (some ⟨g, 0, none⟩), .int .i64 (kind n)] w fun e w' => e = .returned (writerV g (kind n)) ∧ w = w' := by
  have hmf : ∀ (fn : Fn) (first cap : Array Value) (w : World), (Instr.makeFunc fn first cap).run Try.prog w = .ok (.func fn first cap) w := fun _ _ _ _ => rfl
  rcases kind_cases n with h | h | h | h | h <;> rw [h] <;>
  · go_enter Try.func24, Try.ntmps24
    go_wp2
    go_ret
    exact ⟨rfl, rfl⟩

theorem eqInFn (d : Nat) (fn : Fn) (a b : Array Value) (w : World) : (Op.equalIn (d + 1) 34 (.func fn a b) .nilFunc).run Try.prog w = .ok false w := by
  simp [Op.equalIn, run_underlying Try.underlying34]
theorem eqInNil (d : Nat) (w : World) : (Op.equalIn (d + 1) 34 .nilFunc .nilFunc).run Try.prog w = .ok true w := by
  simp [Op.equalIn, run_underlying Try.underlying34]
theorem eqlFn (fn : Fn) (a b : Array Value) (w : World) : (binOp .eql 34 (.func fn a b) .nilFunc).run Try.prog w = .ok (.bool false) w := by
  simp only [binOp]
  simp [Op.equal, Op.maxDepth, eqInFn 9999 fn a b w]
theorem eqlNil (w : World) : (binOp .eql 34 .nilFunc .nilFunc).run Try.prog w = .ok (.bool true) w := by
  simp only [binOp]
  simp [Op.equal, Op.maxDepth, eqInNil 9999 w]

theorem writeW (g : Nat) (st : List Int) (n v : Int) (w : World) (hf : File 57 w g st) :
    Calls Try.prog 9 #[.pointer (some ⟨g, 0, none⟩), .int .i64 n, .int .u8 v] w fun e w' => e = .returned (.int .i64 (writeS st n v).1) ∧ File 57 w' g (writeS st n v).2 ∧ w.grownBy w' (some g) := by
  have HF := Lib.hid hf
  have HW := Lib.hid (writerW g n)
  have hq1 := eqlFn
  have hq2 := eqlNil
  rcases kind_cases n with h | h | h | h | h
  case inl =>
    have HD : Hid (writeS st n v = (2, st)) := Lib.hid (by unfold writeS; rw [if_pos (.inl h)])
    have HK := Lib.hid (kindW 0 n h)
    rw [h] at HW
    rw [HD.out]
    clear h HD hf
    go_enter Try.func9, Try.ntmps9
    go_wp2_with fail
    refine (HK.out _).mono ?_
    rintro e w' ⟨rfl, rfl⟩
    go_wp2_with fail
    refine (HW.out _).mono ?_
    rintro e w' ⟨rfl, rfl⟩
    simp only [show writerV g 0 = .nilFunc from rfl]
    go_wp2
    go_ret
    exact ⟨rfl, HF.out, World.grownBy.refl _ _⟩
  case inr.inr.inr.inr =>
    have HD : Hid (writeS st n v = (2, st)) := Lib.hid (by unfold writeS; rw [if_pos (.inr h)])
    have HK := Lib.hid (kindW 4 n h)
    rw [h] at HW
    rw [HD.out]
    clear h HD hf
    go_enter Try.func9, Try.ntmps9
    go_wp2_with fail
    refine (HK.out _).mono ?_
    rintro e w' ⟨rfl, rfl⟩
    go_wp2_with fail
    refine (HW.out _).mono ?_
    rintro e w' ⟨rfl, rfl⟩
    simp only [show writerV g 4 = .nilFunc from rfl]
    go_wp2
    go_ret
    exact ⟨rfl, HF.out, World.grownBy.refl _ _⟩
  case inr.inl =>
    obtain ⟨h0, h1⟩ := kind_bd (n := n) (by omega)
    obtain ⟨m, rfl⟩ := Int.eq_ofNat_of_zero_le h0
    have HK := Lib.hid (kindW 1 m h)
    rw [h] at HW
    cases hm : mayB m v with
    | false =>
      have HD : Hid (writeS st m v = (1, st)) := Lib.hid (by unfold writeS; rw [if_neg (by omega), if_pos hm])
      have HM := Lib.hid (may_as _ _ _ hm)
      rw [HD.out]
      clear h HD hf hm
      go_enter Try.func9, Try.ntmps9
      go_wp2_with fail
      refine (HK.out _).mono ?_
      rintro e w' ⟨rfl, rfl⟩
      go_wp2_with fail
      refine (HW.out _).mono ?_
      rintro e w' ⟨rfl, rfl⟩
      simp only [show writerV g 1 = .func (.func 34) #[.pointer (some ⟨g, 0, none⟩)] #[] from rfl]
      go_wp2_with fail
      refine (HM.out _).mono ?_
      rintro e w' ⟨rfl, rfl⟩
      go_wp2
      go_ret
      exact ⟨rfl, HF.out, World.grownBy.refl _ _⟩
    | true =>
      have HD : Hid (writeS st m v = (0, st.set m v)) := Lib.hid (by unfold writeS; rw [if_neg (by omega), if_neg (by rw [hm]; simp), if_pos h]; rfl)
      have HM := Lib.hid (may_as _ _ _ hm)
      rw [HD.out]
      clear h HD hf hm
      go_enter Try.func9, Try.ntmps9
      go_wp2_with fail
      refine (HK.out _).mono ?_
      rintro e w' ⟨rfl, rfl⟩
      go_wp2_with fail
      refine (HW.out _).mono ?_
      rintro e w' ⟨rfl, rfl⟩
      simp only [show writerV g 1 = .func (.func 34) #[.pointer (some ⟨g, 0, none⟩)] #[] from rfl]
      go_wp2_with fail
      refine (HM.out _).mono ?_
      rintro e w' ⟨rfl, rfl⟩
      go_wp2_with fail
      refine (keepW g m st v _ (by omega) HF.out).mono ?_
      rintro e w' ⟨rfl, q1, q2⟩
      go_wp2
      go_ret
      exact ⟨rfl, q1, q2⟩
  case inr.inr.inl =>
    have HK := Lib.hid (kindW 2 n h)
    rw [h] at HW
    cases hm : mayB n v with
    | false =>
      have HD : Hid (writeS st n v = (1, st)) := Lib.hid (by unfold writeS; rw [if_neg (by omega), if_pos hm])
      have HM := Lib.hid (may_as _ _ _ hm)
      rw [HD.out]
      clear h HD hf hm
      go_enter Try.func9, Try.ntmps9
      go_wp2_with fail
      refine (HK.out _).mono ?_
      rintro e w' ⟨rfl, rfl⟩
      go_wp2_with fail
      refine (HW.out _).mono ?_
      rintro e w' ⟨rfl, rfl⟩
      simp only [show writerV g 2 = .func (.func 35) #[.pointer (some ⟨g, 0, none⟩)] #[] from rfl]
      go_wp2_with fail
      refine (HM.out _).mono ?_
      rintro e w' ⟨rfl, rfl⟩
      go_wp2
      go_ret
      exact ⟨rfl, HF.out, World.grownBy.refl _ _⟩
    | true =>
      have HD : Hid (writeS st n v = (0, st)) := Lib.hid (by unfold writeS; rw [if_neg (by omega), if_neg (by rw [hm]; simp), if_neg (by omega), if_pos h])
      have HM := Lib.hid (may_as _ _ _ hm)
      rw [HD.out]
      clear h HD hf hm
      go_enter Try.func9, Try.ntmps9
      go_wp2_with fail
      refine (HK.out _).mono ?_
      rintro e w' ⟨rfl, rfl⟩
      go_wp2_with fail
      refine (HW.out _).mono ?_
      rintro e w' ⟨rfl, rfl⟩
      simp only [show writerV g 2 = .func (.func 35) #[.pointer (some ⟨g, 0, none⟩)] #[] from rfl]
      go_wp2_with fail
      refine (HM.out _).mono ?_
      rintro e w' ⟨rfl, rfl⟩
      go_wp2_with fail
      refine (passW g n v _).mono ?_
      rintro e w' ⟨rfl, rfl⟩
      go_wp2
      go_ret
      exact ⟨rfl, HF.out, World.grownBy.refl _ _⟩
  case inr.inr.inr.inl =>
    obtain ⟨h0, h1⟩ := kind_bd (n := n) (by omega)
    obtain ⟨m, rfl⟩ := Int.eq_ofNat_of_zero_le h0
    have HK := Lib.hid (kindW 3 m h)
    rw [h] at HW
    cases hm : mayB m v with
    | false =>
      have HD : Hid (writeS st m v = (1, st)) := Lib.hid (by unfold writeS; rw [if_neg (by omega), if_pos hm])
      have HM := Lib.hid (may_as _ _ _ hm)
      rw [HD.out]
      clear h HD hf hm
      go_enter Try.func9, Try.ntmps9
      go_wp2_with fail
      refine (HK.out _).mono ?_
      rintro e w' ⟨rfl, rfl⟩
      go_wp2_with fail
      refine (HW.out _).mono ?_
      rintro e w' ⟨rfl, rfl⟩
      simp only [show writerV g 3 = .func (.func 36) #[.pointer (some ⟨g, 0, none⟩)] #[] from rfl]
      go_wp2_with fail
      refine (HM.out _).mono ?_
      rintro e w' ⟨rfl, rfl⟩
      go_wp2
      go_ret
      exact ⟨rfl, HF.out, World.grownBy.refl _ _⟩
    | true =>
      have HD : Hid (writeS st m v = fixS st m v) := Lib.hid (by unfold writeS; rw [if_neg (by omega), if_neg (by rw [hm]; simp), if_neg (by omega), if_neg (by omega)])
      have HM := Lib.hid (may_as _ _ _ hm)
      rw [HD.out]
      clear h HD hf hm
      go_enter Try.func9, Try.ntmps9
      go_wp2_with fail
      refine (HK.out _).mono ?_
      rintro e w' ⟨rfl, rfl⟩
      go_wp2_with fail
      refine (HW.out _).mono ?_
      rintro e w' ⟨rfl, rfl⟩
      simp only [show writerV g 3 = .func (.func 36) #[.pointer (some ⟨g, 0, none⟩)] #[] from rfl]
      go_wp2_with fail
      refine (HM.out _).mono ?_
      rintro e w' ⟨rfl, rfl⟩
      go_wp2_with fail
      refine (fixW g m st v _ (by omega) HF.out).mono ?_
      rintro e w' ⟨rfl, q1, q2⟩
      go_wp2
      go_ret
      exact ⟨rfl, q1, q2⟩
end Go.Proofs.Ytnkbopmghekjdaa.RegD
