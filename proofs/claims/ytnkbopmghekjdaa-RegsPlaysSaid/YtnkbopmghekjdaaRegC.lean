/- Contracts of registers: reading and writing one. -/
import Derived.Test.YtnkbopmghekjdaaRegB
namespace Go.Proofs.Ytnkbopmghekjdaa.RegC
open Go.ChangeShapes Go.WideShapes Go.ChangeAt Go.RowKit
open RegA Mem RegB
set_option linter.unusedVariables false
set_option maxHeartbeats 1000000

def an (a b : Int) : Int := bits .andNot .u8 a b
def orr (a b : Int) : Int := bits .or .u8 a b
def mayB (n v : Int) : Bool := if n = 0 then decide (v < 8) else if n = 1 ∨ n = 2 ∨ n = 3 ∨ n = 4 ∨ n = 13 then decide (v ≤ 1) else if n = 5 then decide (v ≤ 2) else if n = 6 then decide (v ≤ 3) else if n = 12 then (an v 241 == 0) else true
def reg (st : List Int) (n : Int) : Int := st.getD n.toNat 0
def getS (st : List Int) (n : Int) : Int := if kind n = 0 then 0 else reg st n
def fixS (st : List Int) (n v : Int) : Int × List Int := if n = 6 ∨ n = 13 then (if an (reg st n) v ≠ 0 then (22, st) else (0, st.set n.toNat v)) else if reg st 13 ≠ 0 then (22, st) else (0, st.set n.toNat v)
def writeS (st : List Int) (n v : Int) : Int × List Int := if kind n = 0 ∨ kind n = 4 then (2, st) else if mayB n v = false then (1, st) else if kind n = 1 then (0, st.set n.toNat v) else if kind n = 2 then (0, st) else fixS st n v
def showS (st : List Int) (n v : Int) : List Int := if kind n = 4 then st.set n.toNat v else st

def vs (st : List Int) : Array Value := (st.map (Value.int .u8)).toArray
/-- Block g is registers of these values. -/
def File (T : TypeId) (w : World) (g : Nat) (st : List Int) : Prop := st.length = 64 ∧ Mem.Blk w g T (vs st)
section
variable {T : TypeId} {w w' : World} {g : Nat} {st : List Int}
theorem File.cell (h : File T w g st) (i : Nat) (hi : i < 64) : w.cell? ⟨g, i, none⟩ = some (.int .u8 (st.getD i 0)) := by
  rw [h.2.cell i]
  have : i < st.length := by rw [h.1]; exact hi
  simp [vs, this]
theorem File.put (h : File T w g st) (i : Nat) (v : Int) : File T (w.setCell ⟨g, i, none⟩ (.int .u8 v)) g (st.set i v) := by
  refine ⟨by rw [List.length_set]; exact h.1, ?_⟩
  have := h.2.put i (.int .u8 v)
  have e : (vs st).setIfInBounds i (.int .u8 v) = vs (st.set i v) := by simp [vs, List.map_set]
  rw [e] at this
  exact this
theorem File.grown (h : File T w g st) {row : Option Nat} (hb : w.grownBy w' row) (hg : some g ≠ row) : File T w' g st := ⟨h.1, (hb.block g h.2.lt hg).trans h.2⟩
theorem File.below {B : Nat} (h : File T w g st) (hb : Below B w w') (hg : g < B) : File T w' g st := ⟨h.1, h.2.below hb hg⟩
theorem only_setCell {a w : World} {g : Nat} (h : a.grownBy w (some g)) {p : Addr} (hp : p.block = g ∨ a.heap.size ≤ p.block) (u : Value) : a.grownBy (w.setCell p u) (some g) :=
  ⟨h.os, h.tape, h.output, by simpa [World.setCell] using h.size, fun i hi hne => (Below.heap_setCell w p u i (by
    rintro rfl
    rcases hp with hp | hp
    · exact hne (by rw [hp])
    · omega)).trans (h.block i hi hne)⟩
theorem File.mark (h : File T w g st) (i : Nat) (v : Int) : w.grownBy (w.setCell ⟨g, i, none⟩ (.int .u8 v)) (some g) := only_setCell (World.grownBy.refl w _) (.inl rfl) _
end

theorem mayW (n v : Int) (w : World) (k : FuncId) (hk : k = 25) : Calls Try.prog k #[.int .i64 n, .int .u8 v] w fun e w' => e = .returned (.bool (mayB n v)) ∧ w = w' := by
  subst hk
  rcases (show (n = 0 ∨ n = 1 ∨ n = 2 ∨ n = 3 ∨ n = 4 ∨ n = 5 ∨ n = 6 ∨ n = 12 ∨ n = 13) ∨ (n ≠ 0 ∧ n ≠ 1 ∧ n ≠ 2 ∧ n ≠ 3 ∧ n ≠ 4 ∧ n ≠ 5 ∧ n ≠ 6 ∧ n ≠ 12 ∧ n ≠ 13) by omega) with (rfl | rfl | rfl | rfl | rfl | rfl | rfl | rfl | rfl) | ⟨h0, h1, h2, h3, h4, h5, h6, h12, h13⟩
  case inr =>
    have HD : Hid (mayB n v = true) := Lib.hid (by unfold mayB; rw [if_neg (by omega), if_neg (by omega), if_neg (by omega), if_neg (by omega), if_neg (by omega)])
    rw [HD.out]
    have b0 : (n == 0) = false := by simpa using h0
    have b1 : (n == 1) = false := by simpa using h1
    have b2 : (n == 2) = false := by simpa using h2
    have b3 : (n == 3) = false := by simpa using h3
    have b4 : (n == 4) = false := by simpa using h4
    have b5 : (n == 5) = false := by simpa using h5
    have b6 : (n == 6) = false := by simpa using h6
    have b12 : (n == 12) = false := by simpa using h12
    have b13 : (n == 13) = false := by simpa using h13
    clear h0 h1 h2 h3 h4 h5 h6 h12 h13 HD
    go_enter Try.func25, Try.ntmps25
    go_wp2
    go_ret
    exact ⟨rfl, rfl⟩
  all_goals
    go_enter Try.func25, Try.ntmps25
    go_wp2
    go_ret
    exact ⟨rfl, rfl⟩

theorem may_as (B : Bool) (n v : Int) (h : mayB n v = B) (w : World) : Calls Try.prog 25 #[.int .i64 n, .int .u8 v] w fun e w' => e = .returned (.bool B) ∧ w = w' := by
  subst h; exact mayW n v w 25 rfl

theorem keepW (g m : Nat) (st : List Int) (v : Int) (w : World) (hm : m < 64) (hf : File 57 w g st) :
    Calls Try.prog 34 #[.pointer (some ⟨g, 0, none⟩), .int .i64 m, .int .u8 v] w fun e w' => e = .returned (.int .i64 0) ∧ File 57 w' g (st.set m v) ∧ w.grownBy w' (some g) := by
  have c := hf.cell m hm
  have z := hf.2.frozen m
  have HF := Lib.hid (hf.put m v)
  have HG := Lib.hid (hf.mark m v)
  clear hf
  go_enter Try.func34, Try.ntmps34
  go_wp2
  go_ret
  exact ⟨rfl, HF.out, HG.out⟩

theorem passW (g : Nat) (n v : Int) (w : World) :
    Calls Try.prog 35 #[.pointer (some ⟨g, 0, none⟩), .int .i64 n, .int .u8 v] w fun e w' => e = .returned (.int .i64 0) ∧ w = w' := by
  go_enter Try.func35, Try.ntmps35
  go_wp2
  go_ret
  exact ⟨rfl, rfl⟩

theorem getW (g : Nat) (st : List Int) (n : Int) (w : World) (hf : File 57 w g st) :
    Calls Try.prog 23 #[.pointer (some ⟨g, 0, none⟩), .int .i64 n] w fun e w' => e = .returned (.int .u8 (getS st n)) ∧ w = w' := by
  by_cases hk : kind n = 0
  · have HD : Hid (getS st n = 0) := Lib.hid (by unfold getS; rw [if_pos hk])
    rw [HD.out]
    have HK := Lib.hid (kindW 0 n hk)
    clear hk hf HD
    go_enter Try.func23, Try.ntmps23
    go_wp2_with (go_at_call 22; refine (HK.out _).mono ?_; rintro e w' ⟨rfl, rfl⟩)
    go_ret
    exact ⟨rfl, rfl⟩
  · obtain ⟨h0, h1⟩ := kind_bd hk
    obtain ⟨m, rfl⟩ := Int.eq_ofNat_of_zero_le h0
    have HD : Hid (getS st (m : Int) = st.getD m 0) := Lib.hid (by unfold getS; rw [if_neg hk]; rfl)
    rw [HD.out]
    have c := hf.cell m (by omega)
    obtain ⟨K, hK⟩ : ∃ K, K = kind (m : Int) := ⟨_, rfl⟩
    have HK := Lib.hid (kindW K m hK.symm)
    have hb : (K == 0) = false := by rw [hK]; simpa using hk
    clear hk hf HD hK
    go_enter Try.func23, Try.ntmps23
    go_wp2_with (go_at_call 22; refine (HK.out _).mono ?_; rintro e w' ⟨rfl, rfl⟩)
    go_ret
    exact ⟨rfl, rfl⟩

theorem showW (g : Nat) (st : List Int) (n v : Int) (w : World) (hf : File 57 w g st) :
    Calls Try.prog 13 #[.pointer (some ⟨g, 0, none⟩), .int .i64 n, .int .u8 v] w fun e w' => e = .returned (.tuple #[]) ∧ File 57 w' g (showS st n v) ∧ w.grownBy w' (some g) := by
  by_cases hk : kind n = 4
  · obtain ⟨h0, h1⟩ := kind_bd (n := n) (by omega)
    obtain ⟨m, rfl⟩ := Int.eq_ofNat_of_zero_le h0
    have HD : Hid (showS st (m : Int) v = st.set m v) := Lib.hid (by unfold showS; rw [if_pos hk]; rfl)
    rw [HD.out]
    have c := hf.cell m (by omega)
    have z := hf.2.frozen m
    have HF := Lib.hid (hf.put m v)
    have HG := Lib.hid (hf.mark m v)
    have HK := Lib.hid (kindW 4 m hk)
    clear hk hf HD
    go_enter Try.func13, Try.ntmps13
    go_wp2_with (go_at_call 22; refine (HK.out _).mono ?_; rintro e w' ⟨rfl, rfl⟩)
    go_end0
    exact ⟨rfl, HF.out, HG.out⟩
  · have HD : Hid (showS st n v = st) := Lib.hid (by unfold showS; rw [if_neg hk])
    rw [HD.out]
    obtain ⟨K, hK⟩ : ∃ K, K = kind n := ⟨_, rfl⟩
    have HK := Lib.hid (kindW K n hK.symm)
    have hb : (K == 4) = false := by rw [hK]; simpa using hk
    have HF := Lib.hid hf
    clear hk HD hK hf
    go_enter Try.func13, Try.ntmps13
    go_wp2_with (go_at_call 22; refine (HK.out _).mono ?_; rintro e w' ⟨rfl, rfl⟩)
    go_end0
    exact ⟨rfl, HF.out, World.grownBy.refl _ _⟩
end Go.Proofs.Ytnkbopmghekjdaa.RegC
