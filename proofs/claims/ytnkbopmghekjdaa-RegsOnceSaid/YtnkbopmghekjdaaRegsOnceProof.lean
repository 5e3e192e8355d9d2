/-
  RegsOnce: for any acts, and any others behind them, the law returns true and its arguments read as they did: what is set once is never unset, nor is anything of it changed when all is done. No condition.
-/
import Derived.Test.YtnkbopmghekjdaaRegO
import Derived.Test.YtnkbopmghekjdaaRegI
import Derived.Test.YtnkbopmghekjdaaRows
import Derived.WalkKit
import Derived.ProofKit
import Derived.OpenShut
import Derived.ShutString
import Derived.ChangeOld
import Derived.Below
namespace Go.Proofs.Ytnkbopmghekjdaa.regsOnce
open Go.ChangeShapes Go.WideShapes Go.ChangeAt Go.RowKit
open Go.ChangeMaps (open_string shut_string)
open Mem RegC RegF RegG RegO RegI
set_option linter.unusedVariables false

theorem own : ownKnob Try.prog.godebug = none := by kernel_rfl
theorem laidOut : laidOutB Try.prog = true := by kernel_rfl

/-! ### The walk -/
theorem walk (a0 a1 : Option Addr) (l0 l1 : List RegG.Act) (len0 cap0 len1 cap1 : Nat) (w : World) (hl0 : l0.length = len0) (hl1 : l1.length = len1) (hr0 : RdA w a0 l0) (hr1 : RdA w a1 l1) (hm0 : len0 ≤ maxLen) (hm1 : len1 ≤ maxLen) (hv0 : ∀ y ∈ l0, 0 ≤ y.v) (hv1 : ∀ y ∈ l1, 0 ≤ y.v) :
    Calls Try.prog 5 #[.slice a0 len0 cap0, .slice a1 len1 cap1] w fun e w' => e = .returned (.bool true) ∧ Below w.heap.size w w' := by
  by_cases he : 300 < len0 ∨ 300 < len1
  · exact RegI.early a0 a1 len0 cap0 len1 cap1 w (by unfold maxLen at hm0; omega) (by unfold maxLen at hm1; omega) he
  · exact onceW a0 a1 l0 l1 len0 cap0 len1 cap1 w hl0 hl1 hr0 hr1 (by omega) (by omega) hv0 hv1

/-! ### The row's step -/
set_option maxRecDepth 100000 in
theorem lifted (os : Os) (started : os.Started) (H : Type) (enc : TypeId × Value → H) :
    ReturnsInHanded {} Try.checked os 5 .any (Rows.regsOnceSpec.pre6 enc Try.prog Try.f5 Rows.regsOnceRow.domain false) (Rows.regsOnceSpec.post enc Try.prog Try.f5 false true false false) := by
  refine returnsInHanded_of_change (C := Try.checked) own started (by kernel_rfl) Try.func5
    (ChangeSpec.witness6 (enc := enc) (C := Try.checked) false ⟨#[], #[.slice none 0 0, .slice none 0 0], []⟩ 8 (by kernel_rfl) (by kernel_rfl) (by kernel_rfl) (by kernel_rfl)) ?_
  intro W base args ds gs before hval0 hW hcnd _
  have hval : ∀ (j : Nat) t v, Try.f5.params[j]? = some t → args[j]? = some v → Value.okWide Try.prog W .any base t v := hval0
  have hW' := hW
  obtain ⟨p, q, hA0, hV, rfl, hfz, hnd⟩ := hW
  have hA : DataW.TrodAll enc Try.prog W 0 (fun _ => true) true Try.f5.params.toList args.toList ds p := hA0
  rw [Try.params5] at hA hval
  obtain ⟨v0, vs0, d0, ds0, p0, q0, hargs, rfl, rfl, h0, r0⟩ := trodAll_cons hA
  obtain ⟨v1, vs1, d1, ds1, p1, q1, rfl, rfl, rfl, h1, r1⟩ := trodAll_cons r0
  obtain ⟨rfl, rfl, rfl⟩ := trodAll_nil r1
  obtain rfl : args = #[v0, v1] := by cases args; simp_all
  obtain ⟨rfl, rfl⟩ := trodVars_none hV
  obtain ⟨a0, len0, cap0, rfl⟩ := okWide_slice Try.underlying22 (hval 0 22 v0 rfl rfl)
  have k0 := h0
  have lt0 : ∀ x ∈ p0, x.block < W.heap.size := by obtain ⟨m, hm⟩ := k0; exact DataW.trod_lt m _ _ _ hm
  obtain ⟨l0, hl0, hr0, hm0, hv0⟩ : ∃ l : List RegG.Act, l.length = len0 ∧ RdA W a0 l ∧ len0 ≤ maxLen ∧ ∀ y ∈ l, 0 ≤ y.v := by
    obtain ⟨fuel, hf⟩ := h0
    obtain ⟨l, x1, x2, x3, x4⟩ := openA hf
    exact ⟨l, x1, x2, x3, fun y hy => (x4 y hy).1⟩
  obtain ⟨a1, len1, cap1, rfl⟩ := okWide_slice Try.underlying22 (hval 1 22 v1 rfl rfl)
  have k1 := h1
  have lt1 : ∀ x ∈ p1, x.block < W.heap.size := by obtain ⟨m, hm⟩ := k1; exact DataW.trod_lt m _ _ _ hm
  obtain ⟨l1, hl1, hr1, hm1, hv1⟩ : ∃ l : List RegG.Act, l.length = len1 ∧ RdA W a1 l ∧ len1 ≤ maxLen ∧ ∀ y ∈ l, 0 ≤ y.v := by
    obtain ⟨fuel, hf⟩ := h1
    obtain ⟨l, x1, x2, x3, x4⟩ := openA hf
    exact ⟨l, x1, x2, x3, fun y hy => (x4 y hy).1⟩
  clear hA0 hval0
  refine (walk a0 a1 l0 l1 len0 cap0 len1 cap1 W hl0 hl1 hr0 hr1 hm0 hm1 hv0 hv1).mono fun e W' ⟨he, bel⟩ => ?_
  subst he
  exact ⟨_, rfl, _, _, _, [], _, [], hW', trodAll_mk1 (shut_bool Try.underlying4 _), (trodAll_cons_mk (Below.trod laidOut (by kernel_rfl) (of_decide_eq_true (by kernel_rfl)) k0 bel lt0) (trodAll_cons_mk (Below.trod laidOut (by kernel_rfl) (of_decide_eq_true (by kernel_rfl)) k1 bel lt1) trodAll_mk0)), rfl, bel.frame _, fun h => by cases h⟩

theorem over : Rows.regsOnceRow.holds Try.pinned (OpenSpec.ofChange Rows.regsOnceSpec) :=
  OpenClaim.holds_of_wide 5 Try.f5 rfl rfl rfl rfl rfl rfl rfl ⟨rfl, rfl, rfl, rfl, rfl⟩ rfl rfl rfl rfl rfl (by kernel_rfl) Try.func5 (by kernel_rfl)
    (of_decide_eq_true (by kernel_rfl)) (by unfold Func.isWrapper; first | (rw [if_pos (by decide +kernel)]; kernel_rfl) | (rw [if_neg (by decide +kernel)]; exact ⟨rfl, rfl⟩))
    (fun os started H enc _ => lifted os started H enc)

/-- The statement. -/
theorem proved : Rows.RegsOnceSaid := over
#print axioms proved
end Go.Proofs.Ytnkbopmghekjdaa.regsOnce
