/-
  FrameBack: for any command, any status and any sixteen bytes the law returns true and its arguments read as they did: commands, responses and long answers go to bytes and back, and a host's frame is no card's. No condition.
-/
import Derived.Test.YtafcjcpflkelcaaFrBackW
import Derived.Test.YtafcjcpflkelcaaFrO
import Derived.Test.YtafcjcpflkelcaaRows
import Derived.WalkKit
import Derived.ProofKit
import Derived.OpenShut
import Derived.ShutString
import Derived.ChangeOld
import Derived.Below
import Derived.ChangeSame
import Derived.Lib.SmallJoins
namespace Go.Proofs.Ytafcjcpflkelcaa.frameBack
open Go.ChangeShapes Go.WideShapes Go.ChangeAt Go.RowKit Go.Joins
open Go.ChangeMaps (open_string shut_string)
open FrA FrB FrBurstW CrcM
set_option linter.unusedVariables false

theorem own : ownKnob Try.prog.godebug = none := by kernel_rfl
theorem laidOut : laidOutB Try.prog = true := by kernel_rfl
theorem cells69 : Try.prog.cellsOf 69 = 2 := by kernel_rfl

/-! ### The walk -/
theorem walk (a0 b0 : Int) (a1 : Int) (l2 : List B8) (w : World) (w0 : (Lit.int .i64 a0).wf = true) (u0 : (Lit.int .u32 b0).wf = true) (w1 : (Lit.int .u32 a1).wf = true) (w2 : l2.length = 16) :
    Calls Try.prog 11 #[.agg #[.int .i64 a0, .int .u32 b0], .int .u32 a1, .agg (vals l2).toArray] w fun e w' => e = .returned (.bool true) ∧ Below w.heap.size w w' := by
  have hw0 := I64.of w0
  have hb0 := U32.of u0
  have hb1 := U32.of w1
  obtain ⟨x, hx⟩ : ∃ x : B32, b0 = (x.toNat : Int) := ⟨BitVec.ofNat 32 b0.toNat, by rw [BitVec.toNat_ofNat]; omega⟩
  obtain ⟨s, hs⟩ : ∃ s : B32, a1 = (s.toNat : Int) := ⟨BitVec.ofNat 32 a1.toNat, by rw [BitVec.toNat_ofNat]; omega⟩
  subst hx hs
  by_cases h : a0 < 0 ∨ 63 < a0
  · exact FrBackW.early a0 x s.toNat l2 w h
  · obtain ⟨i, hi⟩ : ∃ i : BitVec 8, a0 = (i.toNat : Int) := ⟨BitVec.ofNat 8 a0.toNat, by rw [BitVec.toNat_ofNat]; omega⟩
    subst hi
    exact FrBackW.late i (by omega) x s l2 w w2

/-! ### The row's step -/
set_option maxRecDepth 100000 in
theorem lifted (os : Os) (started : os.Started) (H : Type) (enc : TypeId × Value → H) :
    ReturnsInHanded {} Try.checked os 11 .any (Rows.frameBackSpec.pre6 enc Try.prog Try.f11 Rows.frameBackRow.domain false) (Rows.frameBackSpec.post enc Try.prog Try.f11 false true false false) := by
  refine returnsInHanded_of_change (C := Try.checked) own started (by kernel_rfl) Try.func11
    (ChangeSpec.witness6 (enc := enc) (C := Try.checked) false ⟨#[], #[.agg #[.int .i64 0, .int .u32 0], .int .u32 0, .agg #[.int .u8 0, .int .u8 0, .int .u8 0, .int .u8 0, .int .u8 0, .int .u8 0, .int .u8 0, .int .u8 0, .int .u8 0, .int .u8 0, .int .u8 0, .int .u8 0, .int .u8 0, .int .u8 0, .int .u8 0, .int .u8 0]], []⟩ 8 (by kernel_rfl) (by kernel_rfl) (by kernel_rfl) (by kernel_rfl)) ?_
  intro W base args ds gs before hval0 hW hcnd _
  have hval : ∀ (j : Nat) t v, Try.f11.params[j]? = some t → args[j]? = some v → Value.okWide Try.prog W .any base t v := hval0
  have hW' := hW
  obtain ⟨p, q, hA0, hV, rfl, hfz, hnd⟩ := hW
  have hA : DataW.TrodAll enc Try.prog W 0 (fun _ => true) true Try.f11.params.toList args.toList ds p := hA0
  rw [Try.params11] at hA hval
  obtain ⟨v0, vs0, d0, ds0, p0, q0, hargs, rfl, rfl, h0, r0⟩ := trodAll_cons hA
  obtain ⟨v1, vs1, d1, ds1, p1, q1, rfl, rfl, rfl, h1, r1⟩ := trodAll_cons r0
  obtain ⟨v2, vs2, d2, ds2, p2, q2, rfl, rfl, rfl, h2, r2⟩ := trodAll_cons r1
  obtain ⟨rfl, rfl, rfl⟩ := trodAll_nil r2
  obtain rfl : args = #[v0, v1, v2] := by cases args; simp_all
  obtain ⟨rfl, rfl⟩ := trodVars_none hV
  have k0 := h0
  have lt0 : ∀ x ∈ p0, x.block < W.heap.size := by obtain ⟨m, hm⟩ := k0; exact DataW.trod_lt m _ _ _ hm
  obtain ⟨c0, e0, y0, x0, m0, rfl, rfl, rfl, hy0, hx0⟩ := open_agg2 Try.underlying69 (by kernel_rfl) cells69 (hval 0 69 v0 rfl rfl) h0
  obtain ⟨a0, g0, rfl, w0⟩ := DataW.trod_int Try.underlying3 hy0
  obtain ⟨b0, i0, rfl, u0⟩ := DataW.trod_int Try.underlying67 hx0
  simp at g0 i0
  subst g0 i0
  obtain ⟨a1, rfl, rfl, rfl, w1⟩ := open_int Try.underlying67 (hval 1 67 v1 rfl rfl) h1
  have k2 := h2
  have lt2 : ∀ x ∈ p2, x.block < W.heap.size := by obtain ⟨m, hm⟩ := k2; exact DataW.trod_lt m _ _ _ hm
  obtain ⟨l2, w2, rfl⟩ := FrO.openBytes (hval 2 94 v2 rfl rfl) h2
  clear hA0 hval0
  refine (walk a0 b0 a1 l2 W w0 u0 w1 w2).mono fun e W' ⟨he, bel⟩ => ?_
  subst he
  exact ⟨_, rfl, _, _, _, [], _, [], hW', trodAll_mk1 (shut_bool Try.underlying4 _), (trodAll_cons_mk (Below.trod laidOut (by kernel_rfl) (of_decide_eq_true (by kernel_rfl)) k0 bel lt0) (trodAll_cons_mk (shut_int Try.underlying67 w1) (trodAll_cons_mk (Below.trod laidOut (by kernel_rfl) (of_decide_eq_true (by kernel_rfl)) k2 bel lt2) trodAll_mk0))), rfl, bel.frame _, fun h => by cases h⟩

theorem over : Rows.frameBackRow.holds Try.pinned (OpenSpec.ofChange Rows.frameBackSpec) :=
  OpenClaim.holds_of_wide 11 Try.f11 rfl rfl rfl rfl rfl rfl rfl ⟨rfl, rfl, rfl, rfl, rfl⟩ rfl rfl rfl rfl rfl (by kernel_rfl) Try.func11 (by kernel_rfl)
    (of_decide_eq_true (by kernel_rfl)) (by unfold Func.isWrapper; first | (rw [if_pos (by decide +kernel)]; kernel_rfl) | (rw [if_neg (by decide +kernel)]; exact ⟨rfl, rfl⟩))
    (fun os started H enc _ => lifted os started H enc)

/-- The statement. -/
theorem proved : Rows.FrameBackSaid := over
#print axioms proved
end Go.Proofs.Ytafcjcpflkelcaa.frameBack
