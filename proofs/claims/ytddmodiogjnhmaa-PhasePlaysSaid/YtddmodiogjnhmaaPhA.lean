/- The table of steps as a map: how it is made, what it tells. -/
import Derived.Test.YtddmodiogjnhmaaMem
import Derived.Test.YtddmodiogjnhmaaPhM
import Derived.Maps.OwnSet
import Derived.Maps.OwnOps
import Derived.DeepKeys4
namespace Go.Proofs.Ytddmodiogjnhmaa.PhA
open Go.ChangeShapes Go.WideShapes Go.ChangeAt Go.RowKit
open PhM
open Go.Maps (Keyed)
set_option linter.unusedVariables false

theorem laidOut : laidOutB Try.prog = true := by kernel_rfl
theorem row59 : (59 : TypeId) < Try.prog.types.size := of_decide_eq_true (by kernel_rfl)
theorem wide59 : (match Try.prog.underlying 59 with | some (.array _ _) | some (.struct _) => true | _ => false) = true := by rw [Try.underlying59]
theorem law59 : Keyed Try.prog 59 := Keyed.of_law (deep_law_laid laidOut (m := 2) (by omega) row59 (by kernel_rfl) wide59)
def key (s i : Int) (m : Bool) : Value := .agg #[.int .i64 s, .int .i64 i, .bool m]
def KL (s i : Int) (m : Bool) : Lit := .string (keyBytes [.int .i64 s, .int .i64 i, .bool m])
def W (z : Int) : Prop := (Lit.int .i64 z).wf = true
theorem keyOf59 (s i : Int) (m : Bool) (hs : W s) (hi : W i) : keyOf Try.prog 59 (key s i m) = some (KL s i m) := by
  unfold keyOf
  rw [Try.underlying59]
  have hk : Try.prog.keyType 59 = true := by kernel_rfl
  have hf : (key s i m).formed Try.prog 59 = true := by
    have hc : Try.prog.cellsOf 59 = 3 := by kernel_rfl
    simp [key, Value.formed, Try.underlying59, hc]
  simp only [hk, hf, Bool.and_true, if_true]
  obtain ⟨n, hn⟩ : ∃ n, Try.prog.types.size = n + 1 := ⟨Try.prog.types.size - 1, by
    have : 0 < Try.prog.types.size := of_decide_eq_true (by kernel_rfl)
    omega⟩
  rw [hn]
  have hc : Try.prog.cellsOf 59 = 3 := by kernel_rfl
  have hc3 : Try.prog.cellsOf 3 = 1 := by kernel_rfl
  have hc4 : Try.prog.cellsOf 4 = 1 := by kernel_rfl
  unfold W at hs hi
  unfold Program.keyLits
  simp only [Try.underlying59]
  simp [key, Value.cells, hc, Program.keyLits, Try.underlying3, Try.underlying4, hc3, hc4, hs, hi, KL]

theorem KL_inj {s i : Int} {m : Bool} {s' i' : Int} {m' : Bool} (hs : W s) (hi : W i) (hs' : W s') (hi' : W i') (h : KL s i m = KL s' i' m') : (s, i, m) = (s', i', m') := by
  have h1 := keyOf59 s i m hs hi
  have h2 := keyOf59 s' i' m' hs' hi'
  rw [← h] at h2
  have h3 := law59.inj h1 h2
  simp [key] at h3
  simp [h3]

/-- How an element reads. -/
def R (v : Value) : Option (DataW Unit × List MemPlace) :=
  match v with
  | .agg c => match c.toList with
    | [.int .i64 n] => some (.lit (.int .i64 n), [])
    | _ => none
  | _ => none
theorem R_inv {v : Value} {z : DataW Unit × List MemPlace} (h : R v = some z) : ∃ n, v = .agg #[.int .i64 n] ∧ z = (.lit (.int .i64 n), []) := by
  unfold R at h
  split at h
  · rename_i c
    split at h
    · rename_i n hc
      injection h with h
      exact ⟨n, by rw [← Array.toArray_toList (xs := c), hc], h.symm⟩
    · cases h
  · cases h
theorem zero57 (w : World) : (zeroValue 57).run Try.prog w = .ok (.agg #[.int .i64 0]) w := by kernel_rfl

/-- A block is a map that tells what the list tells. -/
def Tab (w : World) (b : Nat) (l : List (K3 × Int)) : Prop :=
  ∃ D : DataW Unit, w.ownsMap Try.prog 59 R b l.length D ∧ ∀ s i m, W s → W i → Maps.has D (KL s i m) = (lk l (s, i, m)).isSome ∧ D.atKey (KL s i m) (.lit (.int .i64 0)) = .lit (.int .i64 ((lk l (s, i, m)).getD 0))
theorem Tab.lt {w b l} (h : Tab w b l) : b < w.heap.size := let ⟨_, h, _⟩ := h; h.lt
theorem Tab.kept {w w' : World} {b l} {row : Option Nat} (h : Tab w b l) (hg : w.grownBy w' row) (hne : some b ≠ row) : Tab w' b l := let ⟨D, h, k⟩ := h; ⟨D, h.kept hg hne, k⟩
theorem Tab.below {w w' : World} {b l} (h : Tab w b l) (hb : Below w.heap.size w w') : Tab w' b l :=
  h.kept (row := none) ⟨hb.os, hb.tape, hb.output, hb.size, fun k hk _ => hb.block k hk⟩ (by simp)
theorem Tab.below' {w w' : World} {b l n} (h : Tab w b l) (hb : Below n w w') (hn : b < n) : Tab w' b l := by
  obtain ⟨D, ⟨es, clock, h1, h2⟩, k⟩ := h
  exact ⟨D, ⟨es, clock, (hb.block b hn).trans h1, h2⟩, k⟩
theorem Tab.made (w : World) : Tab (w.alloc (.map #[] 0)) w.heap.size [] :=
  ⟨.map [], World.ownsMap_made _ _ _ _, fun s i m _ _ => ⟨rfl, rfl⟩⟩
theorem Tab.alloc {w b l} (h : Tab w b l) (o : Obj) : Tab (w.alloc o) b l := let ⟨D, h, k⟩ := h; ⟨D, h.alloc o, k⟩

theorem Tab.put {w : World} {b : Nat} {l : List (K3 × Int)} (h : Tab w b l) (s i x : Int) (m : Bool) (hs : W s) (hi : W i) (hl : l.length < 1000) :
    ∃ w', (Instr.mapUpdate 48 (.map (some b)) (key s i m) (.agg #[.int .i64 x])).run Try.prog w = .ok () w' ∧ Tab w' b (((s, i, m), x) :: l) ∧ w.grownBy w' (some b) := by
  obtain ⟨D, h, k⟩ := h
  obtain ⟨w', hr, ho, hg⟩ := h.update law59 Try.underlying48 (by unfold maxLen; omega) (keyOf59 s i m hs hi) (val := .agg #[.int .i64 x]) (d := .lit (.int .i64 x)) (ps := []) rfl
  refine ⟨w', hr, ⟨_, ho, fun s' i' m' hs' hi' => ?_⟩, hg⟩
  by_cases e : (s, i, m) = (s', i', m')
  · simp only [Prod.mk.injEq] at e
    obtain ⟨rfl, rfl, rfl⟩ := e
    rw [Maps.has_put_same h.isMap (law59.key (keyOf59 s i m hs hi)), Maps.atKey_put_same h.isMap (law59.key (keyOf59 s i m hs hi))]
    simp [lk]
  · have hne : KL s' i' m' ≠ KL s i m := fun h => e (KL_inj hs' hi' hs hi h).symm
    rw [Maps.has_put_other hne, Maps.atKey_put_other hne]
    have := k s' i' m' hs' hi'
    unfold lk
    rw [if_neg e]
    exact this

theorem wpList_put {ops : Array Oper} {rest : List Oper} {o : Oper} {a : Act} {Q : Exit → Act → World → Prop} {w : World} (hg : o.guard = none) (m x v : Operand) (hop : o.op = Op.mapUpdate 48 m x v)
    (b : Nat) (l : List (K3 × Int)) (hm : a.eval m = .map (some b)) (h : Tab w b l) (s i y : Int) (e : Bool) (hx : a.eval x = key s i e) (hv : a.eval v = .agg #[.int .i64 y]) (hs : W s) (hi : W i) (hl : l.length < 1000)
    (hK : ∀ w', Tab w' b (((s, i, e), y) :: l) → w.grownBy w' (some b) → wpList Try.prog ops Q rest (a.put o.dst undef) w') :
    wpList Try.prog ops Q (o :: rest) a w := by
  refine wpList_plain hg fun K' hK' => ?_
  obtain ⟨w', hrun, r1, r2⟩ := h.put s i y e hs hi hl
  unfold Oper.wp
  simp [execOp, hop, hm, hx, hv, hrun, Result.andThen]
  exact hK' _ _ (hK w' r1 r2)

theorem wpList_get {ops : Array Oper} {rest : List Oper} {o : Oper} {a : Act} {Q : Exit → Act → World → Prop} {w : World} (hg : o.guard = none) (m x : Operand) (hop : o.op = Op.lookup 48 m x true)
    (b : Nat) (l : List (K3 × Int)) (hm : a.eval m = .map (some b)) (h : Tab w b l) (s i : Int) (e : Bool) (hx : a.eval x = key s i e) (hs : W s) (hi : W i)
    (hK : wpList Try.prog ops Q rest (a.put o.dst (.tuple #[.agg #[.int .i64 ((lk l (s, i, e)).getD 0)], .bool (lk l (s, i, e)).isSome])) w) :
    wpList Try.prog ops Q (o :: rest) a w := by
  obtain ⟨D, ho, k⟩ := h
  obtain ⟨k1, k2⟩ := k s i e hs hi
  refine wpList_lookup_own_ok w hg m x 48 hop 59 57 law59 Try.underlying48 R (zero57 w) (.lit (.int .i64 0)) [] rfl b l.length D hm ho (key s i e) _ hx (keyOf59 s i e hs hi) fun v ps hv => ?_
  obtain ⟨n, rfl, hz⟩ := R_inv hv
  simp only [Prod.mk.injEq] at hz
  rw [k2] at hz
  have : (lk l (s, i, e)).getD 0 = n := by
    have := hz.1
    injection this with this
    injection this
  rw [k1, ← this]
  exact hK
end Go.Proofs.Ytddmodiogjnhmaa.PhA
