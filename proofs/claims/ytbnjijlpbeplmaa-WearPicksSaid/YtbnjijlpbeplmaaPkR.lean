/- Regions that draw their order, walked by hand: operations whose guard is off, many at once. -/
import Derived.Deep.RegionHeld3
namespace Go.Proofs.Ytbnjijlpbeplmaa.PkR
open Go
set_option linter.unusedVariables false

section
variable {P : Program} {md : Region.Mode} {ops : Array Oper} {Q : Exit → Act → World → Prop} {S : World → Prop}
def skA : List (Nat × Tmp) → Act → Act
  | [], a => a
  | (_, d) :: is, a => skA is (a.put (some d) undef)
def skL : List (Nat × Tmp) → Array Bool → Array Bool
  | [], l => l
  | (i, _) :: is, l => skL is (l.setIfInBounds i true)
def skOk (md : Region.Mode) (ops : Array Oper) : List (Nat × Tmp) → Array Bool → Act → Bool
  | [], _, _ => true
  | (i, d) :: is, l, a => (match ops[i]? with
      | none => false
      | some o => Region.free md ops l i && ((Region.ready md ops l).contains i && (!Region.wanted o (yielded ops a.tmps) && (match o.dst with
          | some d' => d' == d
          | none => false)))) && skOk md ops is (l.setIfInBounds i true) (a.put (some d) undef)

/-- Operations whose guard is off come up first. -/
theorem skips (hn : Region.noSelect ops = true) (hQ : ∀ c d a w, Q (.panic c) (Act.put a (some d) undef) w → Q (.panic c) a w) : ∀ (is : List (Nat × Tmp)) (m n : Nat) (l : Array Bool) (a : Act) (w : World), n = m + is.length →
    skOk md ops is l a = true → S w → wpAnyH P md ops Q S m (skL is l) (skA is a) w → wpAnyH P md ops Q S n l a w
  | [], m, n, l, a, w, e, _, _, h => by
    obtain rfl : n = m := by simpa using e
    exact h
  | (i, d) :: is, m, n, l, a, w, e, hc, hS, h => by
    obtain ⟨n', rfl⟩ : ∃ n', n = n' + 1 := ⟨m + is.length, by simp at e; omega⟩
    have e' : n' = m + is.length := by simp at e; omega
    unfold skOk at hc
    rw [Bool.and_eq_true] at hc
    obtain ⟨h1, h2⟩ := hc
    cases ho : ops[i]? with
    | none => rw [ho] at h1; cases h1
    | some o =>
      rw [ho] at h1
      simp only [Bool.and_eq_true, Bool.not_eq_true'] at h1
      obtain ⟨hf, hr, hw, hd⟩ := h1
      cases hdd : o.dst with
      | none => rw [hdd] at hd; cases hd
      | some d' =>
        rw [hdd] at hd
        have hd2 : d' = d := by simpa using hd
        subst hd2
        refine wpAnyH_take (i := i) (oi := o) (v := undef) ho hn hf (by simpa using hr) (fun c a w => by rw [hdd]; exact hQ c _ a w) (Or.inr ⟨hw, rfl⟩) hS ?_
        rw [hdd]
        exact skips hn hQ is m n' _ _ w e' h2 hS h

/-- One comes up first. -/
theorem tk (i : Nat) {oi : Oper} {v : Value} {fuel : Nat} {listed : Array Bool} {a : Act} {w : World} (hi : ops[i]? = some oi)
    (hc : (Region.noSelect ops && (Region.free md ops listed i && (Region.ready md ops listed).contains i)) = true)
    (hQ : ∀ c a w, Q (.panic c) (a.put oi.dst v) w → Q (.panic c) a w) (hw : Region.wanted oi (yielded ops a.tmps) = true) (hS : S w) (hy : ∀ w, S w → (execOp a.eval oi).run P w = .ok (.value v) w)
    (h : wpAnyH P md ops Q S fuel (listed.setIfInBounds i true) (a.put oi.dst v) w) : wpAnyH P md ops Q S (fuel + 1) listed a w := by
  simp only [Bool.and_eq_true] at hc
  exact wpAnyH_take (i := i) hi hc.1 hc.2.1 hc.2.2 hQ (Or.inl ⟨hw, hy⟩) hS h
end
end Go.Proofs.Ytbnjijlpbeplmaa.PkR
