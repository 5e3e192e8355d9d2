/- Groups and the document's, one by one: the body of the round. -/
import Derived.Test.YtleflegbdnmgeaaGdL
import Derived.Test.YtleflegbdnmgeaaGdH
namespace Go.Proofs.Ytleflegbdnmgeaa.GdJ
open Go.ChangeShapes Go.WideShapes Go.ChangeAt Go.RowKit Go.Shelf
open GdT GdA GdB GdC GdD GdE GdQ
set_option linter.unusedVariables false
set_option maxHeartbeats 2000000
attribute [local go_sem] Oper.semAt_some

def isDef : Op → Bool
  | .defer _ => true
  | _ => false
theorem noDef {ops : Array Oper} (h : ops.all (fun o => !isDef o.op) = true) : ∀ o ∈ ops, ∀ c, o.op ≠ .defer c := by
  intro o ho c e
  rw [Array.all_eq_true'] at h
  have := h o ho
  rw [e] at this
  simp [isDef] at this

/-- Nothing is protected from a on, up to m. -/
def Gap (L : List B8) (a m : Nat) : Prop := a ≤ m ∧ prs L m = prs L a
theorem Gap.refl (L : List B8) (a : Nat) : Gap L a a := ⟨Nat.le_refl _, rfl⟩
theorem Gap.more {L : List B8} {a m : Nat} (h : Gap L a m) (hz : L.getD m 0 = 0) : Gap L a (m + 1) := ⟨by have := h.1; omega, by rw [prs_zero L m hz]; exact h.2⟩
theorem prs_pre (L : List B8) (j : Nat) : ∀ k, j ≤ k → prs L j <+: prs L k
  | 0, h => by obtain rfl : j = 0 := by omega
               exact List.prefix_rfl
  | k + 1, h => by
    by_cases e : j = k + 1
    · subst e; exact List.prefix_rfl
    · refine (prs_pre L j k (by omega)).trans ?_
      simp only [prs]
      exact List.prefix_append _ _
theorem good_next {L : List B8} {a m n : Nat} (h : Gap L a m) (hz : ¬ L.getD m 0 = 0) : prs L a ++ [(m, (L.getD m 0).toNat)] = prs L (m + 1) := by rw [prs_one L m hz, h.2]
theorem bad_end {L : List B8} {a n : Nat} (h : Gap L a n) (x : Nat × Nat) : ∀ k, k ≤ n → prs L a ++ [x] ≠ prs L k := by
  intro k hk e
  have h1 := (prs_pre L k n hk).length_le
  rw [← e, h.2] at h1
  rw [List.length_append] at h1
  simp only [List.length_cons, List.length_nil] at h1
  omega
theorem bad_next {L : List B8} {a m n : Nat} (h : Gap L a m) (hz : ¬ L.getD m 0 = 0) (x : Nat × Nat) (hx : ¬ x = (m, (L.getD m 0).toNat)) : ∀ k, k ≤ n → prs L a ++ [x] ≠ prs L k := by
  intro k hk e
  by_cases hkm : k ≤ m
  · have h1 := (prs_pre L k m hkm).length_le
    rw [← e, h.2] at h1
    rw [List.length_append] at h1
    simp only [List.length_cons, List.length_nil] at h1
    omega
  · have h1 := prs_pre L (m + 1) k (by omega)
    rw [← e, ← good_next (n := n) h hz] at h1
    have h2 := h1.eq_of_length (by simp)
    have h3 := List.append_cancel_left h2
    simp only [List.cons.injEq, and_true] at h3
    exact hx h3.symm

theorem all_zero {L : List B8} {a m n : Nat} (h : Gap L a m) (he : prs L n = prs L a) (hm : m < n) : L.getD m 0 = 0 := by
  by_cases hz : L.getD m 0 = 0
  · exact hz
  · have h1 := (prs_pre L (m + 1) n (by omega)).length_le
    rw [he, ← good_next (n := n) h hz, List.length_append] at h1
    simp only [List.length_cons, List.length_nil] at h1
    omega

/-- What the rounds stand on. -/
def St (b4 b6 b7 r s n : Nat) (L : List B8) (A : Nat) (W : World) : Prop :=
  W.cell? ⟨b4, 0, none⟩ = some (.pointer (some ⟨r, 0, none⟩)) ∧ (W.cell? ⟨b7, 0, none⟩ = some (.int .i64 A) ∧ W.frozen? ⟨b7, 0, none⟩ = false) ∧
  (W.cell? ⟨b6, 0, none⟩ = some (.bool false) ∧ W.frozen? ⟨b6, 0, none⟩ = false) ∧ W.cell? ⟨r, 0, none⟩ = some (.slice (some ⟨s, 0, none⟩) n n) ∧ (∀ k, k < n → W.cell? ⟨s, k, none⟩ = some (.int .i64 (L.getD k 0).toNat))
def Ap (b4 b6 b7 r s : Nat) : Prop := b7 ≠ b4 ∧ b7 ≠ b6 ∧ b7 ≠ r ∧ b7 ≠ s
theorem St.drew {b4 b6 b7 r s n L A W} (h : St b4 b6 b7 r s n L A W) : St b4 b6 b7 r s n L A W.drew := h
theorem St.put {b4 b6 b7 r s n L A W} (h : St b4 b6 b7 r s n L A W) (hA : Ap b4 b6 b7 r s) (B : Nat) : St b4 b6 b7 r s n L B (W.setCell ⟨b7, 0, none⟩ (.int .i64 B)) := by
  obtain ⟨h4, ⟨h7, f7⟩, ⟨h6, f6⟩, hr, hs⟩ := h
  obtain ⟨a1, a2, a3, a4⟩ := hA
  refine ⟨(World.cell?_setCell_other W ⟨b7, 0, none⟩ ⟨b4, 0, none⟩ _ (by first | (simp; done) | simpa using a1)).trans h4, ⟨World.cell?_setCell_same' W ⟨b7, 0, none⟩ _ (by rw [h7]; rfl), (World.frozen?_setCell W ⟨b7, 0, none⟩ _ _).trans f7⟩,
    ⟨(World.cell?_setCell_other W ⟨b7, 0, none⟩ ⟨b6, 0, none⟩ _ (by first | (simp; done) | simpa using a2)).trans h6, (World.frozen?_setCell W ⟨b7, 0, none⟩ _ _).trans f6⟩,
    (World.cell?_setCell_other W ⟨b7, 0, none⟩ ⟨r, 0, none⟩ _ (by first | (simp; done) | simpa using a3)).trans hr, fun k hk => (World.cell?_setCell_other W ⟨b7, 0, none⟩ ⟨s, k, none⟩ _ (by simp [a4])).trans (hs k hk)⟩

/-- What holds within a round. -/
def Inv (B Bk Wb b4 b6 b7 r s n : Nat) (w0 : World) (L : List B8) (A : Nat) (W wr : World) (m : Nat) : Prop :=
  m ≤ n ∧ Gap L A m ∧ St b4 b6 b7 r s n L m wr ∧ Below Wb w0 wr ∧ Kb Bk W wr ∧ KeepsFrom B W wr
section
variable {B Bk Wb b4 b6 b7 r s n : Nat} {w0 : World} {L : List B8} {A m : Nat} {W wr : World}
theorem Inv.drew (h : Inv B Bk Wb b4 b6 b7 r s n w0 L A W wr m) : Inv B Bk Wb b4 b6 b7 r s n w0 L A W wr.drew m :=
  ⟨h.1, h.2.1, h.2.2.1, h.2.2.2.1.drew, h.2.2.2.2.1, h.2.2.2.2.2.trans ((KeepsOthers.drew wr).from B)⟩
theorem Inv.put (h : Inv B Bk Wb b4 b6 b7 r s n w0 L A W wr m) (hap : Ap b4 b6 b7 r s) (hk : Bk ≠ b7) (hw : Wb ≤ b7) (hm : m + 1 ≤ n) (hz : L.getD m 0 = 0) : Inv B Bk Wb b4 b6 b7 r s n w0 L A W (wr.setCell ⟨b7, 0, none⟩ (.int .i64 (m + 1 : Nat))) (m + 1) :=
  ⟨hm, h.2.1.more hz, h.2.2.1.put hap _, h.2.2.2.1.setCell hw _, Eq.trans (Below.heap_setCell wr ⟨b7, 0, none⟩ _ Bk hk) h.2.2.2.2.1, h.2.2.2.2.2.trans ((KeepsOthers.setCell _ _ _).from B)⟩
theorem Inv.end_ (h : Inv B Bk Wb b4 b6 b7 r s n w0 L A W wr m) (hap : Ap b4 b6 b7 r s) (hk : Bk ≠ b7) (hw : Wb ≤ b7) (hm : m + 1 ≤ n) (hz : ¬ L.getD m 0 = 0) :
    KeepsFrom B W (wr.setCell ⟨b7, 0, none⟩ (.int .i64 (m + 1 : Nat))) ∧ Kb Bk W (wr.setCell ⟨b7, 0, none⟩ (.int .i64 (m + 1 : Nat))) ∧ (∃ A', A' ≤ n ∧ prs L A ++ [(m, (L.getD m 0).toNat)] = prs L A' ∧ St b4 b6 b7 r s n L A' (wr.setCell ⟨b7, 0, none⟩ (.int .i64 (m + 1 : Nat)))) ∧ Below Wb w0 (wr.setCell ⟨b7, 0, none⟩ (.int .i64 (m + 1 : Nat))) :=
  ⟨h.2.2.2.2.2.trans ((KeepsOthers.setCell _ _ _).from B), Eq.trans (Below.heap_setCell wr ⟨b7, 0, none⟩ _ Bk hk) h.2.2.2.2.1, ⟨m + 1, hm, good_next (n := n) h.2.1 hz, h.2.2.1.put hap _⟩, h.2.2.2.1.setCell hw _⟩
theorem Inv.bad (h : Inv B Bk Wb b4 b6 b7 r s n w0 L A W wr m) (u : Value) {X : Prop} (hx : X) : KeepsFrom B W (wr.setCell ⟨b6, 0, none⟩ u) ∧ X :=
  ⟨h.2.2.2.2.2.trans ((KeepsOthers.setCell _ _ _).from B), hx⟩
end

def cellN (b : Nat) (W : World) : Nat := match W.cell? ⟨b, 0, none⟩ with
  | some (.int _ z) => z.toNat
  | _ => 0

def rfBody : Code → Option Code
  | .seq a b => (rfBody a).or (rfBody b)
  | .block _ a => rfBody a
  | .rangeFunc _ _ _ b => some b
  | _ => none
noncomputable def body18 : Code := ((Try.f18.body).bind rfBody).getD .skip

end Go.Proofs.Ytleflegbdnmgeaa.GdJ
