/- Plain facts on the choice of blocks. No program. -/
namespace Go.Proofs.Ytbnjijlpbeplmaa.WearVM

structure Blk where
  (n live pages worn : Int)
  (opn one bad : Bool)
deriving DecidableEq

def zero : Blk := ⟨0, 0, 0, 0, false, false, false⟩
def right (b : Blk) : Bool := decide (0 ≤ b.n ∧ 1 ≤ b.pages ∧ b.pages ≤ 256 ∧ 0 ≤ b.live ∧ b.live ≤ b.pages ∧ 0 ≤ b.worn ∧ b.worn ≤ 1073741824)
def usable (b : Blk) : Bool := right b && !b.opn && !b.bad
def step (may : Blk → Bool) (ahead : Blk → Blk → Bool) (best b : Blk) : Blk := if may b && (decide (best = zero) || ahead b best) then b else best
def chosen (may : Blk → Bool) (ahead : Blk → Blk → Bool) (l : List Blk) : Blk := l.foldl (step may ahead) zero
def lessWorn (a b : Blk) : Bool := if a.worn = b.worn then decide (a.n < b.n) else decide (a.worn < b.worn)
def vAhead (a b : Blk) : Bool := if a.live * b.pages = b.live * a.pages then lessWorn a b else decide (a.live * b.pages < b.live * a.pages)
def fAhead (one : Bool) (a b : Blk) : Bool := if a.worn = b.worn ∧ a.one ≠ b.one then (a.one == one) else lessWorn a b
def empty (b : Blk) : Bool := usable b && decide (b.live = 0)
def live (b : Blk) : Bool := usable b && decide (0 < b.live)

theorem right_iff {b : Blk} : right b = true ↔ 0 ≤ b.n ∧ 1 ≤ b.pages ∧ b.pages ≤ 256 ∧ 0 ≤ b.live ∧ b.live ≤ b.pages ∧ 0 ≤ b.worn ∧ b.worn ≤ 1073741824 := by
  unfold right; exact decide_eq_true_iff
theorem usable_iff {b : Blk} : usable b = true ↔ right b = true ∧ b.opn = false ∧ b.bad = false := by
  unfold usable; cases right b <;> cases b.opn <;> cases b.bad <;> simp
theorem usable_ne {b : Blk} (h : usable b = true) : b ≠ zero := by
  intro e; subst e; revert h; decide
theorem empty_usable {b : Blk} (h : empty b = true) : usable b = true ∧ b.live = 0 := by
  unfold empty at h; simpa using h

/-- What a choice keeps. -/
theorem chosen_inv (may : Blk → Bool) (ahead : Blk → Blk → Bool) (R : Blk → Blk → Prop) (hne : ∀ b, may b = true → b ≠ zero)
    (hself : ∀ b, may b = true → R b b)
    (hyes : ∀ b best o, may b = true → may best = true → may o = true → ahead b best = true → R best o → R b o)
    (hno : ∀ b best, may b = true → may best = true → ahead b best = false → R best b)
    (l : List Blk) :
    (chosen may ahead l = zero ∧ ∀ o ∈ l, may o = false) ∨
    (chosen may ahead l ≠ zero ∧ may (chosen may ahead l) = true ∧ chosen may ahead l ∈ l ∧ ∀ o ∈ l, may o = true → R (chosen may ahead l) o) := by
  suffices H : ∀ (l p : List Blk) (best : Blk),
      ((best = zero ∧ ∀ o ∈ p, may o = false) ∨ (best ≠ zero ∧ may best = true ∧ best ∈ p ∧ ∀ o ∈ p, may o = true → R best o)) →
      ((l.foldl (step may ahead) best = zero ∧ ∀ o ∈ p ++ l, may o = false) ∨ (l.foldl (step may ahead) best ≠ zero ∧ may (l.foldl (step may ahead) best) = true ∧ l.foldl (step may ahead) best ∈ p ++ l ∧ ∀ o ∈ p ++ l, may o = true → R (l.foldl (step may ahead) best) o)) by
    simpa [chosen] using H l [] zero (.inl ⟨rfl, by simp⟩)
  intro l
  induction l with
  | nil => intro p best h; simpa using h
  | cons x l ih =>
    intro p best h
    rw [List.foldl_cons, show p ++ x :: l = (p ++ [x]) ++ l by simp]
    refine ih (p ++ [x]) (step may ahead best x) ?_
    unfold step
    cases hx : may x with
    | false =>
      simp only [Bool.false_and, Bool.false_eq_true, if_false]
      rcases h with ⟨h1, h2⟩ | ⟨h1, h2, h3, h4⟩
      · exact .inl ⟨h1, fun o ho => by rcases List.mem_append.1 ho with ho | ho; exact h2 o ho; simp at ho; subst ho; exact hx⟩
      · exact .inr ⟨h1, h2, by simp [h3], fun o ho hm => by rcases List.mem_append.1 ho with ho | ho; exact h4 o ho hm; simp at ho; subst ho; rw [hx] at hm; cases hm⟩
    | true =>
      rcases h with ⟨h1, h2⟩ | ⟨h1, h2, h3, h4⟩
      · rw [h1]
        simp only [decide_true, Bool.true_or, Bool.and_true, if_true]
        exact .inr ⟨hne x hx, hx, by simp, fun o ho hm => by rcases List.mem_append.1 ho with ho | ho; rw [h2 o ho] at hm; cases hm; simp at ho; subst ho; exact hself _ hx⟩
      · have e : decide (best = zero) = false := by simpa using h1
        rw [e]
        simp only [Bool.true_and, Bool.false_or]
        cases ha : ahead x best with
        | true =>
          rw [if_pos rfl]
          exact .inr ⟨hne x hx, hx, by simp, fun o ho hm => by rcases List.mem_append.1 ho with ho | ho; exact hyes x best o hx h2 hm ha (h4 o ho hm); simp at ho; subst ho; exact hself _ hx⟩
        | false =>
          rw [if_neg (by simp)]
          exact .inr ⟨h1, h2, by simp [h3], fun o ho hm => by rcases List.mem_append.1 ho with ho | ho; exact h4 o ho hm; simp at ho; subst ho; exact hno _ best hx h2 ha⟩

theorem frac_trans {x p y q z r : Int} (hp : 0 < p) (hq : 0 < q) (hr : 0 < r) (h1 : x * q ≤ y * p) (h2 : y * r ≤ z * q) : x * r ≤ z * p := by
  have a1 : x * q * r ≤ y * p * r := Int.mul_le_mul_of_nonneg_right h1 (by omega)
  have a2 : y * r * p ≤ z * q * p := Int.mul_le_mul_of_nonneg_right h2 (by omega)
  have a3 : x * r * q ≤ z * p * q := by
    calc x * r * q = x * q * r := by rw [Int.mul_assoc, Int.mul_comm r q, ← Int.mul_assoc]
      _ ≤ y * p * r := a1
      _ = y * r * p := by rw [Int.mul_assoc, Int.mul_comm p r, ← Int.mul_assoc]
      _ ≤ z * q * p := a2
      _ = z * p * q := by rw [Int.mul_assoc, Int.mul_comm q p, ← Int.mul_assoc]
  exact Int.le_of_mul_le_mul_right a3 hq

theorem pages_pos {b : Blk} (h : usable b = true) : 0 < b.pages := by
  have := right_iff.1 (usable_iff.1 h).1; omega

/-- The victim's block: least full. -/
theorem victim_inv (l : List Blk) :
    (chosen usable vAhead l = zero ∧ ∀ o ∈ l, usable o = false) ∨
    (chosen usable vAhead l ≠ zero ∧ usable (chosen usable vAhead l) = true ∧ chosen usable vAhead l ∈ l ∧ ∀ o ∈ l, usable o = true → (chosen usable vAhead l).live * o.pages ≤ o.live * (chosen usable vAhead l).pages) := by
  refine chosen_inv usable vAhead (fun b o => b.live * o.pages ≤ o.live * b.pages) (fun b => usable_ne) (fun b _ => Int.le_refl _) ?_ ?_ l
  · intro b best o h1 h2 h3 ha hr
    refine frac_trans (pages_pos h1) (pages_pos h2) (pages_pos h3) ?_ hr
    unfold vAhead at ha
    split at ha
    · omega
    · have := of_decide_eq_true ha; omega
  · intro b best h1 h2 ha
    show best.live * b.pages ≤ b.live * best.pages
    unfold vAhead at ha
    split at ha
    · omega
    · have := of_decide_eq_false ha; omega

theorem lessWorn_le {a b : Blk} (h : lessWorn a b = true) : a.worn ≤ b.worn := by
  unfold lessWorn at h
  split at h
  · omega
  · have := of_decide_eq_true h; omega
theorem lessWorn_ge {a b : Blk} (h : lessWorn a b = false) : b.worn ≤ a.worn := by
  unfold lessWorn at h
  split at h
  · omega
  · have := of_decide_eq_false h; omega

/-- The fresh block: least worn. -/
theorem fresh_inv (one : Bool) (l : List Blk) :
    (chosen empty (fAhead one) l = zero ∧ ∀ o ∈ l, empty o = false) ∨
    (chosen empty (fAhead one) l ≠ zero ∧ empty (chosen empty (fAhead one) l) = true ∧ chosen empty (fAhead one) l ∈ l ∧ ∀ o ∈ l, empty o = true → (chosen empty (fAhead one) l).worn ≤ o.worn) := by
  refine chosen_inv empty (fAhead one) (fun b o => b.worn ≤ o.worn) (fun b h => usable_ne (empty_usable h).1) (fun b _ => Int.le_refl _) ?_ ?_ l
  · intro b best o h1 h2 h3 ha hr
    have : b.worn ≤ best.worn := by
      unfold fAhead at ha
      split at ha
      · omega
      · exact lessWorn_le ha
    show b.worn ≤ o.worn
    have hr' : best.worn ≤ o.worn := hr
    omega
  · intro b best h1 h2 ha
    show best.worn ≤ b.worn
    unfold fAhead at ha
    split at ha
    · omega
    · exact lessWorn_ge ha
end Go.Proofs.Ytbnjijlpbeplmaa.WearVM
