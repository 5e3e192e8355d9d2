/- Plain facts on the law of victims. No program. -/
import Derived.Test.YtbnjijlpbeplmaaWearVM
namespace Go.Proofs.Ytbnjijlpbeplmaa.WearV1
open WearVM

def victimOf (l : List Blk) : Int × Bool := if chosen usable vAhead l = zero ∨ (chosen usable vAhead l).live = (chosen usable vAhead l).pages then (0, false) else ((chosen usable vAhead l).n, true)
def freshOf (one : Bool) (l : List Blk) : Int × Bool := ((chosen empty (fAhead one) l).n, decide (chosen empty (fAhead one) l ≠ zero))

def leastOf (b o : Blk) : Bool := !usable o || decide (b.live * o.pages ≤ o.live * b.pages)
def leastV (b : Blk) (l : List Blk) : Bool := l.all (leastOf b)
def fullOf (b : Blk) : Bool := !usable b || (b.live == b.pages)
def fullV (l : List Blk) : Bool := l.all fullOf
def foundOf (n : Int) (l : List Blk) (b : Blk) : Bool := usable b && ((b.n == n) && (decide (b.live < b.pages) && leastV b l))
def foundV (n : Int) (l m : List Blk) : Bool := m.any (foundOf n l)

theorem all_snoc (f : Blk → Bool) (l : List Blk) (k : Nat) (h : k < l.length) : (l.take (k + 1)).all f = ((l.take k).all f && f (l.getD k zero)) := by
  rw [List.take_succ_eq_append_getElem h, List.all_append]
  simp [h]
theorem any_snoc (f : Blk → Bool) (l : List Blk) (k : Nat) (h : k < l.length) : (l.take (k + 1)).any f = ((l.take k).any f || f (l.getD k zero)) := by
  rw [List.take_succ_eq_append_getElem h, List.any_append]
  simp [h]
theorem usable_le {b : Blk} (h : usable b = true) : b.live ≤ b.pages := (right_iff.1 (usable_iff.1 h).1).2.2.2.2.1

theorem lawFalse (l : List Blk) (h : (victimOf l).2 = false) : (victimOf l).1 = 0 ∧ fullV l = true := by
  unfold victimOf at h ⊢
  by_cases hh : chosen usable vAhead l = zero ∨ (chosen usable vAhead l).live = (chosen usable vAhead l).pages
  · rw [if_pos hh]
    refine ⟨rfl, ?_⟩
    unfold fullV
    rw [List.all_eq_true]
    intro o ho
    unfold fullOf
    cases hu : usable o with
    | false => rfl
    | true =>
      rcases victim_inv l with ⟨h1, h2⟩ | ⟨h1, h2, h3, h4⟩
      · rw [h2 o ho] at hu; cases hu
      · rcases hh with hh | hh
        · exact absurd hh h1
        · have e := h4 o ho hu
          rw [hh] at e
          have hp := pages_pos h2
          have e2 : o.pages ≤ o.live := by
            rw [Int.mul_comm] at e
            exact Int.le_of_mul_le_mul_right e hp
          have := usable_le hu
          simp; omega
  · rw [if_neg hh] at h
    cases h

theorem lawTrue (l : List Blk) (h : (victimOf l).2 = true) : fullV l = false ∧ foundV (victimOf l).1 l l = true := by
  unfold victimOf at h ⊢
  by_cases hh : chosen usable vAhead l = zero ∨ (chosen usable vAhead l).live = (chosen usable vAhead l).pages
  · rw [if_pos hh] at h
    cases h
  · rw [if_neg hh]
    have hz : chosen usable vAhead l ≠ zero := fun e => hh (.inl e)
    have hl : (chosen usable vAhead l).live ≠ (chosen usable vAhead l).pages := fun e => hh (.inr e)
    rcases victim_inv l with ⟨h1, h2⟩ | ⟨h1, h2, h3, h4⟩
    · exact absurd h1 hz
    · constructor
      · unfold fullV
        rw [List.all_eq_false]
        refine ⟨_, h3, ?_⟩
        unfold fullOf
        rw [h2]
        simpa using hl
      · unfold foundV
        rw [List.any_eq_true]
        refine ⟨_, h3, ?_⟩
        unfold foundOf
        have hle := usable_le h2
        have h5 : leastV (chosen usable vAhead l) l = true := by
          unfold leastV
          rw [List.all_eq_true]
          intro o ho
          unfold leastOf
          cases hu : usable o with
          | false => rfl
          | true => simpa using h4 o ho hu
        rw [h2, h5]
        simp; omega

def leastF (b o : Blk) : Bool := !empty o || decide (b.worn ≤ o.worn)
def anyF (l : List Blk) : Bool := l.any empty
def foundOfF (n : Int) (l : List Blk) (b : Blk) : Bool := empty b && ((b.n == n) && l.all (leastF b))
def foundF (n : Int) (l m : List Blk) : Bool := m.any (foundOfF n l)

theorem freshFalse (one : Bool) (l : List Blk) (h : (freshOf one l).2 = false) : (freshOf one l).1 = 0 ∧ anyF l = false := by
  unfold freshOf at h ⊢
  have hz : chosen empty (fAhead one) l = zero := by simpa using h
  rcases fresh_inv one l with ⟨h1, h2⟩ | ⟨h1, _⟩
  · refine ⟨by rw [hz]; rfl, ?_⟩
    unfold anyF
    rw [List.any_eq_false]
    intro o ho
    rw [h2 o ho]; simp
  · exact absurd hz h1
theorem freshTrue (one : Bool) (l : List Blk) (h : (freshOf one l).2 = true) : anyF l = true ∧ foundF (freshOf one l).1 l l = true := by
  unfold freshOf at h ⊢
  have hz : chosen empty (fAhead one) l ≠ zero := by simpa using h
  rcases fresh_inv one l with ⟨h1, h2⟩ | ⟨h1, h2, h3, h4⟩
  · exact absurd h1 hz
  · constructor
    · unfold anyF
      rw [List.any_eq_true]
      exact ⟨_, h3, h2⟩
    · unfold foundF
      rw [List.any_eq_true]
      refine ⟨_, h3, ?_⟩
      unfold foundOfF
      have h5 : l.all (leastF (chosen empty (fAhead one) l)) = true := by
        rw [List.all_eq_true]
        intro o ho
        unfold leastF
        cases hu : empty o with
        | false => rfl
        | true => simpa using h4 o ho hu
      rw [h2, h5]
      simp
end Go.Proofs.Ytbnjijlpbeplmaa.WearV1
