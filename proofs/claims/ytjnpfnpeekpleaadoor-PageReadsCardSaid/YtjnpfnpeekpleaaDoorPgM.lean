/- Pages: plain facts. -/
import Derived.Test.YtjnpfnpeekpleaaDoorEcFM
namespace Go.Proofs.YtjnpfnpeekpleaaDoor.PgM
open Go.ChangeShapes Go.WideShapes Go.ChangeAt Go.RowKit
open EcM EcA EcB EcC EcT EcX EcY EcZ EcWM EcFM
set_option linter.unusedVariables false
set_option maxHeartbeats 1000000

def padT (l : List B8) (m : Nat) : List B8 := l ++ List.replicate (m - l.length) 0
theorem padT_len (l : List B8) (m : Nat) (h : l.length ≤ m) : (padT l m).length = m := by simp [padT]; omega
def ch (p : List B8) (i : Nat) : List B8 := (p.drop (64 * i)).take 64
theorem ch_len (p : List B8) (i k : Nat) (h : p.length = 64 * k) (hi : i < k) : (ch p i).length = 64 := by simp [ch]; omega
def one (p : List B8) (i : Nat) : List B8 := ch p i ++ (wordsTo (ch p i) 8 ++ [0])
theorem one_len (p : List B8) (i k : Nat) (h : p.length = 64 * k) (hi : i < k) : (one p i).length = 73 := by
  simp [one, ch_len p i k h hi, wordsTo_len]
def layK (p : List B8) : Nat → List B8
  | 0 => []
  | j + 1 => layK p j ++ one p j
theorem layK_len (p : List B8) (k : Nat) (h : p.length = 64 * k) : ∀ j, j ≤ k → (layK p j).length = 73 * j
  | 0, _ => rfl
  | j + 1, hj => by rw [layK, List.length_append, layK_len p k h j (by omega), one_len p j k h (by omega)]; omega
theorem layK_split (p : List B8) (i : Nat) : ∀ k, i < k → ∃ r, layK p k = layK p i ++ (one p i ++ r)
  | 0, h => absurd h (by omega)
  | k + 1, h => by
    by_cases e : i = k
    · subst e; exact ⟨[], by simp [layK]⟩
    · obtain ⟨r, hr⟩ := layK_split p i k (by omega)
      exact ⟨r ++ one p k, by rw [layK, hr]; simp⟩

/-- A chunk's data, its checks, its mark. -/
def dt (r : List B8) (i : Nat) : List B8 := (r.drop (73 * i)).take 64
def sm (r : List B8) (i : Nat) : List B8 := (r.drop (73 * i + 64)).take 8
def mk (r : List B8) (i : Nat) : B8 := r.getD (73 * i + 72) 0
theorem dt_len (r : List B8) (i k : Nat) (h : r.length = 73 * k) (hi : i < k) : (dt r i).length = 64 := by simp [dt]; omega
theorem sm_len (r : List B8) (i k : Nat) (h : r.length = 73 * k) (hi : i < k) : (sm r i).length = 8 := by simp [sm]; omega
theorem lay_parts (p : List B8) (k i : Nat) (h : p.length = 64 * k) (hi : i < k) : dt (layK p k) i = ch p i ∧ sm (layK p k) i = wordsTo (ch p i) 8 ∧ mk (layK p k) i = 0 := by
  obtain ⟨r, hr⟩ := layK_split p i k hi
  have hl := layK_len p k h i (by omega)
  have hc := ch_len p i k h hi
  have hw : (wordsTo (ch p i) 8).length = 8 := wordsTo_len _ _
  have e1 : (layK p k).drop (73 * i) = one p i ++ r := by rw [hr, List.drop_append_of_le_length (by omega), List.drop_of_length_le (by omega), List.nil_append]
  have e2 : (layK p k).drop (73 * i + 64) = wordsTo (ch p i) 8 ++ ([0] ++ r) := by
    rw [← List.drop_drop, e1]
    unfold one
    rw [List.append_assoc, List.drop_append_of_le_length (by omega), List.drop_of_length_le (by omega), List.nil_append, List.append_assoc]
  refine ⟨?_, ?_, ?_⟩
  · unfold dt
    rw [e1]
    unfold one
    rw [List.append_assoc, List.take_append_of_le_length (by omega), List.take_of_length_le (by omega)]
  · unfold sm
    rw [e2, List.take_append_of_le_length (by omega), List.take_of_length_le (by omega)]
  · unfold mk
    have e3 : (layK p k).getD (73 * i + 72) 0 = ((layK p k).drop (73 * i + 64)).getD 8 0 := by
      simp [List.getD_eq_getElem?_getD]
    rw [e3, e2, List.getD_eq_getElem?_getD, List.getElem?_append_right (by omega), hw]
    rfl
theorem ch_join (p : List B8) (k : Nat) (h : p.length = 64 * k) : ∀ j, j ≤ k → (List.range j).flatMap (ch p) = p.take (64 * j)
  | 0, _ => by simp
  | j + 1, hj => by
    rw [List.range_succ, List.flatMap_append, ch_join p k h j (by omega), List.flatMap_singleton]
    unfold ch
    rw [show 64 * (j + 1) = 64 * j + 64 by omega, List.take_add]

def marked (b : B8) : Bool := decide (pc b.toNat ≤ 4)
def marks (r : List B8) : Nat → Nat
  | 0 => 0
  | j + 1 => marks r j + if marked (mk r j) = true then 1 else 0
theorem marks_le (r : List B8) : ∀ j, marks r j ≤ j
  | 0 => Nat.le_refl _
  | j + 1 => by have := marks_le r j; unfold marks; split <;> omega
theorem marks_all (r : List B8) : ∀ k, (∀ i, i < k → marked (mk r i) = true) → marks r k = k
  | 0, _ => rfl
  | k + 1, h => by rw [marks, marks_all r k (fun i hi => h i (by omega)), if_pos (h k (by omega))]
def shaped (r : List B8) : Prop := r.length % 73 = 0 ∧ 1 ≤ r.length / 73 ∧ r.length / 73 ≤ 8
instance (r : List B8) : Decidable (shaped r) := by unfold shaped; exact inferInstance
def stateOf (r : List B8) : Nat := if ¬ shaped r then 3 else if marks r (r.length / 73) = 0 then 0 else if marks r (r.length / 73) = r.length / 73 then 2 else 1

/-- What is read of chunks. -/
def outK (r : List B8) : Nat → List B8
  | 0 => []
  | j + 1 => outK r j ++ outTo (dt r j) (sm r j) 8
def cntK (r : List B8) : Nat → Nat
  | 0 => 0
  | j + 1 => cntK r j + cntTo (dt r j) (sm r j) 8
theorem outK_len (r : List B8) : ∀ j, (outK r j).length = 64 * j
  | 0 => rfl
  | j + 1 => by rw [outK, List.length_append, outK_len r j, outTo_len]; omega
theorem cntK_le (r : List B8) : ∀ j, cntK r j ≤ 8 * j
  | 0 => Nat.le_refl _
  | j + 1 => by have := cntK_le r j; have := cntTo_le (dt r j) (sm r j) 8; unfold cntK; omega
def GoodK (r : List B8) (k : Nat) : Prop := ∀ i, i < k → EcWM.Good (dt r i) (sm r i)
/-- What a read tells. -/
def Told (r : List B8) (b : Int) (o : List B8) (n s : Nat) : Prop :=
  (stateOf r ≠ 2 ∧ o = [] ∧ n = 0 ∧ s = stateOf r) ∨
  (stateOf r = 2 ∧ ((b < 0 ∨ 64 * (r.length / 73 : Nat) < b) ∨ ¬ GoodK r (r.length / 73)) ∧ o = [] ∧ n = 0 ∧ s = 3) ∨
  (stateOf r = 2 ∧ 0 ≤ b ∧ b ≤ 64 * (r.length / 73 : Nat) ∧ GoodK r (r.length / 73) ∧ o = (outK r (r.length / 73)).take b.toNat ∧ n = cntK r (r.length / 73) ∧ s = 2)
theorem Told.one {r : List B8} {b : Int} {o o' : List B8} {n n' s s' : Nat} (h : Told r b o n s) (h' : Told r b o' n' s') : o = o' ∧ n = n' ∧ s = s' := by
  rcases h with ⟨h1, rfl, rfl, rfl⟩ | ⟨h1, h2, rfl, rfl, rfl⟩ | ⟨h1, h2, h3, h4, rfl, rfl, rfl⟩ <;> rcases h' with ⟨g1, rfl, rfl, rfl⟩ | ⟨g1, g2, rfl, rfl, rfl⟩ | ⟨g1, g2, g3, g4, rfl, rfl, rfl⟩
  · exact ⟨rfl, rfl, rfl⟩
  · exact absurd g1 h1
  · exact absurd g1 h1
  · exact absurd h1 g1
  · exact ⟨rfl, rfl, rfl⟩
  · exact absurd h2 (by intro e; rcases e with e | e; omega; exact e g4)
  · exact absurd h1 g1
  · exact absurd g2 (by intro e; rcases e with e | e; omega; exact e h4)
  · exact ⟨rfl, rfl, rfl⟩

theorem lay_state (p : List B8) (k : Nat) (h : p.length = 64 * k) (h1 : 1 ≤ k) (h8 : k ≤ 8) : stateOf (layK p k) = 2 ∧ (layK p k).length / 73 = k := by
  have hl := layK_len p k h k (Nat.le_refl _)
  have hd : (layK p k).length / 73 = k := by omega
  have hs : shaped (layK p k) := ⟨by omega, by omega, by omega⟩
  have hm := marks_all (layK p k) k (fun i hi => by rw [(lay_parts p k i h hi).2.2]; decide)
  refine ⟨?_, hd⟩
  unfold stateOf
  rw [if_neg (fun e => e hs), hd, hm, if_neg (by omega), if_pos rfl]
theorem lay_good (p : List B8) (k : Nat) (h : p.length = 64 * k) : ∀ i, i < k → Of (ch p i) (dt (layK p k) i) (sm (layK p k) i) 8 (fun _ => none) := fun i hi => by
  obtain ⟨e1, e2, _⟩ := lay_parts p k i h hi
  rw [e1, e2]
  exact Of.start _ 8 (by rw [ch_len p i k h hi])
theorem lay_out (p : List B8) (k : Nat) (h : p.length = 64 * k) : ∀ j, j ≤ k → outK (layK p k) j = p.take (64 * j) ∧ cntK (layK p k) j = 0
  | 0, _ => by simp [outK, cntK]
  | j + 1, hj => by
    obtain ⟨h1, h2⟩ := lay_out p k h j (by omega)
    have hO := lay_good p k h j (by omega)
    have hc := ch_len p j k h (by omega)
    have ht : turns (fun _ => none) 8 = 0 := rfl
    rw [outK, cntK, h1, h2, hO.out (by rw [hc]), hO.cnt 8 (Nat.le_refl _), ht]
    refine ⟨?_, rfl⟩
    unfold ch
    rw [show 64 * (j + 1) = 64 * j + 64 by omega, List.take_add]
/-- What was laid is read. -/
theorem lay_told (l : List B8) (k : Nat) (hl : l.length ≤ 64 * k) (h1 : 1 ≤ k) (h8 : k ≤ 8) (b : Int) (hb0 : 0 ≤ b) (hb1 : b ≤ 64 * k) {o : List B8} {n s : Nat} (h : Told (layK (padT l (64 * k)) k) b o n s) :
    o = (padT l (64 * k)).take b.toNat ∧ n = 0 ∧ s = 2 := by
  have hp := padT_len l (64 * k) hl
  obtain ⟨hs, hd⟩ := lay_state (padT l (64 * k)) k hp h1 h8
  obtain ⟨ho, hc⟩ := lay_out (padT l (64 * k)) k hp k (Nat.le_refl _)
  have hG : GoodK (layK (padT l (64 * k)) k) k := fun i hi => (lay_good (padT l (64 * k)) k hp i hi).good
  have := h.one (.inr (.inr ⟨hs, hb0, by rw [hd]; exact hb1, by rw [hd]; exact hG, rfl, rfl, rfl⟩))
  obtain ⟨e1, e2, e3⟩ := this
  rw [hd] at e1 e2
  have e4 : (padT l (64 * k)).take (64 * k) = padT l (64 * k) := List.take_of_length_le (by omega)
  rw [ho, e4] at e1
  rw [hc] at e2
  exact ⟨e1, e2, e3⟩
end Go.Proofs.YtjnpfnpeekpleaaDoor.PgM
