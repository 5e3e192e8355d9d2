/- One bit turned in each word of a page, and in each mark: plain facts. -/
import Derived.Test.YtjnpfnpeekpleaaDoorPgE
import Derived.Test.YtjnpfnpeekpleaaDoorPgF
namespace Go.Proofs.YtjnpfnpeekpleaaDoor.PgO
open Go.ChangeShapes Go.WideShapes Go.ChangeAt Go.RowKit
open EcM EcA EcB EcC EcT EcX EcY EcZ EcWM EcWP EcWR EcFM PgM PgA PgB PgC PgD PgE PgF
set_option linter.unusedVariables false
set_option maxHeartbeats 2000000

def bitB (s : Nat) : B8 := BitVec.ofNat 8 (2 ^ s)
theorem dt_set (xs : List B8) (p j : Nat) (y : B8) : dt (xs.set p y) j = if 73 * j ≤ p ∧ p < 73 * j + 64 then (dt xs j).set (p - 73 * j) y else dt xs j := by
  unfold dt
  refine List.ext_getElem ?_ fun i h1 h2 => ?_
  · split <;> simp
  · have hi : i < 64 ∧ 73 * j + i < xs.length := by simp at h1; omega
    by_cases e : 73 * j ≤ p ∧ p < 73 * j + 64
    · simp only [if_pos e, List.getElem_take, List.getElem_drop, List.getElem_set]
      by_cases e2 : p = 73 * j + i
      · rw [if_pos e2, if_pos (by omega)]
      · rw [if_neg e2, if_neg (by omega)]
    · simp only [if_neg e, List.getElem_take, List.getElem_drop, List.getElem_set]
      rw [if_neg (by omega)]
theorem sm_set (xs : List B8) (p j : Nat) (y : B8) : sm (xs.set p y) j = if 73 * j + 64 ≤ p ∧ p < 73 * j + 72 then (sm xs j).set (p - (73 * j + 64)) y else sm xs j := by
  unfold sm
  refine List.ext_getElem ?_ fun i h1 h2 => ?_
  · split <;> simp
  · have hi : i < 8 ∧ 73 * j + 64 + i < xs.length := by simp at h1; omega
    by_cases e : 73 * j + 64 ≤ p ∧ p < 73 * j + 72
    · simp only [if_pos e, List.getElem_take, List.getElem_drop, List.getElem_set]
      by_cases e2 : p = 73 * j + 64 + i
      · rw [if_pos e2, if_pos (by omega)]
      · rw [if_neg e2, if_neg (by omega)]
    · simp only [if_neg e, List.getElem_take, List.getElem_drop, List.getElem_set]
      rw [if_neg (by omega)]
theorem dt_get (xs : List B8) (j i : Nat) (h : i < 64) : (dt xs j).getD i 0 = xs.getD (73 * j + i) 0 := by
  unfold dt
  simp [List.getD_eq_getElem?_getD, h]
theorem sm_get (xs : List B8) (j i : Nat) (h : i < 8) : (sm xs j).getD i 0 = xs.getD (73 * j + 64 + i) 0 := by
  unfold sm
  simp [List.getD_eq_getElem?_getD, h]

theorem turns_upd (f : Nat → Option Nat) (i b : Nat) (h : f i = none) : ∀ m, turns (fun j => if j = i then some b else f j) m = turns f m + if i < m then 1 else 0
  | 0 => by simp [turns]
  | m + 1 => by
    rw [turns, turns, turns_upd f i b h m]
    by_cases e : m = i
    · subst e; rw [if_pos rfl, h]; simp
    · rw [if_neg e]
      by_cases e2 : i < m
      · rw [if_pos e2, if_pos (show i < m + 1 by omega)]; omega
      · rw [if_neg e2, if_neg (show ¬ i < m + 1 by omega)]; omega

/-- How many bits are turned in all. -/
def tot (F : Nat → Nat → Option Nat) : Nat → Nat
  | 0 => 0
  | k + 1 => tot F k + turns (F k) 8
def upd (F : Nat → Nat → Option Nat) (c i b : Nat) : Nat → Nat → Option Nat := fun j p => if j = c then (if p = i then some b else F c p) else F j p
theorem tot_upd (F : Nat → Nat → Option Nat) (c i b : Nat) (hi : i < 8) (h : F c i = none) : ∀ k, tot (upd F c i b) k = tot F k + if c < k then 1 else 0
  | 0 => by simp [tot]
  | k + 1 => by
    rw [tot, tot, tot_upd F c i b hi h k]
    by_cases e : k = c
    · subst e
      have e1 : upd F k i b k = fun j => if j = i then some b else F k j := by funext p; unfold upd; rw [if_pos rfl]
      rw [e1, turns_upd (F k) i b h 8, if_pos hi, if_neg (by omega), if_pos (by omega)]
      omega
    · have e1 : upd F c i b k = F k := by funext p; unfold upd; rw [if_neg e]
      rw [e1]
      by_cases e2 : c < k
      · rw [if_pos e2, if_pos (show c < k + 1 by omega)]; omega
      · rw [if_neg e2, if_neg (show ¬ c < k + 1 by omega)]; omega

/-- A page of which at most one bit of each word, and of each mark, was turned: up to place i. -/
def St (p ys : List B8) (k i : Nat) (F : Nat → Nat → Option Nat) : Prop :=
  ys.length = 73 * k ∧ (∀ j, j < k → Of (ch p j) (dt ys j) (sm ys j) 8 (F j)) ∧ (∀ j q, i ≤ 9 * j + q → F j q = none) ∧ (∀ j, j < k → marked (mk ys j) = true) ∧ ∀ j, j < k → i ≤ 9 * j + 8 → mk ys j = 0
theorem St.start (p : List B8) (k : Nat) (h : p.length = 64 * k) : St p (layK p k) k 0 (fun _ _ => none) :=
  ⟨layK_len p k h k (Nat.le_refl _), fun j hj => lay_good p k h j hj, fun _ _ _ => rfl, fun j hj => by rw [(lay_parts p k j h hj).2.2]; decide, fun j hj _ => (lay_parts p k j h hj).2.2⟩
theorem St.skip {p ys : List B8} {k i : Nat} {F : Nat → Nat → Option Nat} (h : St p ys k i F) : St p ys k (i + 1) F :=
  ⟨h.1, h.2.1, fun j q hq => h.2.2.1 j q (by omega), h.2.2.2.1, fun j hj hi => h.2.2.2.2 j hj (by omega)⟩
theorem St.mark {p ys : List B8} {k i c s : Nat} {F : Nat → Nat → Option Nat} (h : St p ys k i F) (hc : c < k) (hi : i = 9 * c + 8) (hs : s < 8) :
    St p (ys.set (73 * c + 72) (ys.getD (73 * c + 72) 0 ^^^ bitB s)) k (i + 1) F := by
  obtain ⟨h1, h2, h3, h4, h5⟩ := h
  have hl : 73 * c + 72 < ys.length := by omega
  have h0 : ys.getD (73 * c + 72) 0 = 0 := h5 c hc (by omega)
  refine ⟨by rw [List.length_set]; exact h1, fun j hj => ?_, fun j q hq => h3 j q (by omega), fun j hj => ?_, fun j hj hji => ?_⟩
  · rw [dt_set, sm_set, if_neg (by omega), if_neg (by omega)]; exact h2 j hj
  · rw [mk_set _ _ _ _ hl, h0]
    by_cases e : 73 * j + 72 = 73 * c + 72
    · rw [if_pos e]; exact (turn_mark s hs).1
    · rw [if_neg e]; exact h4 j hj
  · rw [mk_set _ _ _ _ hl, if_neg (by omega)]; exact h5 j hj (by omega)
theorem St.word {p ys : List B8} {k i c a b : Nat} {F : Nat → Nat → Option Nat} (h : St p ys k i F) (hc : c < k) (ha : a < 8) (hi : i = 9 * c + a) (hb : b < 72) (q : Nat) (hq : q = if b < 64 then 73 * c + (8 * a + b / 8) else 73 * c + 64 + a) (s : Nat) (hs : s = if b < 64 then b % 8 else b - 64) :
    St p (ys.set q (ys.getD q 0 ^^^ bitB s)) k (i + 1) (upd F c a b) := by
  obtain ⟨h1, h2, h3, h4, h5⟩ := h
  have hl : q < ys.length := by rw [hq]; split <;> omega
  have hr72 : ∃ r, r < 72 ∧ q = 73 * c + r := by
    rw [hq]
    by_cases e : b < 64
    · rw [if_pos e]; exact ⟨8 * a + b / 8, by omega, rfl⟩
    · rw [if_neg e]; exact ⟨64 + a, by omega, by omega⟩
  have hm : ∀ j, mk (ys.set q (ys.getD q 0 ^^^ bitB s)) j = mk ys j := fun j => by
    obtain ⟨r, hr, hqr⟩ := hr72
    rw [mk_set _ _ _ _ hl, if_neg (by omega)]
  refine ⟨by rw [List.length_set]; exact h1, fun j hj => ?_, fun j r hr => ?_, fun j hj => by rw [hm]; exact h4 j hj, fun j hj hji => by rw [hm]; exact h5 j hj (by omega)⟩
  · by_cases e : j = c
    · subst e
      have hF := (h2 j hj).flip a b ha hb (h3 j a (by omega))
      have e1 : upd F j a b j = fun r => if r = a then some b else F j r := by funext r; unfold upd; rw [if_pos rfl]
      rw [e1]
      by_cases e3 : b < 64
      · rw [if_pos e3] at hq hs
        have hd : dt (ys.set q (ys.getD q 0 ^^^ bitB s)) j = flipX (dt ys j) a b := by
          rw [dt_set, if_pos (by omega)]
          unfold flipX
          rw [if_pos e3, dt_get _ _ _ (by omega), hs, show q - 73 * j = 8 * a + b / 8 by omega, ← hq]
          rfl
        have hs2 : sm (ys.set q (ys.getD q 0 ^^^ bitB s)) j = flipC (sm ys j) a b := by
          rw [sm_set, if_neg (by omega)]
          unfold flipC
          rw [if_pos e3]
        rw [hd, hs2]
        exact hF
      · rw [if_neg e3] at hq hs
        have hd : dt (ys.set q (ys.getD q 0 ^^^ bitB s)) j = flipX (dt ys j) a b := by
          rw [dt_set, if_neg (by omega)]
          unfold flipX
          rw [if_neg e3]
        have hs2 : sm (ys.set q (ys.getD q 0 ^^^ bitB s)) j = flipC (sm ys j) a b := by
          rw [sm_set, if_pos (by omega)]
          unfold flipC
          rw [if_neg e3, sm_get _ _ _ ha, hs, show q - (73 * j + 64) = a by omega, ← hq]
          rfl
        rw [hd, hs2]
        exact hF
    · have e1 : upd F c a b j = F j := by funext r; unfold upd; rw [if_neg e]
      rw [e1, dt_set, sm_set, if_neg (by rw [hq]; split <;> omega), if_neg (by rw [hq]; split <;> omega)]
      exact h2 j hj
  · unfold upd
    split
    · rename_i e
      subst e
      rw [if_neg (by omega)]
      exact h3 j r (by omega)
    · exact h3 j r (by omega)
theorem St.out {p ys : List B8} {k i : Nat} {F : Nat → Nat → Option Nat} (h : St p ys k i F) (hp : p.length = 64 * k) : ∀ j, j ≤ k → outK ys j = p.take (64 * j) ∧ cntK ys j = tot F j
  | 0, _ => by simp [outK, cntK, tot]
  | j + 1, hj => by
    obtain ⟨h1, h2⟩ := h.out hp j (by omega)
    have hO := h.2.1 j (by omega)
    have hc := ch_len p j k hp (by omega)
    rw [outK, cntK, tot, h1, h2, hO.out (by rw [hc]), hO.cnt 8 (Nat.le_refl _)]
    refine ⟨?_, rfl⟩
    unfold ch
    rw [show 64 * (j + 1) = 64 * j + 64 by omega, List.take_add]
theorem St.told {p ys : List B8} {k i : Nat} {F : Nat → Nat → Option Nat} (h : St p ys k i F) (hp : p.length = 64 * k) (h1 : 1 ≤ k) (h8 : k ≤ 8) (b : Int) (hb0 : 0 ≤ b) (hb1 : b ≤ 64 * k) {o : List B8} {n s : Nat} (ht : PgM.Told ys b o n s) :
    o = p.take b.toNat ∧ n = tot F k ∧ s = 2 := by
  have hl := h.1
  have hd : ys.length / 73 = k := by omega
  have hsh : shaped ys := ⟨by omega, by omega, by omega⟩
  have hm := marks_all ys k h.2.2.2.1
  have hs : stateOf ys = 2 := by
    unfold stateOf
    rw [if_neg (fun e => e hsh), hd, hm, if_neg (by omega), if_pos rfl]
  obtain ⟨ho, hc⟩ := h.out hp k (Nat.le_refl _)
  have hG : GoodK ys k := fun j hj => (h.2.1 j hj).good
  obtain ⟨e1, e2, e3⟩ := ht.one (.inr (.inr ⟨hs, hb0, by rw [hd]; exact hb1, by rw [hd]; exact hG, rfl, rfl, rfl⟩))
  rw [hd] at e1 e2
  have e4 : p.take (64 * k) = p := List.take_of_length_le (by omega)
  rw [ho, e4] at e1
  rw [hc] at e2
  exact ⟨e1, e2, e3⟩
theorem tot_le (F : Nat → Nat → Option Nat) : ∀ k, tot F k ≤ 8 * k
  | 0 => Nat.le_refl _
  | k + 1 => by have := tot_le F k; have := turns_le (F k) 8; unfold tot; omega
end Go.Proofs.YtjnpfnpeekpleaaDoor.PgO
