/- Plain facts on debts, lives. No program. -/
namespace Go.Proofs.Ytbnjijlpbeplmaa.WearM

def clampI (w : Int) : Int := max 0 (min w 1073741824)
def total (l : List Int) : Int := (l.map clampI).sum
def life (l : List Int) : Int := if l.length = 0 then 0 else min (total l / l.length / 100 + 1) 11
def debt (f t : Int) : Int := if t ≤ f then 0 else min (t - f) 16
def pay (d : Int) : Int := if d ≤ 4 then 0 else if d ≤ 8 then 1 else 2

theorem clampI_bd (w : Int) : 0 ≤ clampI w ∧ clampI w ≤ 1073741824 := by unfold clampI; omega
theorem clampI_mono (a b : Int) (h : a ≤ b) : clampI a ≤ clampI b := by unfold clampI; omega
theorem total_bd (l : List Int) : 0 ≤ total l ∧ total l ≤ l.length * 1073741824 := by
  induction l with
  | nil => simp [total]
  | cons x l ih =>
    have := clampI_bd x
    simp only [total, List.map_cons, List.sum_cons, List.length_cons] at ih ⊢
    omega
theorem total_snoc (l : List Int) (x : Int) : total (l ++ [x]) = total l + clampI x := by
  simp [total]
theorem total_take (l : List Int) (k : Nat) (h : k < l.length) : total (l.take (k + 1)) = total (l.take k) + clampI (l.getD k 0) := by
  rw [List.take_succ_eq_append_getElem h, total_snoc]; simp [List.getD, h]
theorem total_set (l : List Int) (i : Nat) (v : Int) (h : i < l.length) (hv : l.getD i 0 ≤ v) : total l ≤ total (l.set i v) := by
  induction l generalizing i with
  | nil => simp at h
  | cons x l ih =>
    cases i with
    | zero =>
      have := clampI_mono x v (by simpa using hv)
      simp only [total, List.set_cons_zero, List.map_cons, List.sum_cons]; omega
    | succ i =>
      have := ih i (by simpa using h) (by simpa using hv)
      simp only [total, List.set_cons_succ, List.map_cons, List.sum_cons] at this ⊢; omega
theorem life_bd (l : List Int) (h : 0 < l.length) : 1 ≤ life l ∧ life l ≤ 11 := by
  unfold life
  rw [if_neg (by omega)]
  have h1 := (total_bd l).1
  have h2 : 0 ≤ total l / l.length := Int.ediv_nonneg h1 (by omega)
  have h3 : 0 ≤ total l / l.length / 100 := Int.ediv_nonneg h2 (by omega)
  omega
theorem life_set (l : List Int) (i : Nat) (v : Int) (h : i < l.length) (hv : l.getD i 0 ≤ v) : life l ≤ life (l.set i v) := by
  unfold life
  rw [List.length_set, if_neg (by omega), if_neg (by omega)]
  have h1 := total_set l i v h hv
  have h2 : total l / l.length ≤ total (l.set i v) / l.length := Int.ediv_le_ediv (by omega) h1
  have h3 : total l / l.length / 100 ≤ total (l.set i v) / l.length / 100 := Int.ediv_le_ediv (by omega) h2
  omega
theorem debt_bd (f t : Int) : 0 ≤ debt f t ∧ debt f t ≤ 16 := by unfold debt; split <;> omega
theorem debt_mono (f m t : Int) (h : 0 ≤ m) : debt (f + m) t ≤ debt f t := by unfold debt; split <;> split <;> omega
end Go.Proofs.Ytbnjijlpbeplmaa.WearM
