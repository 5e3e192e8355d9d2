/- Plain facts on registers. No program. -/
namespace Go.Proofs.Ytnkbopmghekjdaa.RegA

def kind (n : Int) : Int := if n = 0 ∨ n = 1 ∨ n = 5 then 1 else if n = 2 ∨ n = 3 ∨ n = 4 then 2 else if n = 6 ∨ (8 ≤ n ∧ n ≤ 13) then 3 else if 32 ≤ n ∧ n ≤ 34 then 4 else 0

theorem kind_bd {n : Int} (h : kind n ≠ 0) : 0 ≤ n ∧ n ≤ 34 := by
  unfold kind at h
  (repeat' split at h) <;> first | omega | (exact absurd rfl h)
theorem kind_cases (n : Int) : kind n = 0 ∨ kind n = 1 ∨ kind n = 2 ∨ kind n = 3 ∨ kind n = 4 := by
  unfold kind
  (repeat' split) <;> simp
theorem kind_cover (n : Int) : (n = 0 ∨ n = 1 ∨ n = 2 ∨ n = 3 ∨ n = 4 ∨ n = 5 ∨ n = 6 ∨ n = 8 ∨ n = 9 ∨ n = 10 ∨ n = 11 ∨ n = 12 ∨ n = 13 ∨ n = 32 ∨ n = 33 ∨ n = 34) ∨
    (n ≠ 0 ∧ n ≠ 1 ∧ n ≠ 2 ∧ n ≠ 3 ∧ n ≠ 4 ∧ n ≠ 5 ∧ n ≠ 6 ∧ n ≠ 8 ∧ n ≠ 9 ∧ n ≠ 10 ∧ n ≠ 11 ∧ n ≠ 12 ∧ n ≠ 13 ∧ n ≠ 32 ∧ n ≠ 33 ∧ n ≠ 34) := by omega
end Go.Proofs.Ytnkbopmghekjdaa.RegA
