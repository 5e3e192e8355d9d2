/- Contracts of the small functions of wear. -/
import Derived.Test.YtbnjijlpbeplmaaMem
import Derived.Test.YtbnjijlpbeplmaaWearVM
namespace Go.Proofs.Ytbnjijlpbeplmaa.WearC
open Go.ChangeShapes Go.WideShapes Go.ChangeAt Go.RowKit
open WearVM Mem
set_option linter.unusedVariables false
set_option maxHeartbeats 1000000

/-- A block's cells. -/
def cs (b : WearVM.Blk) : Array Value := #[.int .i64 b.n, .int .i64 b.live, .int .i64 b.pages, .int .i64 b.worn, .bool b.opn, .bool b.one, .bool b.bad]
def val (b : WearVM.Blk) : Value := .agg (cs b)

theorem rightK (k : Nat) (hk : k = 30 ∨ k = 31) (b : WearVM.Blk) (w : World) :
    Calls Try.prog k #[val b] w fun e w' => e = .returned (.bool (right b)) ∧ Below w.heap.size w w' := by
  obtain ⟨n, live, pages, worn, opn, one, bad⟩ := b
  show Calls Try.prog k #[.agg #[.int .i64 n, .int .i64 live, .int .i64 pages, .int .i64 worn, .bool opn, .bool one, .bool bad]] w fun e w' => e = .returned (.bool (right ⟨n, live, pages, worn, opn, one, bad⟩)) ∧ Below w.heap.size w w'
  rcases (show n < 0 ∨ (0 ≤ n ∧ pages < 1) ∨ (0 ≤ n ∧ 1 ≤ pages ∧ 256 < pages) ∨ (0 ≤ n ∧ 1 ≤ pages ∧ pages ≤ 256 ∧ live < 0) ∨ (0 ≤ n ∧ 1 ≤ pages ∧ pages ≤ 256 ∧ 0 ≤ live ∧ pages < live) ∨ (0 ≤ n ∧ 1 ≤ pages ∧ pages ≤ 256 ∧ 0 ≤ live ∧ live ≤ pages ∧ worn < 0)
    ∨ (0 ≤ n ∧ 1 ≤ pages ∧ pages ≤ 256 ∧ 0 ≤ live ∧ live ≤ pages ∧ 0 ≤ worn ∧ 1073741824 < worn) ∨ (0 ≤ n ∧ 1 ≤ pages ∧ pages ≤ 256 ∧ 0 ≤ live ∧ live ≤ pages ∧ 0 ≤ worn ∧ worn ≤ 1073741824) by omega) with
    h1 | ⟨h1, h2⟩ | ⟨h1, h2, h3⟩ | ⟨h1, h2, h3, h4⟩ | ⟨h1, h2, h3, h4, h5⟩ | ⟨h1, h2, h3, h4, h5, h6⟩ | ⟨h1, h2, h3, h4, h5, h6, h7⟩ | ⟨h1, h2, h3, h4, h5, h6, h7⟩
  case inr.inr.inr.inr.inr.inr.inr =>
    have HD : Hid (right ⟨n, live, pages, worn, opn, one, bad⟩ = true) := Lib.hid (decide_eq_true (by dsimp only; omega))
    rcases hk with rfl | rfl
    · go_enter Try.func30, Try.ntmps30
      go_wp2
      go_ret
      exact ⟨ret_bool (by first | exact HD.out.symm | (rw [HD.out]; exact decide_eq_false (by omega))), (Below.refl _ _).alloc (Nat.le_refl _) _⟩
    · go_enter Try.func31, Try.ntmps31
      go_wp2
      go_ret
      exact ⟨ret_bool (by first | exact HD.out.symm | (rw [HD.out]; exact decide_eq_false (by omega))), (Below.refl _ _).alloc (Nat.le_refl _) _⟩
  all_goals
    have HD : Hid (right ⟨n, live, pages, worn, opn, one, bad⟩ = false) := Lib.hid (decide_eq_false (by dsimp only; omega))
    rcases hk with rfl | rfl
    · go_enter Try.func30, Try.ntmps30
      go_wp2
      go_ret
      exact ⟨ret_bool (by first | exact HD.out.symm | (rw [HD.out]; exact decide_eq_false (by omega))), (Below.refl _ _).alloc (Nat.le_refl _) _⟩
    · go_enter Try.func31, Try.ntmps31
      go_wp2
      go_ret
      exact ⟨ret_bool (by first | exact HD.out.symm | (rw [HD.out]; exact decide_eq_false (by omega))), (Below.refl _ _).alloc (Nat.le_refl _) _⟩

theorem rightW (b : WearVM.Blk) (w : World) : Calls Try.prog 30 #[val b] w fun e w' => e = .returned (.bool (right b)) ∧ Below w.heap.size w w' := rightK 30 (.inl rfl) b w
theorem rightR (b : WearVM.Blk) (w : World) : Calls Try.prog 31 #[val b] w fun e w' => e = .returned (.bool (right b)) ∧ Below w.heap.size w w' := rightK 31 (.inr rfl) b w

theorem lessW (a b : WearVM.Blk) (w : World) : Calls Try.prog 77 #[val a, val b] w fun e w' => e = .returned (.bool (lessWorn a b)) ∧ Below w.heap.size w w' := by
  obtain ⟨n, live, pages, worn, opn, one, bad⟩ := a
  obtain ⟨n', live', pages', worn', opn', one', bad'⟩ := b
  show Calls Try.prog 77 #[.agg #[.int .i64 n, .int .i64 live, .int .i64 pages, .int .i64 worn, .bool opn, .bool one, .bool bad], .agg #[.int .i64 n', .int .i64 live', .int .i64 pages', .int .i64 worn', .bool opn', .bool one', .bool bad']] w _
  by_cases h : worn = worn'
  · subst h
    have HD : Hid (lessWorn ⟨n, live, pages, worn, opn, one, bad⟩ ⟨n', live', pages', worn, opn', one', bad'⟩ = decide (n < n')) := Lib.hid (by unfold lessWorn; rw [if_pos rfl])
    go_enter Try.func77, Try.ntmps77
    go_wp2
    go_ret
    exact ⟨ret_bool HD.out.symm, ((Below.refl _ _).alloc (Nat.le_refl _) _).alloc (by simp) _⟩
  · have HD : Hid (lessWorn ⟨n, live, pages, worn, opn, one, bad⟩ ⟨n', live', pages', worn', opn', one', bad'⟩ = decide (worn < worn')) := Lib.hid (by unfold lessWorn; rw [if_neg h])
    have h' : (worn != worn') = true := by simpa using h
    clear h
    go_enter Try.func77, Try.ntmps77
    go_wp2
    go_ret
    exact ⟨ret_bool HD.out.symm, ((Below.refl _ _).alloc (Nat.le_refl _) _).alloc (by simp) _⟩
end Go.Proofs.Ytbnjijlpbeplmaa.WearC
