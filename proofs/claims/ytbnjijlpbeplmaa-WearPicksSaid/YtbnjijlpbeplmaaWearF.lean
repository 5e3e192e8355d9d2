/- Contracts of what is held against what. -/
import Derived.Test.YtbnjijlpbeplmaaWearD
namespace Go.Proofs.Ytbnjijlpbeplmaa.WearF
open Go.ChangeShapes Go.WideShapes Go.ChangeAt Go.RowKit
open WearVM Mem WearC WearD
set_option linter.unusedVariables false
set_option maxHeartbeats 1000000

theorem prod_bd {a b : Int} (h1 : 0 ≤ a) (h2 : a ≤ 256) (h3 : 1 ≤ b) (h4 : b ≤ 256) : 0 ≤ a * b ∧ a * b ≤ 65536 := by
  constructor
  · exact Int.mul_nonneg h1 (by omega)
  · have := Int.mul_le_mul h2 h4 (by omega) (by omega : (0:Int) ≤ 256)
    omega

theorem vAheadW (a b : WearVM.Blk) (ha : usable a = true) (hb : usable b = true) (w : World) : Calls Try.prog 76 #[val a, val b] w fun e w' => e = .returned (.bool (vAhead a b)) ∧ Below w.heap.size w w' := by
  have ra := right_iff.1 (usable_iff.1 ha).1
  have rb := right_iff.1 (usable_iff.1 hb).1
  obtain ⟨n, live, pages, worn, opn, one, bad⟩ := a
  obtain ⟨n', live', pages', worn', opn', one', bad'⟩ := b
  dsimp only at ra rb
  have p1 := prod_bd (a := live) (b := pages') (by omega) (by omega) (by omega) (by omega)
  have p2 := prod_bd (a := live') (b := pages) (by omega) (by omega) (by omega) (by omega)
  clear ha hb
  show Calls Try.prog 76 #[.agg #[.int .i64 n, .int .i64 live, .int .i64 pages, .int .i64 worn, .bool opn, .bool one, .bool bad], .agg #[.int .i64 n', .int .i64 live', .int .i64 pages', .int .i64 worn', .bool opn', .bool one', .bool bad']] w _
  have q1 : IntKind.i64.wrap (live * pages') = live * pages' := IntWalk.i64_in _ (by omega)
  have q2 : IntKind.i64.wrap (live' * pages) = live' * pages := IntWalk.i64_in _ (by omega)
  have HL := Lib.hid (lessW ⟨n, live, pages, worn, opn, one, bad⟩ ⟨n', live', pages', worn', opn', one', bad'⟩)
  by_cases h : live * pages' = live' * pages
  · have HD : Hid (vAhead ⟨n, live, pages, worn, opn, one, bad⟩ ⟨n', live', pages', worn', opn', one', bad'⟩ = lessWorn ⟨n, live, pages, worn, opn, one, bad⟩ ⟨n', live', pages', worn', opn', one', bad'⟩) := Lib.hid (by unfold vAhead; rw [if_pos h])
    have hb1 : (live * pages' != live' * pages) = false := by simpa using h
    rw [HD.out]
    clear h HD
    go_enter Try.func76, Try.ntmps76
    go_wp2_with fail
    go_quiet (fail)
    go_wp2_with fail
    refine (HL.out _).mono ?_
    rintro e w1 ⟨rfl, hb⟩
    go_wp2
    go_ret
    exact ⟨rfl, (below_drewN (((Below.refl _ _).alloc (Nat.le_refl _) _).alloc (by simp) _) _).trans (hb.mono (by simp; omega))⟩
  · have HD : Hid (vAhead ⟨n, live, pages, worn, opn, one, bad⟩ ⟨n', live', pages', worn', opn', one', bad'⟩ = decide (live * pages' < live' * pages)) := Lib.hid (by unfold vAhead; rw [if_neg h])
    have hb1 : (live * pages' != live' * pages) = true := by simpa using h
    rw [HD.out]
    clear h HD
    go_enter Try.func76, Try.ntmps76
    go_wp2_with fail
    go_quiet (fail)
    go_wp2
    go_ret
    exact ⟨rfl, below_drewN (((Below.refl _ _).alloc (Nat.le_refl _) _).alloc (by simp) _) _⟩

theorem fAheadW (g : Nat) (pick : Bool) (a b : WearVM.Blk) (w : World) (hg : g < w.heap.size) (hc : w.cell? ⟨g, 0, none⟩ = some (.bool pick)) :
    Calls Try.prog 81 #[val a, val b, .pointer (some ⟨g, 0, none⟩)] w fun e w' => e = .returned (.bool (fAhead pick a b)) ∧ Below w.heap.size w w' := by
  obtain ⟨n, live, pages, worn, opn, one, bad⟩ := a
  obtain ⟨n', live', pages', worn', opn', one', bad'⟩ := b
  show Calls Try.prog 81 #[.agg #[.int .i64 n, .int .i64 live, .int .i64 pages, .int .i64 worn, .bool opn, .bool one, .bool bad], .agg #[.int .i64 n', .int .i64 live', .int .i64 pages', .int .i64 worn', .bool opn', .bool one', .bool bad'], .pointer (some ⟨g, 0, none⟩)] w _
  have HL := Lib.hid (lessW ⟨n, live, pages, worn, opn, one, bad⟩ ⟨n', live', pages', worn', opn', one', bad'⟩)
  by_cases h : worn = worn'
  · subst h
    by_cases h1 : one = one'
    · subst h1
      have HD : Hid (fAhead pick ⟨n, live, pages, worn, opn, one, bad⟩ ⟨n', live', pages', worn, opn', one, bad'⟩ = lessWorn ⟨n, live, pages, worn, opn, one, bad⟩ ⟨n', live', pages', worn, opn', one, bad'⟩) := Lib.hid (by unfold fAhead; rw [if_neg (by simp)])
      rw [HD.out]
      clear HD
      cases one <;>
      · go_enter Try.func81, Try.ntmps81
        go_wp2_with fail
        refine (HL.out _).mono ?_
        rintro e w1 ⟨rfl, hb⟩
        go_wp2
        go_ret
        exact ⟨rfl, (((Below.refl _ _).alloc (Nat.le_refl _) _).alloc (by simp) _).trans (hb.mono (by simp; omega))⟩
    · have HD : Hid (fAhead pick ⟨n, live, pages, worn, opn, one, bad⟩ ⟨n', live', pages', worn, opn', one', bad'⟩ = (one == pick)) := Lib.hid (by unfold fAhead; rw [if_pos ⟨rfl, h1⟩])
      rw [HD.out]
      clear HD
      cases one <;> cases one' <;> first | exact absurd rfl h1 | skip
      all_goals
        clear h1
        go_enter Try.func81, Try.ntmps81
        go_wp2
        go_ret
        exact ⟨ret_bool (by cases pick <;> rfl), (((Below.refl _ _).alloc (Nat.le_refl _) _).alloc (by simp) _)⟩
  · have HD : Hid (fAhead pick ⟨n, live, pages, worn, opn, one, bad⟩ ⟨n', live', pages', worn', opn', one', bad'⟩ = lessWorn ⟨n, live, pages, worn, opn, one, bad⟩ ⟨n', live', pages', worn', opn', one', bad'⟩) := Lib.hid (by unfold fAhead; rw [if_neg (by intro hh; exact h hh.1)])
    have hb1 : (worn == worn') = false := by simpa using h
    rw [HD.out]
    clear h HD
    go_enter Try.func81, Try.ntmps81
    go_wp2_with fail
    refine (HL.out _).mono ?_
    rintro e w1 ⟨rfl, hb⟩
    go_wp2
    go_ret
    exact ⟨rfl, (((Below.refl _ _).alloc (Nat.le_refl _) _).alloc (by simp) _).trans (hb.mono (by simp; omega))⟩
end Go.Proofs.Ytbnjijlpbeplmaa.WearF
