/- Contracts of the choices' tests. -/
import Derived.Test.YtbnjijlpbeplmaaWearC
namespace Go.Proofs.Ytbnjijlpbeplmaa.WearD
open Go.ChangeShapes Go.WideShapes Go.ChangeAt Go.RowKit
open WearVM Mem WearC
set_option linter.unusedVariables false
set_option maxHeartbeats 1000000

/-- A test of blocks by function k, with what it captured. -/
def IsTest (k : FuncId) (cap : Array Value) (C : World → Prop) (t : WearVM.Blk → Bool) : Prop := ∀ b w, C w → Calls Try.prog k (#[val b] ++ cap) w fun e w' => e = .returned (.bool (t b)) ∧ Below w.heap.size w w'

theorem right_as (R : Bool) (b : WearVM.Blk) (h : right b = R) (w : World) : Calls Try.prog 30 #[val b] w fun e w' => e = .returned (.bool R) ∧ Below w.heap.size w w' := by
  subst h; exact rightW b w

theorem usableW (b : WearVM.Blk) (w : World) : Calls Try.prog 75 #[val b] w fun e w' => e = .returned (.bool (usable b)) ∧ Below w.heap.size w w' := by
  obtain ⟨n, live, pages, worn, opn, one, bad⟩ := b
  show Calls Try.prog 75 #[.agg #[.int .i64 n, .int .i64 live, .int .i64 pages, .int .i64 worn, .bool opn, .bool one, .bool bad]] w _
  cases hR : right ⟨n, live, pages, worn, opn, one, bad⟩ with
  | false =>
    have HD : Hid (usable ⟨n, live, pages, worn, opn, one, bad⟩ = false) := Lib.hid (by unfold usable; rw [hR]; rfl)
    have HR := Lib.hid (right_as false _ hR)
    clear hR
    go_enter Try.func75, Try.ntmps75
    go_wp2_with fail
    refine (HR.out _).mono ?_
    rintro e w1 ⟨rfl, hb⟩
    have hb1 := ((Below.refl w.heap.size w).alloc (Nat.le_refl _) (.cells #[.int .i64 n, .int .i64 live, .int .i64 pages, .int .i64 worn, .bool opn, .bool one, .bool bad] 55)).trans (hb.mono (by simp))
    clear hb
    go_wp2
    go_ret
    exact ⟨ret_bool HD.out.symm, hb1⟩
  | true =>
    have HD : Hid (usable ⟨n, live, pages, worn, opn, one, bad⟩ = (!opn && !bad)) := Lib.hid (by unfold usable; rw [hR]; rfl)
    have HR := Lib.hid (right_as true _ hR)
    clear hR
    cases opn <;> cases bad <;>
    · go_enter Try.func75, Try.ntmps75
      go_wp2_with fail
      refine (HR.out _).mono ?_
      rintro e w1 ⟨rfl, hb⟩
      have hk := (Blk.new w 55 _).below hb (by simp)
      have c4 := hk.seven.2.2.2.2.1
      have c6 := hk.seven.2.2.2.2.2.2
      have hb1 := ((Below.refl w.heap.size w).alloc (Nat.le_refl _) _).trans (hb.mono (by simp))
      clear hb hk
      go_wp2
      go_ret
      exact ⟨ret_bool HD.out.symm, hb1⟩

theorem usable_as (R : Bool) (b : WearVM.Blk) (h : usable b = R) (w : World) : Calls Try.prog 75 #[val b] w fun e w' => e = .returned (.bool R) ∧ Below w.heap.size w w' := by
  subst h; exact usableW b w

theorem emptyW (b : WearVM.Blk) (w : World) : Calls Try.prog 80 #[val b] w fun e w' => e = .returned (.bool (empty b)) ∧ Below w.heap.size w w' := by
  obtain ⟨n, live, pages, worn, opn, one, bad⟩ := b
  show Calls Try.prog 80 #[.agg #[.int .i64 n, .int .i64 live, .int .i64 pages, .int .i64 worn, .bool opn, .bool one, .bool bad]] w _
  cases hR : usable ⟨n, live, pages, worn, opn, one, bad⟩ with
  | false =>
    have HD : Hid (empty ⟨n, live, pages, worn, opn, one, bad⟩ = false) := Lib.hid (by unfold empty; rw [hR]; rfl)
    have HR := Lib.hid (usable_as false _ hR)
    clear hR
    go_enter Try.func80, Try.ntmps80
    go_wp2_with fail
    refine (HR.out _).mono ?_
    rintro e w1 ⟨rfl, hb⟩
    have hb1 := ((Below.refl w.heap.size w).alloc (Nat.le_refl _) (.cells #[.int .i64 n, .int .i64 live, .int .i64 pages, .int .i64 worn, .bool opn, .bool one, .bool bad] 55)).trans (hb.mono (by simp))
    clear hb
    go_wp2
    go_ret
    exact ⟨ret_bool HD.out.symm, hb1⟩
  | true =>
    have HD : Hid (empty ⟨n, live, pages, worn, opn, one, bad⟩ = (live == 0)) := Lib.hid (by unfold empty; rw [hR]; rfl)
    have HR := Lib.hid (usable_as true _ hR)
    clear hR
    go_enter Try.func80, Try.ntmps80
    go_wp2_with fail
    refine (HR.out _).mono ?_
    rintro e w1 ⟨rfl, hb⟩
    have hk := (Blk.new w 55 _).below hb (by simp)
    have c1 := hk.seven.2.1
    have hb1 := ((Below.refl w.heap.size w).alloc (Nat.le_refl _) _).trans (hb.mono (by simp))
    clear hb hk
    go_wp2
    go_ret
    exact ⟨ret_bool HD.out.symm, hb1⟩

theorem liveW (b : WearVM.Blk) (w : World) : Calls Try.prog 83 #[val b] w fun e w' => e = .returned (.bool (live b)) ∧ Below w.heap.size w w' := by
  obtain ⟨n, live, pages, worn, opn, one, bad⟩ := b
  show Calls Try.prog 83 #[.agg #[.int .i64 n, .int .i64 live, .int .i64 pages, .int .i64 worn, .bool opn, .bool one, .bool bad]] w _
  cases hR : usable ⟨n, live, pages, worn, opn, one, bad⟩ with
  | false =>
    have HD : Hid (WearVM.live ⟨n, live, pages, worn, opn, one, bad⟩ = false) := Lib.hid (by unfold WearVM.live; rw [hR]; rfl)
    have HR := Lib.hid (usable_as false _ hR)
    clear hR
    go_enter Try.func83, Try.ntmps83
    go_wp2_with fail
    refine (HR.out _).mono ?_
    rintro e w1 ⟨rfl, hb⟩
    have hb1 := ((Below.refl w.heap.size w).alloc (Nat.le_refl _) (.cells #[.int .i64 n, .int .i64 live, .int .i64 pages, .int .i64 worn, .bool opn, .bool one, .bool bad] 55)).trans (hb.mono (by simp))
    clear hb
    go_wp2
    go_ret
    exact ⟨ret_bool HD.out.symm, hb1⟩
  | true =>
    have HD : Hid (WearVM.live ⟨n, live, pages, worn, opn, one, bad⟩ = decide (0 < live)) := Lib.hid (by unfold WearVM.live; rw [hR]; rfl)
    have HR := Lib.hid (usable_as true _ hR)
    clear hR
    go_enter Try.func83, Try.ntmps83
    go_wp2_with fail
    refine (HR.out _).mono ?_
    rintro e w1 ⟨rfl, hb⟩
    have hk := (Blk.new w 55 _).below hb (by simp)
    have c1 := hk.seven.2.1
    have hb1 := ((Below.refl w.heap.size w).alloc (Nat.le_refl _) _).trans (hb.mono (by simp))
    clear hb hk
    go_wp2
    go_ret
    exact ⟨ret_bool HD.out.symm, hb1⟩
end Go.Proofs.Ytbnjijlpbeplmaa.WearD
