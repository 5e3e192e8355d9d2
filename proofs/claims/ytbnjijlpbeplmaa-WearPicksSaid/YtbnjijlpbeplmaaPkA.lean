/- The document's tests of blocks, and where its choice stands. -/
import Derived.Test.YtbnjijlpbeplmaaWearG
namespace Go.Proofs.Ytbnjijlpbeplmaa.PkA
open Go.ChangeShapes Go.WideShapes Go.ChangeAt Go.RowKit
open WearVM Mem WearC WearD WearE WearF WearV1
set_option linter.unusedVariables false
set_option maxHeartbeats 2000000

theorem rightR_as (R : Bool) (b : WearVM.Blk) (h : right b = R) (w : World) : Calls Try.prog 31 #[val b] w fun e w' => e = .returned (.bool R) ∧ Below w.heap.size w w' := by
  subst h; exact rightR b w

theorem mayR (b : WearVM.Blk) (w : World) : Calls Try.prog 78 #[val b] w fun e w' => e = .returned (.bool (usable b)) ∧ Below w.heap.size w w' := by
  obtain ⟨n, live, pages, worn, opn, one, bad⟩ := b
  show Calls Try.prog 78 #[.agg #[.int .i64 n, .int .i64 live, .int .i64 pages, .int .i64 worn, .bool opn, .bool one, .bool bad]] w _
  cases hR : right ⟨n, live, pages, worn, opn, one, bad⟩ with
  | false =>
    have HD : Hid (usable ⟨n, live, pages, worn, opn, one, bad⟩ = false) := Lib.hid (by unfold usable; rw [hR]; rfl)
    have HR := Lib.hid (rightR_as false _ hR)
    clear hR
    go_enter Try.func78, Try.ntmps78
    go_wp2_with fail
    refine (HR.out _).mono ?_
    rintro e w1 ⟨rfl, hb⟩
    have hb1 := ((Below.refl w.heap.size w).alloc (Nat.le_refl _) (.cells #[.int .i64 n, .int .i64 live, .int .i64 pages, .int .i64 worn, .bool opn, .bool one, .bool bad] 57)).trans (hb.mono (by simp))
    clear hb
    go_wp2
    go_ret
    exact ⟨ret_bool HD.out.symm, hb1⟩
  | true =>
    have HD : Hid (usable ⟨n, live, pages, worn, opn, one, bad⟩ = (!opn && !bad)) := Lib.hid (by unfold usable; rw [hR]; rfl)
    have HR := Lib.hid (rightR_as true _ hR)
    clear hR
    cases opn <;> cases bad <;>
    · go_enter Try.func78, Try.ntmps78
      go_wp2_with fail
      refine (HR.out _).mono ?_
      rintro e w1 ⟨rfl, hb⟩
      have hk := (Blk.new w 57 _).below hb (by simp)
      have c4 := hk.seven.2.2.2.2.1
      have c6 := hk.seven.2.2.2.2.2.2
      have hb1 := ((Below.refl w.heap.size w).alloc (Nat.le_refl _) _).trans (hb.mono (by simp))
      clear hb hk
      go_wp2
      go_ret
      exact ⟨ret_bool HD.out.symm, hb1⟩

theorem betterR (a b : WearVM.Blk) (ha : usable a = true) (hb : usable b = true) (w : World) : Calls Try.prog 79 #[val a, val b] w fun e w' => e = .returned (.bool (vAhead a b)) ∧ Below w.heap.size w w' := by
  have ra := right_iff.1 (usable_iff.1 ha).1
  have rb := right_iff.1 (usable_iff.1 hb).1
  obtain ⟨n, live, pages, worn, opn, one, bad⟩ := a
  obtain ⟨n', live', pages', worn', opn', one', bad'⟩ := b
  dsimp only at ra rb
  have p1 := prod_bd (a := live) (b := pages') (by omega) (by omega) (by omega) (by omega)
  have p2 := prod_bd (a := live') (b := pages) (by omega) (by omega) (by omega) (by omega)
  clear ha hb
  show Calls Try.prog 79 #[.agg #[.int .i64 n, .int .i64 live, .int .i64 pages, .int .i64 worn, .bool opn, .bool one, .bool bad], .agg #[.int .i64 n', .int .i64 live', .int .i64 pages', .int .i64 worn', .bool opn', .bool one', .bool bad']] w _
  have q1 : IntKind.i64.wrap (live * pages') = live * pages' := IntWalk.i64_in _ (by omega)
  have q2 : IntKind.i64.wrap (live' * pages) = live' * pages := IntWalk.i64_in _ (by omega)
  by_cases h : live * pages' = live' * pages
  · have hb1 : (live * pages' != live' * pages) = false := by simpa using h
    by_cases hw : worn = worn'
    · subst hw
      have HD : Hid (vAhead ⟨n, live, pages, worn, opn, one, bad⟩ ⟨n', live', pages', worn, opn', one', bad'⟩ = decide (n < n')) := Lib.hid (by unfold vAhead lessWorn; rw [if_pos h, if_pos rfl])
      rw [HD.out]
      clear h HD ra rb
      go_enter Try.func79, Try.ntmps79
      go_wp2
      go_ret
      exact ⟨rfl, ((Below.refl _ _).alloc (Nat.le_refl _) _).alloc (by simp) _⟩
    · have HD : Hid (vAhead ⟨n, live, pages, worn, opn, one, bad⟩ ⟨n', live', pages', worn', opn', one', bad'⟩ = decide (worn < worn')) := Lib.hid (by unfold vAhead lessWorn; rw [if_pos h, if_neg hw])
      have hw1 : (worn != worn') = true := by simpa using hw
      rw [HD.out]
      clear h HD ra rb hw
      go_enter Try.func79, Try.ntmps79
      go_wp2
      go_ret
      exact ⟨rfl, ((Below.refl _ _).alloc (Nat.le_refl _) _).alloc (by simp) _⟩
  · have HD : Hid (vAhead ⟨n, live, pages, worn, opn, one, bad⟩ ⟨n', live', pages', worn', opn', one', bad'⟩ = decide (live * pages' < live' * pages)) := Lib.hid (by unfold vAhead; rw [if_neg h])
    have hb1 : (live * pages' != live' * pages) = true := by simpa using h
    rw [HD.out]
    clear h HD ra rb
    go_enter Try.func79, Try.ntmps79
    go_wp2
    go_ret
    exact ⟨rfl, ((Below.refl _ _).alloc (Nat.le_refl _) _).alloc (by simp) _⟩

theorem fresherR (pick : Bool) (a b : WearVM.Blk) (w : World) : Calls Try.prog 82 #[val a, val b, .bool pick] w fun e w' => e = .returned (.bool (fAhead pick a b)) ∧ Below w.heap.size w w' := by
  obtain ⟨n, live, pages, worn, opn, one, bad⟩ := a
  obtain ⟨n', live', pages', worn', opn', one', bad'⟩ := b
  show Calls Try.prog 82 #[.agg #[.int .i64 n, .int .i64 live, .int .i64 pages, .int .i64 worn, .bool opn, .bool one, .bool bad], .agg #[.int .i64 n', .int .i64 live', .int .i64 pages', .int .i64 worn', .bool opn', .bool one', .bool bad'], .bool pick] w _
  by_cases h : worn = worn'
  · subst h
    by_cases h1 : one = one'
    · subst h1
      have HD : Hid (fAhead pick ⟨n, live, pages, worn, opn, one, bad⟩ ⟨n', live', pages', worn, opn', one, bad'⟩ = decide (n < n')) := Lib.hid (by unfold fAhead lessWorn; rw [if_neg (by simp), if_pos rfl])
      rw [HD.out]
      clear HD
      cases one <;>
      · go_enter Try.func82, Try.ntmps82
        go_wp2
        go_ret
        exact ⟨rfl, ((Below.refl _ _).alloc (Nat.le_refl _) _).alloc (by simp) _⟩
    · have HD : Hid (fAhead pick ⟨n, live, pages, worn, opn, one, bad⟩ ⟨n', live', pages', worn, opn', one', bad'⟩ = (one == pick)) := Lib.hid (by unfold fAhead; rw [if_pos ⟨rfl, h1⟩])
      rw [HD.out]
      clear HD
      cases one <;> cases one' <;> first | exact absurd rfl h1 | skip
      all_goals
        clear h1
        go_enter Try.func82, Try.ntmps82
        go_wp2
        go_ret
        exact ⟨ret_bool (by cases pick <;> rfl), (((Below.refl _ _).alloc (Nat.le_refl _) _).alloc (by simp) _)⟩
  · have HD : Hid (fAhead pick ⟨n, live, pages, worn, opn, one, bad⟩ ⟨n', live', pages', worn', opn', one', bad'⟩ = decide (worn < worn')) := Lib.hid (by unfold fAhead lessWorn; rw [if_neg (by intro hh; exact h hh.1), if_neg h])
    have hb1 : (worn != worn') = true := by simpa using h
    rw [HD.out]
    clear h HD
    go_enter Try.func82, Try.ntmps82
    go_wp2
    go_ret
    exact ⟨rfl, ((Below.refl _ _).alloc (Nat.le_refl _) _).alloc (by simp) _⟩

/-- Where the document's choice stands when j blocks were seen. -/
def Pos (may : WearVM.Blk → Bool) (ahead : WearVM.Blk → WearVM.Blk → Bool) (l : List WearVM.Blk) (j : Nat) (kk : Int) : Prop :=
  (kk = -1 ∧ chosen may ahead (l.take j) = zero) ∨ (∃ q : Nat, kk = (q : Int) ∧ q < j ∧ l.getD q zero = chosen may ahead (l.take j) ∧ may (l.getD q zero) = true ∧ l.getD q zero ≠ zero)
section
variable {may : WearVM.Blk → Bool} {ahead : WearVM.Blk → WearVM.Blk → Bool} {l : List WearVM.Blk} {j : Nat} {kk : Int}
theorem Pos.start : Pos may ahead l 0 (-1) := .inl ⟨rfl, rfl⟩
theorem Pos.no (h : Pos may ahead l j kk) (hj : j < l.length) (hx : may (l.getD j zero) = false) : Pos may ahead l (j + 1) kk := by
  have e : chosen may ahead (l.take (j + 1)) = chosen may ahead (l.take j) := by rw [chosen_snoc may ahead l j hj]; unfold WearVM.step; rw [hx]; rfl
  unfold Pos
  rw [e]
  rcases h with ⟨h1, h2⟩ | ⟨q, h1, h2, h3⟩
  · exact .inl ⟨h1, h2⟩
  · exact .inr ⟨q, h1, by omega, h3⟩
theorem Pos.first (h : Pos may ahead l j (-1)) (hj : j < l.length) (hx : may (l.getD j zero) = true) (hne : l.getD j zero ≠ zero) : Pos may ahead l (j + 1) (j : Int) := by
  have h0 : chosen may ahead (l.take j) = zero := by
    rcases h with ⟨_, h2⟩ | ⟨q, h1, _⟩
    · exact h2
    · omega
  refine .inr ⟨j, rfl, by omega, ?_, hx, hne⟩
  rw [chosen_snoc may ahead l j hj, h0]
  unfold WearVM.step
  rw [hx]
  simp
theorem Pos.yes {q : Nat} (h : Pos may ahead l j (q : Int)) (hj : j < l.length) (hx : may (l.getD j zero) = true) (hne : l.getD j zero ≠ zero) (ha : ahead (l.getD j zero) (l.getD q zero) = true) : Pos may ahead l (j + 1) (j : Int) := by
  rcases h with ⟨h1, _⟩ | ⟨q', h1, h2, h3, h4, h5⟩
  · omega
  obtain rfl : q = q' := by omega
  refine .inr ⟨j, rfl, by omega, ?_, hx, hne⟩
  rw [chosen_snoc may ahead l j hj, ← h3]
  unfold WearVM.step
  rw [hx, ha]
  simp
theorem Pos.stay {q : Nat} (h : Pos may ahead l j (q : Int)) (hj : j < l.length) (hx : may (l.getD j zero) = true) (ha : ahead (l.getD j zero) (l.getD q zero) = false) : Pos may ahead l (j + 1) (q : Int) := by
  rcases h with ⟨h1, _⟩ | ⟨q', h1, h2, h3, h4, h5⟩
  · omega
  obtain rfl : q = q' := by omega
  refine .inr ⟨q, rfl, by omega, ?_, h4, h5⟩
  rw [chosen_snoc may ahead l j hj, ← h3]
  unfold WearVM.step
  rw [hx, ha, decide_eq_false h5]
  rfl
theorem Pos.case (h : Pos may ahead l j kk) : (kk = -1 ∧ chosen may ahead (l.take j) = zero) ∨ (∃ q : Nat, kk = (q : Int) ∧ q < j ∧ l.getD q zero = chosen may ahead (l.take j) ∧ may (l.getD q zero) = true ∧ l.getD q zero ≠ zero) := h
end

/-- The seven cells of a block in a row. -/
def Sev (w : World) (b o : Nat) (x : WearVM.Blk) : Prop :=
  w.cell? ⟨b, o, none⟩ = some (.int .i64 x.n) ∧ w.cell? ⟨b, o + 1, none⟩ = some (.int .i64 x.live) ∧ w.cell? ⟨b, o + 2, none⟩ = some (.int .i64 x.pages) ∧ w.cell? ⟨b, o + 3, none⟩ = some (.int .i64 x.worn) ∧
  w.cell? ⟨b, o + 4, none⟩ = some (.bool x.opn) ∧ w.cell? ⟨b, o + 5, none⟩ = some (.bool x.one) ∧ w.cell? ⟨b, o + 6, none⟩ = some (.bool x.bad)
theorem RdB.sev {w : World} {b off : Nat} {l : List WearVM.Blk} (h : RdB w (some ⟨b, off, none⟩) l) (i : Nat) (hi : i < l.length) : Sev w b (off + i * 7) (l.getD i zero) := by
  have hr := (h.at i hi).2
  exact ⟨hr 0 _ rfl, hr 1 _ rfl, hr 2 _ rfl, hr 3 _ rfl, hr 4 _ rfl, hr 5 _ rfl, hr 6 _ rfl⟩
end Go.Proofs.Ytbnjijlpbeplmaa.PkA
