/- Settings are compared. -/
import Derived.Test.YtcggghiionlngaaAreP
namespace Go.Proofs.Ytcggghiionlngaa.AreQ0
open Go.ChangeShapes Go.WideShapes Go.ChangeAt Go.RowKit
open Mem GeoM GeoC GeoD GeoE GeoF AreA AreB AreC AreD AreF AreG AreH AreI AreJ AreK AreL AreN AreO AreP
set_option linter.unusedVariables false
set_option maxHeartbeats 1000000

theorem eqIn24 (f : Nat) (a0 a1 a2 a3 b0 b1 b2 b3 : Int) (w : World) : (Op.equalIn (f + 2) 24 (.agg #[.int .i64 a0, .int .i64 a1, .int .i64 a2, .int .i64 a3]) (.agg #[.int .i64 b0, .int .i64 b1, .int .i64 b2, .int .i64 b3])).run Try.prog w = .ok (decide (a0 = b0 ∧ a1 = b1 ∧ a2 = b2 ∧ a3 = b3)) w := by
  rw [Op.equalIn]
  have hsz : ∀ w, (sizeOf 3).run Try.prog w = .ok 1 w := fun w => by kernel_rfl
  have hi := fun (a b : Int) => run_equalIn_int (P := Try.prog) w f 3 .i64 .i64 a b Try.underlying3
  simp only [Sem.run_bind, run_underlying Try.underlying24, Result.andThen_ok, hsz, Std.Legacy.Range.forIn_eq_forIn_range', Std.Legacy.Range.size, Nat.sub_zero, Nat.add_sub_cancel, Nat.div_one]
  simp [List.range', part, isAgg, run_underlying Try.underlying3, hi]
  (repeat' split) <;> simp_all
theorem part24 (s : Stt) (w : World) : (part 24 (sc s) 0).run Try.prog w = .ok (.agg #[.int .i64 s.z0, .int .i64 s.z1, .int .i64 s.z2, .int .i64 s.z3]) w := by kernel_rfl
theorem eqIn26 (f : Nat) (a b : Stt) (w : World) : (Op.equalIn (f + 4) 26 (sv a) (sv b)).run Try.prog w = .ok (decide (a = b)) w := by
  obtain ⟨z0, z1, z2, z3, e, d⟩ := a
  obtain ⟨y0, y1, y2, y3, e', d'⟩ := b
  unfold sv
  rw [run_equalIn_struct w (f + 3) 26 _ _ (by kernel_rfl) (by kernel_rfl)]
  simp only [Program.fieldsOf, Try.underlying26]
  have e1 := eqIn24 (f + 1) z0 z1 z2 z3 y0 y1 y2 y3
  have p1 := part24 ⟨z0, z1, z2, z3, e, d⟩
  have p2 := part24 ⟨y0, y1, y2, y3, e', d'⟩
  have p3 : ∀ w, (part 5 (sc ⟨z0, z1, z2, z3, e, d⟩) 4).run Try.prog w = .ok (.int .u8 e) w := fun w => by kernel_rfl
  have p4 : ∀ w, (part 5 (sc ⟨y0, y1, y2, y3, e', d'⟩) 4).run Try.prog w = .ok (.int .u8 e') w := fun w => by kernel_rfl
  have p5 : ∀ w, (part 4 (sc ⟨z0, z1, z2, z3, e, d⟩) 5).run Try.prog w = .ok (.bool d) w := fun w => by kernel_rfl
  have p6 : ∀ w, (part 4 (sc ⟨y0, y1, y2, y3, e', d'⟩) 5).run Try.prog w = .ok (.bool d') w := fun w => by kernel_rfl
  simp only at p1 p2
  have i1 : ∀ w, (Op.equalIn (f + 3) 5 (.int .u8 e) (.int .u8 e')).run Try.prog w = .ok (e == e') w := fun w => run_equalIn_int (P := Try.prog) w (f + 2) 5 .u8 .u8 e e' Try.underlying5
  have i2 : ∀ w, (Op.equalIn (f + 3) 4 (.bool d) (.bool d')).run Try.prog w = .ok (d == d') w := fun w => run_equalIn_bool (P := Try.prog) w (f + 2) 4 d d' Try.underlying4
  have n1 : ("Sizes" ≠ "_") = True := by decide
  have n2 : ("Enhanced" ≠ "_") = True := by decide
  have n3 : ("Done" ≠ "_") = True := by decide
  simp only [Op.eqFields, n1, n2, n3, if_true, Sem.run_bind, p1, p2, p3, p4, p5, p6, e1, i1, i2, Result.andThen_ok, Sem.run_ite, Sem.run_pure]
  by_cases h1 : z0 = y0 ∧ z1 = y1 ∧ z2 = y2 ∧ z3 = y3
  · rw [decide_eq_true h1]
    obtain ⟨rfl, rfl, rfl, rfl⟩ := h1
    simp
    (repeat' split) <;> simp_all
  · rw [decide_eq_false h1]
    simp
    intro h2 h3 h4 h5
    exact absurd ⟨h2, h3, h4, h5⟩ h1
theorem eql26 (a b : Stt) (w : World) : (binOp .eql 26 (sv a) (sv b)).run Try.prog w = .ok (.bool (decide (a = b))) w := by
  unfold sv
  rw [run_eql_struct, show (10000 : Nat) = 9996 + 4 from rfl]
  have := eqIn26 9996 a b w
  unfold sv at this
  rw [this]
  rfl
theorem neq26 (a b : Stt) (w : World) : (binOp .neq 26 (sv a) (sv b)).run Try.prog w = .ok (.bool (decide (a ≠ b))) w := by
  unfold sv
  rw [run_neq_struct, show (10000 : Nat) = 9996 + 4 from rfl]
  have := eqIn26 9996 a b w
  unfold sv at this
  rw [this]
  simp [Result.andThen]
end Go.Proofs.Ytcggghiionlngaa.AreQ0
