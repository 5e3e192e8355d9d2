/- Areas: whether a setting may be; a table is made. -/
import Derived.Test.YtcggghiionlngaaAreJ
namespace Go.Proofs.Ytcggghiionlngaa.AreK
open Go.ChangeShapes Go.WideShapes Go.ChangeAt Go.RowKit
open Mem GeoM GeoC GeoD GeoE GeoF AreA AreB AreC AreD AreF AreG AreH AreI AreJ
set_option linter.unusedVariables false
set_option maxHeartbeats 2000000

theorem eql24 (a0 a1 a2 a3 b0 b1 b2 b3 : Int) (w : World) : (binOp .eql 24 (.agg #[.int .i64 a0, .int .i64 a1, .int .i64 a2, .int .i64 a3]) (.agg #[.int .i64 b0, .int .i64 b1, .int .i64 b2, .int .i64 b3])).run Try.prog w = .ok (.bool (decide (a0 = b0 ∧ a1 = b1 ∧ a2 = b2 ∧ a3 = b3))) w := by
  rw [run_eql_struct, show (10000 : Nat) = 9998 + 2 from rfl, Op.equalIn]
  have hsz : ∀ w, (sizeOf 3).run Try.prog w = .ok 1 w := fun w => by kernel_rfl
  have hi := fun (a b : Int) => run_equalIn_int (P := Try.prog) w 9998 3 .i64 .i64 a b Try.underlying3
  simp only [Sem.run_bind, run_underlying Try.underlying24, Result.andThen_ok, hsz, Std.Legacy.Range.forIn_eq_forIn_range', Std.Legacy.Range.size, Nat.sub_zero, Nat.add_sub_cancel, Nat.div_one]
  simp [List.range', part, isAgg, run_underlying Try.underlying3, hi]
  (repeat' split) <;> simp_all

/-- May a setting be, of a shape that is right? -/
def mayV (c : Cfg) (s : Stt) : Bool := !s.d || (decide (s.z0 = 0 ∧ s.z1 = 0 ∧ s.z2 = 0 ∧ s.z3 = 0) && decide (s.e = 0)) || fitsV c s.z0 s.z1 s.z2 s.z3 s.e
theorem six {w : World} {g : Nat} {t : TypeId} {a b c d e f : Value} (h : Mem.Blk w g t #[a, b, c, d, e, f]) :
    w.cell? ⟨g, 0, none⟩ = some a ∧ w.cell? ⟨g, 1, none⟩ = some b ∧ w.cell? ⟨g, 2, none⟩ = some c ∧ w.cell? ⟨g, 3, none⟩ = some d ∧ w.cell? ⟨g, 4, none⟩ = some e ∧ w.cell? ⟨g, 5, none⟩ = some f :=
  ⟨h.cell 0, h.cell 1, h.cell 2, h.cell 3, h.cell 4, h.cell 5⟩

set_option maxRecDepth 100000 in
theorem mayBeW (c : Cfg) (s : Stt) (w : World) : Calls Try.prog 29 #[cv c, sv s] w fun e w' => e = .returned (.bool (mayV c s)) ∧ Below w.heap.size w w' := by
  have HF := fun w => fitsW c s.z0 s.z1 s.z2 s.z3 s.e w
  have HV : mayV c s = (!s.d || (decide (s.z0 = 0 ∧ s.z1 = 0 ∧ s.z2 = 0 ∧ s.z3 = 0) && decide (s.e = 0)) || fitsV c s.z0 s.z1 s.z2 s.z3 s.e) := rfl
  generalize mayV c s = M at HV ⊢
  generalize fitsV c s.z0 s.z1 s.z2 s.z3 s.e = F at HV HF
  obtain ⟨b, p, q, u, o, r, g, k, x⟩ := c
  obtain ⟨z0, z1, z2, z3, e, d⟩ := s
  unfold cv cc at HF
  simp only at HF HV
  show Calls Try.prog 29 #[.agg #[.int .i64 b, .int .i64 p, .int .i64 q, .int .i64 u, .int .i64 o, .int .i64 r, .int .i64 g, .int .i64 k, .int .i64 x], .agg #[.int .i64 z0, .int .i64 z1, .int .i64 z2, .int .i64 z3, .int .u8 e, .bool d]] w _
  obtain ⟨w0, hw0⟩ : ∃ w0, w0 = w.alloc (.cells #[.int .i64 b, .int .i64 p, .int .i64 q, .int .i64 u, .int .i64 o, .int .i64 r, .int .i64 g, .int .i64 k, .int .i64 x] 23) := ⟨_, rfl⟩
  obtain ⟨wz, hwz⟩ : ∃ wz, wz = w0.alloc (.cells #[.int .i64 z0, .int .i64 z1, .int .i64 z2, .int .i64 z3, .int .u8 e, .bool d] 26) := ⟨_, rfl⟩
  have s0 : w0.heap.size = w.heap.size + 1 := by rw [hw0]; simp
  have c1' : Mem.Blk w0 w.heap.size 23 #[.int .i64 b, .int .i64 p, .int .i64 q, .int .i64 u, .int .i64 o, .int .i64 r, .int .i64 g, .int .i64 k, .int .i64 x] := by rw [hw0]; exact Mem.Blk.new w 23 _
  have cz : Mem.Blk wz w.heap.size 23 #[.int .i64 b, .int .i64 p, .int .i64 q, .int .i64 u, .int .i64 o, .int .i64 r, .int .i64 g, .int .i64 k, .int .i64 x] := by rw [hwz]; exact c1'.alloc _
  have ez : Mem.Blk wz (w.heap.size + 1) 26 #[.int .i64 z0, .int .i64 z1, .int .i64 z2, .int .i64 z3, .int .u8 e, .bool d] := by rw [hwz, ← s0]; exact Mem.Blk.new w0 26 _
  have Dz : Below w.heap.size w wz := by rw [hwz, hw0]; exact ((Below.refl _ _).alloc (Nat.le_refl _) _).alloc (by simp) _
  obtain ⟨j0, j1, j2, j3, j4, j5, j6, j7, j8⟩ := nine cz
  obtain ⟨i0, i1, i2, i3, i4, i5⟩ := six ez
  replace HF := Lib.hid HF
  replace Dz := Lib.hid Dz
  clear c1' cz ez
  have hE := eql24 z0 z1 z2 z3 0 0 0 0
  cases d with
  | false =>
    go_enter Try.func29, Try.ntmps29
    go_wp2_with fail
    try rw [← hw0, ← hwz]
    replace hw0 := Lib.hid hw0
    replace hwz := Lib.hid hwz
    go_wp2_with fail
    go_ret
    exact ⟨by first | (rw [HV]; simp; done) | rfl, by have hz9 := Dz.out; first | exact hz9 | exact hz9.drew | (rw [hwz.out, hw0.out] at hz9; first | exact hz9 | exact hz9.drew | exact Mem.below_drewN hz9 _)⟩
  | true =>
    by_cases hz : z0 = 0 ∧ z1 = 0 ∧ z2 = 0 ∧ z3 = 0
    · rw [decide_eq_true hz] at hE HV
      replace hz := Lib.hid hz
      by_cases he : e = 0
      · subst he
        have hd : decide ((0 : Int) = 0) = true := by simp
        rw [hd] at HV
        go_enter Try.func29, Try.ntmps29
        go_wp2_with fail
        try rw [← hw0, ← hwz]
        replace hw0 := Lib.hid hw0
        replace hwz := Lib.hid hwz
        try go_wp2_with fail
        go_ret
        exact ⟨by first | (rw [HV]; simp; done) | rfl, by have hz9 := Dz.out; first | exact hz9 | exact hz9.drew | (rw [hwz.out, hw0.out] at hz9; first | exact hz9 | exact hz9.drew | exact Mem.below_drewN hz9 _)⟩
      · have hd : decide (e = 0) = false := by simpa using he
        rw [hd] at HV
        go_enter Try.func29, Try.ntmps29
        go_wp2_with fail
        try rw [← hw0, ← hwz]
        replace hw0 := Lib.hid hw0
        replace hwz := Lib.hid hwz
        go_wp2_with fail
        refine (HF.out _).mono ?_
        rintro e' w1 ⟨rfl, b1⟩
        have d1 := Lib.hid (Dz.out.trans (b1.mono Dz.out.size))
        clear j0 j1 j2 j3 j4 j5 j6 j7 j8 i0 i1 i2 i3 i4 i5 b1
        go_wp2
        go_ret
        exact ⟨by first | (rw [HV]; simp; done) | rfl, d1.out⟩
    · rw [decide_eq_false hz] at hE HV
      replace hz := Lib.hid hz
      go_enter Try.func29, Try.ntmps29
      go_wp2_with fail
      rw [← hw0, ← hwz]
      replace hw0 := Lib.hid hw0
      replace hwz := Lib.hid hwz
      go_wp2_with fail
      refine (HF.out _).mono ?_
      rintro e' w1 ⟨rfl, b1⟩
      have d1 := Lib.hid (Dz.out.trans (b1.mono Dz.out.size))
      clear j0 j1 j2 j3 j4 j5 j6 j7 j8 i0 i1 i2 i3 i4 i5 b1
      go_wp2
      go_ret
      exact ⟨by first | (rw [HV]; simp; done) | rfl, d1.out⟩
end Go.Proofs.Ytcggghiionlngaa.AreK
