/- Contracts of geom: the nearest shape, the check. -/
import Derived.Test.YtcggghiionlngaaGeoC
import Derived.Laws.StructEq
import Derived.Handy
import Derived.Deep.RegionWith
namespace Go.Proofs.Ytcggghiionlngaa.GeoD
open Go.ChangeShapes Go.WideShapes Go.ChangeAt Go.RowKit
open GeoM Mem GeoC
set_option linter.unusedVariables false
set_option maxHeartbeats 2000000

theorem i23 : (Try.prog.info? 23).map (·.size) = some 9 := by kernel_rfl
theorem even (x : Int) (h0 : 4 ≤ x) (h1 : x ≤ 256) : bits .andNot .i64 x 1 = x - x % 2 := by
  have H : ∀ v : Fin 257, bits .andNot .i64 (v.val : Int) 1 = (v.val : Int) - (v.val : Int) % 2 := by decide +kernel
  have := H ⟨x.toNat, by omega⟩
  simpa only [Int.toNat_of_nonneg (by omega : 0 ≤ x)] using this
theorem withinS (v lo hi : Int) (h : lo ≤ hi) (w : World) : Calls Try.prog 53 #[.int .i64 v, .int .i64 lo, .int .i64 hi] w fun e w' => e = .returned (.int .i64 (within v lo hi)) ∧ w' = w :=
  (withinW v lo hi h w).mono fun _ _ h => ⟨h.1, h.2.symm⟩

set_option maxRecDepth 100000 in
theorem boundedW (c : Cfg) (w : World) : Calls Try.prog 40 #[cv c] w fun e w' => e = .returned (cv (bnd c)) ∧ Below w.heap.size w w' := by
  obtain ⟨b, p, s, u, o, r, g, k, x⟩ := c
  show Calls Try.prog 40 #[.agg #[.int .i64 b, .int .i64 p, .int .i64 s, .int .i64 u, .int .i64 o, .int .i64 r, .int .i64 g, .int .i64 k, .int .i64 x]] w _
  have bu := @within_bd u 1 16384 (by omega)
  have bb := @within_bd b 1 1024 (by omega)
  have bp := @within_bd p 4 256 (by omega)
  have bs := @within_bd s 128 448 (by omega)
  have hev := even _ bp.1 bp.2
  have g1 : IntKind.i64.wrap (within s 128 448 / 64 * 64) = within s 128 448 / 64 * 64 := IntWalk.i64_in _ (by omega)
  have HA := Lib.hid (And.intro hev g1)
  clear hev g1
  go_enter Try.func40, Try.ntmps40
  go_wp2_with fail
  refine (withinW _ _ _ (by omega) _).mono ?_
  rintro e w' ⟨rfl, rfl⟩
  go_wp2_with fail
  refine (withinW _ _ _ (by omega) _).mono ?_
  rintro e w' ⟨rfl, rfl⟩
  go_wp2_with fail
  obtain ⟨hev, g1⟩ := HA.out
  refine wp_region_still_tail 29 (by kernel_rfl) (by kernel_rfl) ?_
  simp only [List.take_succ_cons, List.take_zero, List.drop_succ_cons, List.drop_zero]
  change wpStill _ _ (World.drew _) (fun a' => wpList _ _ _ _ a' (World.drew _)) _ _
  repeat still_step
  still_call (withinS p 4 256 (by omega) _)
  repeat still_step
  still_call (withinS s 128 448 (by omega) _)
  repeat still_step
  still_call (withinS o 1 256 (by omega) _)
  repeat still_step
  still_call (withinS r 1 256 (by omega) _)
  repeat still_step
  still_call (withinS g 1 (within u 1 16384) (by omega) _)
  repeat still_step
  still_call (withinS k 0 64 (by omega) _)
  repeat still_step
  still_call (withinS x 0 (within b 1 1024) (by omega) _)
  repeat still_step
  try refine wpStill_nil ?_
  change wpList _ _ _ _ _ (World.drew _)
  go_wp2
  go_returns
  exact ⟨rfl, (((Below.refl _ _).alloc (Nat.le_refl _) _).alloc (by simp) _).drew⟩

theorem neq23 (a b : Cfg) (w : World) : (binOp .neq 23 (.agg (cc a)) (.agg (cc b))).run Try.prog w = .ok (.bool (decide (a ≠ b))) w := by
  obtain ⟨b1, p1, s1, u1, o1, r1, g1, k1, x1⟩ := a
  obtain ⟨b2, p2, s2, u2, o2, r2, g2, k2, x2⟩ := b
  simp only [cc, run_neq_struct]
  rw [run_equalIn_struct w 9999 23 _ _ (by kernel_rfl) (by kernel_rfl)]
  simp [Program.fieldsOf, Try.underlying23, Op.eqFields, go_sem]
  (repeat' split) <;> simp_all

/-- Nine cells known whole. -/
theorem nine {w : World} {g : Nat} {t : TypeId} {a b c d e f k l m : Value} (h : Mem.Blk w g t #[a, b, c, d, e, f, k, l, m]) :
    w.cell? ⟨g, 0, none⟩ = some a ∧ w.cell? ⟨g, 1, none⟩ = some b ∧ w.cell? ⟨g, 2, none⟩ = some c ∧ w.cell? ⟨g, 3, none⟩ = some d ∧ w.cell? ⟨g, 4, none⟩ = some e ∧ w.cell? ⟨g, 5, none⟩ = some f ∧ w.cell? ⟨g, 6, none⟩ = some k ∧ w.cell? ⟨g, 7, none⟩ = some l ∧ w.cell? ⟨g, 8, none⟩ = some m :=
  ⟨h.cell 0, h.cell 1, h.cell 2, h.cell 3, h.cell 4, h.cell 5, h.cell 6, h.cell 7, h.cell 8⟩

theorem neq9 {b' p' s' u' o' r' g' k' x' b p s u o r g k x : Int} (h : (⟨b', p', s', u', o', r', g', k', x'⟩ : Cfg) ≠ ⟨b, p, s, u, o, r, g, k, x⟩) : (!decide (b' = b) || (!decide (p' = p) || (!decide (s' = s) || (!decide (u' = u) || (!decide (o' = o) || (!decide (r' = r) || (!decide (g' = g) || (!decide (k' = k) || (!decide (x' = x)))))))))) = true := by
  cases hq : (!decide (b' = b) || (!decide (p' = p) || (!decide (s' = s) || (!decide (u' = u) || (!decide (o' = o) || (!decide (r' = r) || (!decide (g' = g) || (!decide (k' = k) || (!decide (x' = x)))))))))) with
  | true => rfl
  | false =>
    exfalso
    simp only [Bool.or_eq_false_iff, Bool.not_eq_false', decide_eq_true_eq] at hq
    obtain ⟨e1, e2, e3, e4, e5, e6, e7, e8, e9⟩ := hq
    exact h (by rw [e1, e2, e3, e4, e5, e6, e7, e8, e9])

end Go.Proofs.Ytcggghiionlngaa.GeoD
