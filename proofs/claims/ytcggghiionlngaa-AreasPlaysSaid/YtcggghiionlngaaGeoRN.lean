/- Contracts of the document geom: what is needed. -/
import Derived.Test.YtcggghiionlngaaGeoR
namespace Go.Proofs.Ytcggghiionlngaa.GeoR
open Go.ChangeShapes Go.WideShapes Go.ChangeAt Go.RowKit
open GeoM GeoC GeoD GeoE Mem
set_option linter.unusedVariables false
set_option maxHeartbeats 2000000
set_option maxRecDepth 100000 in
theorem needR (c : Cfg) (hc : Plain c) (n : Int) (w : World) : Calls Try.prog 37 #[cv c, .int .i64 n] w fun e w' => e = .returned (.int .i64 (need c n)) ∧ Below w.heap.size w w' := by
  obtain ⟨b, p, s, u, o, r, g, k, x⟩ := c
  obtain ⟨a1, a2, a3, a4, a5, a6, a7, a8, a9, a10, a11, a12, a13, a14, a15, a16, a17, a18, a19, a20⟩ := hc
  dsimp only at a1 a2 a3 a4 a5 a6 a7 a8 a9 a10 a11 a12 a13 a14 a15 a16 a17 a18 a19 a20
  show Calls Try.prog 37 #[.agg #[.int .i64 b, .int .i64 p, .int .i64 s, .int .i64 u, .int .i64 o, .int .i64 r, .int .i64 g, .int .i64 k, .int .i64 x], .int .i64 n] w _
  obtain ⟨e, he⟩ : ∃ e, e = max 0 (min n u) := ⟨_, rfl⟩
  have he0 : 0 ≤ e := by omega
  have he1 : e ≤ u := by omega
  obtain ⟨two, htwo⟩ : ∃ t, t = up (u - e) p := ⟨_, rfl⟩
  obtain ⟨one, hone⟩ : ∃ t, t = up (e + 2 * o + r) (p / 2) := ⟨_, rfl⟩
  have s1 := up_spec (u - e) p (by omega) (by omega)
  have s2 := up_spec (e + 2 * o + r) (p / 2) (by omega) (by omega)
  rw [← htwo] at s1
  rw [← hone] at s2
  have t0 := s1.2.2.1
  have t1 := s1.2.2.2
  have o0 := s2.2.2.1
  have o1 := s2.2.2.2
  have s3 := up_spec two 2 t0 (by omega)
  have s4 := up_spec one 2 o0 (by omega)
  obtain ⟨th, hth⟩ : ∃ t, t = up two 2 := ⟨_, rfl⟩
  obtain ⟨oh, hoh⟩ : ∃ t, t = up one 2 := ⟨_, rfl⟩
  rw [← hth] at s3
  rw [← hoh] at s4
  have th0 := s3.2.2.1
  have th1 := s3.2.2.2
  have oh0 := s4.2.2.1
  have oh1 := s4.2.2.2
  have HD : Hid (need ⟨b, p, s, u, o, r, g, k, x⟩ n = two + th + one + oh + 24 + x) := Lib.hid (by rw [hth, hoh, htwo, hone, he]; rfl)
  rw [HD.out]
  have U1 : Hid (∀ z, z = u - e → ∀ w, Calls Try.prog 48 #[.int .i64 z, .int .i64 p] w fun e w' => e = .returned (.int .i64 two) ∧ w = w') := Lib.hid fun z hz w => by
    subst hz; rw [htwo]; exact upR (u - e) p (by omega) (by omega) (by omega) (by omega) w
  have U2 : Hid (∀ z h, z = e + 2 * o + r → h = p / 2 → ∀ w, Calls Try.prog 48 #[.int .i64 z, .int .i64 h] w fun e w' => e = .returned (.int .i64 one) ∧ w = w') := Lib.hid fun z h hz hh w => by
    subst hz hh; rw [hone]; exact upR (e + 2 * o + r) (p / 2) (by omega) (by omega) (by omega) (by omega) w
  have U3 := Lib.hid (upR two 2 t0 (by omega) (by omega) (by omega))
  rw [← hth] at U3
  have U4 := Lib.hid (upR one 2 o0 (by omega) (by omega) (by omega))
  rw [← hoh] at U4
  have hcase : (u < n ∧ e = u) ∨ (n = u ∧ e = u) ∨ (0 < n ∧ n < u ∧ e = n) ∨ (n = 0 ∧ e = 0) ∨ (n < 0 ∧ e = 0) := by omega
  have g1 : IntKind.i64.wrap (two + th) = two + th := IntWalk.i64_in _ (by omega)
  have g2 : IntKind.i64.wrap (two + th + one) = two + th + one := IntWalk.i64_in _ (by omega)
  have g3 : IntKind.i64.wrap (two + th + one + oh) = two + th + one + oh := IntWalk.i64_in _ (by omega)
  have g4 : IntKind.i64.wrap (two + th + one + oh + 24) = two + th + one + oh + 24 := IntWalk.i64_in _ (by omega)
  have g5 : IntKind.i64.wrap (two + th + one + oh + 24 + x) = two + th + one + oh + 24 + x := IntWalk.i64_in _ (by omega)
  have G := Lib.hid (And.intro g1 (And.intro g2 (And.intro g3 (And.intro g4 g5))))
  clear s1 s2 s3 s4 htwo hone hth hoh HD he g1 g2 g3 g4 g5
  rcases hcase with ⟨q1, q2⟩ | ⟨q1, q2⟩ | ⟨q1, q2, q3⟩ | ⟨q1, q2⟩ | ⟨q1, q2⟩
  · subst e
    go_enter Try.func37, Try.ntmps37
    go_wp2_with fail
    refine (U1.out _ (by omega) _).mono ?_
    rintro e w' ⟨rfl, rfl⟩
    go_wp2_with fail
    refine (U2.out _ _ (by omega) (by omega) _).mono ?_
    rintro e w' ⟨rfl, rfl⟩
    go_wp2_with fail
    obtain ⟨g1, g2, g3, g4, g5⟩ := G.out
    go_quiet ((go_at_call 48; first | (with_reducible exact quiet_left (U3.out _)) | (with_reducible exact quiet_left (U4.out _))))
    go_wp2
    go_ret
    exact ⟨rfl, below_drewN ((Below.refl _ _).alloc (Nat.le_refl _) _) _⟩
  · subst e n
    go_enter Try.func37, Try.ntmps37
    go_wp2_with fail
    refine (U1.out _ (by omega) _).mono ?_
    rintro e w' ⟨rfl, rfl⟩
    go_wp2_with fail
    refine (U2.out _ _ (by omega) (by omega) _).mono ?_
    rintro e w' ⟨rfl, rfl⟩
    go_wp2_with fail
    obtain ⟨g1, g2, g3, g4, g5⟩ := G.out
    go_quiet ((go_at_call 48; first | (with_reducible exact quiet_left (U3.out _)) | (with_reducible exact quiet_left (U4.out _))))
    go_wp2
    go_ret
    exact ⟨rfl, below_drewN ((Below.refl _ _).alloc (Nat.le_refl _) _) _⟩
  · subst e
    go_enter Try.func37, Try.ntmps37
    go_wp2_with fail
    refine (U1.out _ (by omega) _).mono ?_
    rintro e w' ⟨rfl, rfl⟩
    go_wp2_with fail
    refine (U2.out _ _ (by omega) (by omega) _).mono ?_
    rintro e w' ⟨rfl, rfl⟩
    go_wp2_with fail
    obtain ⟨g1, g2, g3, g4, g5⟩ := G.out
    go_quiet ((go_at_call 48; first | (with_reducible exact quiet_left (U3.out _)) | (with_reducible exact quiet_left (U4.out _))))
    go_wp2
    go_ret
    exact ⟨rfl, below_drewN ((Below.refl _ _).alloc (Nat.le_refl _) _) _⟩
  · subst e n
    go_enter Try.func37, Try.ntmps37
    go_wp2_with fail
    refine (U1.out _ (by omega) _).mono ?_
    rintro e w' ⟨rfl, rfl⟩
    go_wp2_with fail
    refine (U2.out _ _ (by omega) (by omega) _).mono ?_
    rintro e w' ⟨rfl, rfl⟩
    go_wp2_with fail
    obtain ⟨g1, g2, g3, g4, g5⟩ := G.out
    go_quiet ((go_at_call 48; first | (with_reducible exact quiet_left (U3.out _)) | (with_reducible exact quiet_left (U4.out _))))
    go_wp2
    go_ret
    exact ⟨rfl, below_drewN ((Below.refl _ _).alloc (Nat.le_refl _) _) _⟩
  · subst e
    go_enter Try.func37, Try.ntmps37
    go_wp2_with fail
    refine (U1.out _ (by omega) _).mono ?_
    rintro e w' ⟨rfl, rfl⟩
    go_wp2_with fail
    refine (U2.out _ _ (by omega) (by omega) _).mono ?_
    rintro e w' ⟨rfl, rfl⟩
    go_wp2_with fail
    obtain ⟨g1, g2, g3, g4, g5⟩ := G.out
    go_quiet ((go_at_call 48; first | (with_reducible exact quiet_left (U3.out _)) | (with_reducible exact quiet_left (U4.out _))))
    go_wp2
    go_ret
    exact ⟨rfl, below_drewN ((Below.refl _ _).alloc (Nat.le_refl _) _) _⟩

end Go.Proofs.Ytcggghiionlngaa.GeoR
