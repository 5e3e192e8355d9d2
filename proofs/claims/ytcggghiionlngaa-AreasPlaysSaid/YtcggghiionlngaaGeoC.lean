/- Contracts of the small functions of geom. -/
import Derived.Test.YtcggghiionlngaaMem
import Derived.Test.YtcggghiionlngaaGeoM
import Derived.StillTailTactics
namespace Go.Proofs.Ytcggghiionlngaa.GeoC
open Go.ChangeShapes Go.WideShapes Go.ChangeAt Go.RowKit
open GeoM Mem
set_option linter.unusedVariables false
set_option maxHeartbeats 2000000

theorem withinW (v lo hi : Int) (h : lo ≤ hi) (w : World) : Calls Try.prog 53 #[.int .i64 v, .int .i64 lo, .int .i64 hi] w fun e w' => e = .returned (.int .i64 (within v lo hi)) ∧ w = w' := by
  by_cases h1 : hi < v
  · have HD : Hid (within v lo hi = hi) := Lib.hid (by unfold within; omega)
    rw [HD.out]
    by_cases h2 : lo = hi
    · subst h2
      clear h HD
      go_enter Try.func53, Try.ntmps53
      go_wp2
      go_ret
      exact ⟨ret_int (by (repeat' split) <;> omega), rfl⟩
    · have h3 : lo < hi := by omega
      clear h h2 HD
      go_enter Try.func53, Try.ntmps53
      go_wp2
      go_ret
      exact ⟨ret_int (by (repeat' split) <;> omega), rfl⟩
  · by_cases h2 : lo < v
    · have HD : Hid (within v lo hi = v) := Lib.hid (by unfold within; omega)
      rw [HD.out]
      clear HD
      go_enter Try.func53, Try.ntmps53
      go_wp2
      go_ret
      exact ⟨ret_int (by (repeat' split) <;> omega), rfl⟩
    · have HD : Hid (within v lo hi = lo) := Lib.hid (by unfold within; omega)
      rw [HD.out]
      clear HD
      go_enter Try.func53, Try.ntmps53
      go_wp2
      go_ret
      exact ⟨ret_int (by (repeat' split) <;> omega), rfl⟩

theorem upW (n d : Int) (hn : 0 ≤ n) (hn2 : n ≤ 1000000) (hd : 1 ≤ d) (w : World) : Calls Try.prog 54 #[.int .i64 n, .int .i64 d] w fun e w' => e = .returned (.int .i64 (up n d)) ∧ w = w' := by
  have hq : 0 ≤ n / d := Int.ediv_nonneg hn (by omega)
  have hq2 : n / d ≤ n := Int.ediv_le_self _ hn
  have hdn : (d == 0) = false := by simp; omega
  by_cases h : 0 < n % d
  · have HD : Hid (up n d = n / d + 1) := Lib.hid (by unfold up; rw [if_pos h])
    rw [HD.out]
    clear HD
    go_enter Try.func54, Try.ntmps54
    go_wp2
    go_ret
    exact ⟨rfl, rfl⟩
  · have HD : Hid (up n d = n / d) := Lib.hid (by unfold up; rw [if_neg h])
    rw [HD.out]
    have hf : decide (0 < n % d) = false := by simpa using h
    clear HD h
    go_enter Try.func54, Try.ntmps54
    go_wp2
    go_ret
    exact ⟨rfl, rfl⟩

/-- A shape's cells. -/
def cc (c : Cfg) : Array Value := #[.int .i64 c.blocks, .int .i64 c.pages, .int .i64 c.sector, .int .i64 c.user, .int .i64 c.boot, .int .i64 c.rpa, .int .i64 c.group, .int .i64 c.cache, .int .i64 c.spare]
def cv (c : Cfg) : Value := .agg (cc c)

theorem quiet_left {P : Program} {f : FuncId} {args : Array Value} {w : World} {n : Nat} {v : Value}
    (h : Calls P f args (w.drewN n) fun e w' => e = .returned v ∧ w.drewN n = w') : Calls P f args (w.drewN n) fun e w'' => e = .returned v ∧ ∃ m, w'' = w.drewN m :=
  h.mono fun _ _ ⟨he, hm⟩ => ⟨he, n, hm.symm⟩

theorem groupsW (c : Cfg) (hg : 1 ≤ c.group) (hu : 1 ≤ c.user) (hu2 : c.user ≤ 16384) (w : World) : Calls Try.prog 41 #[cv c] w fun e w' => e = .returned (.int .i64 (groups c)) ∧ Below w.heap.size w w' := by
  obtain ⟨b, p, s, u, o, r, g, k, x⟩ := c
  show Calls Try.prog 41 #[.agg #[.int .i64 b, .int .i64 p, .int .i64 s, .int .i64 u, .int .i64 o, .int .i64 r, .int .i64 g, .int .i64 k, .int .i64 x]] w fun e w' => e = .returned (.int .i64 (u / g)) ∧ Below w.heap.size w w'
  dsimp only at hg hu hu2
  have hdn : (g == 0) = false := by simp; omega
  have hq : 0 ≤ u / g := Int.ediv_nonneg (by omega) (by omega)
  have hq2 : u / g ≤ u := Int.ediv_le_self _ (by omega)
  go_enter Try.func41, Try.ntmps41
  go_wp2
  go_ret
  exact ⟨rfl, (Below.refl _ _).alloc (Nat.le_refl _) _⟩

theorem needW (c : Cfg) (hc : Plain c) (n : Int) (w : World) : Calls Try.prog 42 #[cv c, .int .i64 n] w fun e w' => e = .returned (.int .i64 (need c n)) ∧ Below w.heap.size w w' := by
  obtain ⟨b, p, s, u, o, r, g, k, x⟩ := c
  obtain ⟨a1, a2, a3, a4, a5, a6, a7, a8, a9, a10, a11, a12, a13, a14, a15, a16, a17, a18, a19, a20⟩ := hc
  dsimp only at a1 a2 a3 a4 a5 a6 a7 a8 a9 a10 a11 a12 a13 a14 a15 a16 a17 a18 a19 a20
  show Calls Try.prog 42 #[.agg #[.int .i64 b, .int .i64 p, .int .i64 s, .int .i64 u, .int .i64 o, .int .i64 r, .int .i64 g, .int .i64 k, .int .i64 x], .int .i64 n] w _
  obtain ⟨e, he⟩ : ∃ e, e = max 0 (min n u) := ⟨_, rfl⟩
  have he0 : 0 ≤ e := by omega
  have he1 : e ≤ u := by omega
  obtain ⟨two, htwo⟩ : ∃ t, t = up (u - e) p := ⟨_, rfl⟩
  obtain ⟨one, hone⟩ : ∃ t, t = up (e + 2 * o + r) (p / 2) := ⟨_, rfl⟩
  have s1 := up_spec (u - e) p (by omega) (by omega)
  have s2 := up_spec (e + 2 * o + r) (p / 2) (by omega) (by omega)
  rw [← htwo] at s1
  rw [← hone] at s2
  have t0 := s1.2.2.1
  have t1 := s1.2.2.2
  have o0 := s2.2.2.1
  have o1 := s2.2.2.2
  have s3 := up_spec two 2 t0 (by omega)
  have s4 := up_spec one 2 o0 (by omega)
  obtain ⟨th, hth⟩ : ∃ t, t = up two 2 := ⟨_, rfl⟩
  obtain ⟨oh, hoh⟩ : ∃ t, t = up one 2 := ⟨_, rfl⟩
  rw [← hth] at s3
  rw [← hoh] at s4
  have th0 := s3.2.2.1
  have th1 := s3.2.2.2
  have oh0 := s4.2.2.1
  have oh1 := s4.2.2.2
  have HD : Hid (need ⟨b, p, s, u, o, r, g, k, x⟩ n = two + th + one + oh + 24 + x) := Lib.hid (by rw [hth, hoh, htwo, hone, he]; rfl)
  rw [HD.out]
  have U1 : Hid (∀ z, z = u - e → ∀ w, Calls Try.prog 54 #[.int .i64 z, .int .i64 p] w fun e w' => e = .returned (.int .i64 two) ∧ w = w') := Lib.hid fun z hz w => by
    subst hz; rw [htwo]; exact upW (u - e) p (by omega) (by omega) (by omega) w
  have U2 : Hid (∀ z h, z = e + 2 * o + r → h = p / 2 → ∀ w, Calls Try.prog 54 #[.int .i64 z, .int .i64 h] w fun e w' => e = .returned (.int .i64 one) ∧ w = w') := Lib.hid fun z h hz hh w => by
    subst hz hh; rw [hone]; exact upW (e + 2 * o + r) (p / 2) (by omega) (by omega) (by omega) w
  have U3 := Lib.hid (upW two 2 t0 (by omega) (by omega))
  rw [← hth] at U3
  have U4 := Lib.hid (upW one 2 o0 (by omega) (by omega))
  rw [← hoh] at U4
  have hcase : (u < n ∧ e = u) ∨ (n = u ∧ e = u) ∨ (0 < n ∧ n < u ∧ e = n) ∨ (n = 0 ∧ e = 0) ∨ (n < 0 ∧ e = 0) := by omega
  have g1 : IntKind.i64.wrap (two + th) = two + th := IntWalk.i64_in _ (by omega)
  have g2 : IntKind.i64.wrap (two + th + one) = two + th + one := IntWalk.i64_in _ (by omega)
  have g3 : IntKind.i64.wrap (two + th + one + oh) = two + th + one + oh := IntWalk.i64_in _ (by omega)
  have g4 : IntKind.i64.wrap (two + th + one + oh + 24) = two + th + one + oh + 24 := IntWalk.i64_in _ (by omega)
  have g5 : IntKind.i64.wrap (two + th + one + oh + 24 + x) = two + th + one + oh + 24 + x := IntWalk.i64_in _ (by omega)
  have G := Lib.hid (And.intro g1 (And.intro g2 (And.intro g3 (And.intro g4 g5))))
  clear s1 s2 s3 s4 htwo hone hth hoh HD he g1 g2 g3 g4 g5
  rcases hcase with ⟨q1, q2⟩ | ⟨q1, q2⟩ | ⟨q1, q2, q3⟩ | ⟨q1, q2⟩ | ⟨q1, q2⟩
  · subst e
    go_enter Try.func42, Try.ntmps42
    go_wp2_with fail
    refine (U1.out _ (by omega) _).mono ?_
    rintro e w' ⟨rfl, rfl⟩
    go_wp2_with fail
    refine (U2.out _ _ (by omega) (by omega) _).mono ?_
    rintro e w' ⟨rfl, rfl⟩
    go_wp2_with fail
    obtain ⟨g1, g2, g3, g4, g5⟩ := G.out
    go_quiet ((go_at_call 54; first | (with_reducible exact quiet_left (U3.out _)) | (with_reducible exact quiet_left (U4.out _))))
    go_wp2
    go_ret
    exact ⟨rfl, below_drewN ((Below.refl _ _).alloc (Nat.le_refl _) _) _⟩
  · subst e n
    go_enter Try.func42, Try.ntmps42
    go_wp2_with fail
    refine (U1.out _ (by omega) _).mono ?_
    rintro e w' ⟨rfl, rfl⟩
    go_wp2_with fail
    refine (U2.out _ _ (by omega) (by omega) _).mono ?_
    rintro e w' ⟨rfl, rfl⟩
    go_wp2_with fail
    obtain ⟨g1, g2, g3, g4, g5⟩ := G.out
    go_quiet ((go_at_call 54; first | (with_reducible exact quiet_left (U3.out _)) | (with_reducible exact quiet_left (U4.out _))))
    go_wp2
    go_ret
    exact ⟨rfl, below_drewN ((Below.refl _ _).alloc (Nat.le_refl _) _) _⟩
  · subst e
    go_enter Try.func42, Try.ntmps42
    go_wp2_with fail
    refine (U1.out _ (by omega) _).mono ?_
    rintro e w' ⟨rfl, rfl⟩
    go_wp2_with fail
    refine (U2.out _ _ (by omega) (by omega) _).mono ?_
    rintro e w' ⟨rfl, rfl⟩
    go_wp2_with fail
    obtain ⟨g1, g2, g3, g4, g5⟩ := G.out
    go_quiet ((go_at_call 54; first | (with_reducible exact quiet_left (U3.out _)) | (with_reducible exact quiet_left (U4.out _))))
    go_wp2
    go_ret
    exact ⟨rfl, below_drewN ((Below.refl _ _).alloc (Nat.le_refl _) _) _⟩
  · subst e n
    go_enter Try.func42, Try.ntmps42
    go_wp2_with fail
    refine (U1.out _ (by omega) _).mono ?_
    rintro e w' ⟨rfl, rfl⟩
    go_wp2_with fail
    refine (U2.out _ _ (by omega) (by omega) _).mono ?_
    rintro e w' ⟨rfl, rfl⟩
    go_wp2_with fail
    obtain ⟨g1, g2, g3, g4, g5⟩ := G.out
    go_quiet ((go_at_call 54; first | (with_reducible exact quiet_left (U3.out _)) | (with_reducible exact quiet_left (U4.out _))))
    go_wp2
    go_ret
    exact ⟨rfl, below_drewN ((Below.refl _ _).alloc (Nat.le_refl _) _) _⟩
  · subst e
    go_enter Try.func42, Try.ntmps42
    go_wp2_with fail
    refine (U1.out _ (by omega) _).mono ?_
    rintro e w' ⟨rfl, rfl⟩
    go_wp2_with fail
    refine (U2.out _ _ (by omega) (by omega) _).mono ?_
    rintro e w' ⟨rfl, rfl⟩
    go_wp2_with fail
    obtain ⟨g1, g2, g3, g4, g5⟩ := G.out
    go_quiet ((go_at_call 54; first | (with_reducible exact quiet_left (U3.out _)) | (with_reducible exact quiet_left (U4.out _))))
    go_wp2
    go_ret
    exact ⟨rfl, below_drewN ((Below.refl _ _).alloc (Nat.le_refl _) _) _⟩
end Go.Proofs.Ytcggghiionlngaa.GeoC
