/- The law of the areas' split. -/
import Derived.Test.YtbnjijlpbeplmaaGeoH
namespace Go.Proofs.Ytbnjijlpbeplmaa.GeoI
open Go.ChangeShapes Go.WideShapes Go.ChangeAt Go.RowKit
open GeoM GeoC GeoD GeoE GeoF GeoG GeoH
set_option linter.unusedVariables false
set_option maxHeartbeats 2000000
/-- A bound of what is needed. -/
theorem need_le (c : Cfg) (hc : Plain c) (n : Int) : 0 ≤ need c n ∧ need c n ≤ 100000 := by
  obtain ⟨a1, a2, a3, a4, a5, a6, a7, a8, a9, a10, a11, a12, a13, a14, a15, a16, a17, a18, a19, a20⟩ := hc
  unfold need
  dsimp only
  have s1 := up_spec (c.user - max 0 (min n c.user)) c.pages (by omega) (by omega)
  have s2 := up_spec (max 0 (min n c.user) + 2 * c.boot + c.rpa) (c.pages / 2) (by omega) (by omega)
  have s3 := up_spec _ 2 s1.2.2.1 (by omega)
  have s4 := up_spec _ 2 s2.2.2.1 (by omega)
  omega

set_option maxRecDepth 100000 in
theorem lawA (b p s u o r g k x z0 z1 z2 z3 e n m : Int) (hk : ¬ check ⟨b, p, s, u, o, r, g, k, x⟩ = true) (w : World) : Calls Try.prog 4 #[.agg #[.int .i64 b, .int .i64 p, .int .i64 s, .int .i64 u, .int .i64 o, .int .i64 r, .int .i64 g, .int .i64 k, .int .i64 x], .agg #[.int .i64 z0, .int .i64 z1, .int .i64 z2, .int .i64 z3], .int .u8 e, .int .i64 n, .int .i64 m] w fun e' w' => e' = .returned (.bool true) ∧ Below w.heap.size w w' := by
  obtain ⟨w0, hw0⟩ : ∃ w0, w0 = w.alloc (.cells #[.int .i64 b, .int .i64 p, .int .i64 s, .int .i64 u, .int .i64 o, .int .i64 r, .int .i64 g, .int .i64 k, .int .i64 x] 23) := ⟨_, rfl⟩
  obtain ⟨wz, hwz⟩ : ∃ wz, wz = w0.alloc (.cells #[.int .i64 z0, .int .i64 z1, .int .i64 z2, .int .i64 z3] 34) := ⟨_, rfl⟩
  have s0 : w0.heap.size = w.heap.size + 1 := by rw [hw0]; simp
  have sz : wz.heap.size = w.heap.size + 2 := by rw [hwz]; simp [s0]
  have c1' : Mem.Blk w0 w.heap.size 23 #[.int .i64 b, .int .i64 p, .int .i64 s, .int .i64 u, .int .i64 o, .int .i64 r, .int .i64 g, .int .i64 k, .int .i64 x] := by rw [hw0]; exact Mem.Blk.new w 23 _
  have cz : Mem.Blk wz w.heap.size 23 #[.int .i64 b, .int .i64 p, .int .i64 s, .int .i64 u, .int .i64 o, .int .i64 r, .int .i64 g, .int .i64 k, .int .i64 x] := by rw [hwz]; exact c1'.alloc _
  have ez : Mem.Blk wz (w.heap.size + 1) 34 #[.int .i64 z0, .int .i64 z1, .int .i64 z2, .int .i64 z3] := by rw [hwz, ← s0]; exact Mem.Blk.new w0 34 _
  have Dz : Below w.heap.size w wz := by rw [hwz, hw0]; exact ((Below.refl _ _).alloc (Nat.le_refl _) _).alloc (by simp) _
  have HC := fun w => checkW ⟨b, p, s, u, o, r, g, k, x⟩ w
  unfold cv at HC
  unfold cc at HC
  rw [show errOf ⟨b, p, s, u, o, r, g, k, x⟩ = 1 by unfold errOf; rw [if_neg hk]] at HC
  replace HC := Lib.hid HC
  have HF := fun w => fitsW ⟨b, p, s, u, o, r, g, k, x⟩ z0 z1 z2 z3 e w
  unfold cv at HF
  unfold cc at HF
  replace HF := Lib.hid HF
  replace cz := Lib.hid cz
  replace ez := Lib.hid ez
  replace Dz := Lib.hid Dz
  replace hk := Lib.hid hk
  clear c1'
  go_enter Try.func4, Try.ntmps4
  go_wp2_with fail
  rw [← hw0, ← hwz]
  replace hw0 := Lib.hid hw0
  replace hwz := Lib.hid hwz
  refine (knownW _).mono ?_
  rintro e' w1 ⟨rfl, b1⟩
  have m1 := Mem.Blk.below cz.out b1 cz.out.lt
  have m2 := Mem.Blk.below ez.out b1 ez.out.lt
  have d1 := Lib.hid (Dz.out.trans (b1.mono Dz.out.size))
  clear b1
  obtain ⟨k0, k1, k2, k3, k4, k5, k6, k7, k8⟩ := nine m1
  go_wp2_with fail
  refine (HC.out _).mono ?_
  rintro e' w2 ⟨rfl, b2⟩
  have n1 := Mem.Blk.below m1 b2 m1.lt
  have n2 := Mem.Blk.below m2 b2 m2.lt
  have d2 := Lib.hid (d1.out.trans (b2.mono d1.out.size))
  clear b2 k0 k1 k2 k3 k4 k5 k6 k7 k8 m1 m2
  obtain ⟨k0, k1, k2, k3, k4, k5, k6, k7, k8⟩ := nine n1
  have q0 := n2.cell 0
  have q1 := n2.cell 1
  have q2 := n2.cell 2
  have q3 := n2.cell 3
  simp only [List.getElem?_toArray, List.getElem?_cons_succ, List.getElem?_cons_zero] at q0 q1 q2 q3
  go_wp2_with fail
  refine (HF.out _).mono ?_
  rintro e' w3 ⟨B, rfl, b3, hB⟩
  have p1 := Mem.Blk.below n1 b3 n1.lt
  have p2 := Mem.Blk.below n2 b3 n2.lt
  have d3 := Lib.hid (d2.out.trans (b3.mono d2.out.size))
  clear b3 k0 k1 k2 k3 k4 k5 k6 k7 k8 q0 q1 q2 q3 n1 n2
  cases B with
  | true => exact absurd (hB rfl).1 hk.out
  | false =>
    clear hB
    go_wp2
    go_ret
    exact ⟨rfl, d3.out⟩

set_option maxRecDepth 100000 in
theorem lawB (b p s u o r g k x z0 z1 z2 z3 e n m : Int) (hk : check ⟨b, p, s, u, o, r, g, k, x⟩ = true) (w : World) : Calls Try.prog 4 #[.agg #[.int .i64 b, .int .i64 p, .int .i64 s, .int .i64 u, .int .i64 o, .int .i64 r, .int .i64 g, .int .i64 k, .int .i64 x], .agg #[.int .i64 z0, .int .i64 z1, .int .i64 z2, .int .i64 z3], .int .u8 e, .int .i64 n, .int .i64 m] w fun e' w' => e' = .returned (.bool true) ∧ Below w.heap.size w w' := by
  obtain ⟨w0, hw0⟩ : ∃ w0, w0 = w.alloc (.cells #[.int .i64 b, .int .i64 p, .int .i64 s, .int .i64 u, .int .i64 o, .int .i64 r, .int .i64 g, .int .i64 k, .int .i64 x] 23) := ⟨_, rfl⟩
  obtain ⟨wz, hwz⟩ : ∃ wz, wz = w0.alloc (.cells #[.int .i64 z0, .int .i64 z1, .int .i64 z2, .int .i64 z3] 34) := ⟨_, rfl⟩
  have s0 : w0.heap.size = w.heap.size + 1 := by rw [hw0]; simp
  have sz : wz.heap.size = w.heap.size + 2 := by rw [hwz]; simp [s0]
  have c1' : Mem.Blk w0 w.heap.size 23 #[.int .i64 b, .int .i64 p, .int .i64 s, .int .i64 u, .int .i64 o, .int .i64 r, .int .i64 g, .int .i64 k, .int .i64 x] := by rw [hw0]; exact Mem.Blk.new w 23 _
  have cz : Mem.Blk wz w.heap.size 23 #[.int .i64 b, .int .i64 p, .int .i64 s, .int .i64 u, .int .i64 o, .int .i64 r, .int .i64 g, .int .i64 k, .int .i64 x] := by rw [hwz]; exact c1'.alloc _
  have ez : Mem.Blk wz (w.heap.size + 1) 34 #[.int .i64 z0, .int .i64 z1, .int .i64 z2, .int .i64 z3] := by rw [hwz, ← s0]; exact Mem.Blk.new w0 34 _
  have Dz : Below w.heap.size w wz := by rw [hwz, hw0]; exact ((Below.refl _ _).alloc (Nat.le_refl _) _).alloc (by simp) _
  have HC := fun w => checkW ⟨b, p, s, u, o, r, g, k, x⟩ w
  unfold cv at HC
  unfold cc at HC
  rw [show errOf ⟨b, p, s, u, o, r, g, k, x⟩ = 0 by unfold errOf; rw [if_pos hk]] at HC
  replace HC := Lib.hid HC
  have HF := fun w => fitsW ⟨b, p, s, u, o, r, g, k, x⟩ z0 z1 z2 z3 e w
  unfold cv at HF
  unfold cc at HF
  replace HF := Lib.hid HF
  replace cz := Lib.hid cz
  replace ez := Lib.hid ez
  replace Dz := Lib.hid Dz
  replace hk := Lib.hid hk
  clear c1'
  go_enter Try.func4, Try.ntmps4
  go_wp2_with fail
  rw [← hw0, ← hwz]
  replace hw0 := Lib.hid hw0
  replace hwz := Lib.hid hwz
  refine (knownW _).mono ?_
  rintro e' w1 ⟨rfl, b1⟩
  have m1 := Mem.Blk.below cz.out b1 cz.out.lt
  have m2 := Mem.Blk.below ez.out b1 ez.out.lt
  have d1 := Lib.hid (Dz.out.trans (b1.mono Dz.out.size))
  clear b1
  obtain ⟨k0, k1, k2, k3, k4, k5, k6, k7, k8⟩ := nine m1
  go_wp2_with fail
  refine (HC.out _).mono ?_
  rintro e' w2 ⟨rfl, b2⟩
  have n1 := Mem.Blk.below m1 b2 m1.lt
  have n2 := Mem.Blk.below m2 b2 m2.lt
  have d2 := Lib.hid (d1.out.trans (b2.mono d1.out.size))
  clear b2 k0 k1 k2 k3 k4 k5 k6 k7 k8 m1 m2
  obtain ⟨k0, k1, k2, k3, k4, k5, k6, k7, k8⟩ := nine n1
  have q0 := n2.cell 0
  have q1 := n2.cell 1
  have q2 := n2.cell 2
  have q3 := n2.cell 3
  simp only [List.getElem?_toArray, List.getElem?_cons_succ, List.getElem?_cons_zero] at q0 q1 q2 q3
  go_wp2_with fail
  refine (HF.out _).mono ?_
  rintro e' w3 ⟨B, rfl, b3, hB⟩
  have p1 := Mem.Blk.below n1 b3 n1.lt
  have p2 := Mem.Blk.below n2 b3 n2.lt
  have d3 := Lib.hid (d2.out.trans (b3.mono d2.out.size))
  clear b3 k0 k1 k2 k3 k4 k5 k6 k7 k8 q0 q1 q2 q3 n1 n2
  have hp := Lib.hid (check_plain hk.out).1
  cases B with
  | false =>
    clear hB
    obtain ⟨k0, k1, k2, k3, k4, k5, k6, k7, k8⟩ := nine p1
    by_cases hb : n < 0 ∨ m < n ∨ u < m
    · rcases hb with hb | hb | hb
      · go_wp2
        go_ret
        exact ⟨rfl, d3.out⟩
      · by_cases hn0 : n < 0
        · go_wp2
          go_ret
          exact ⟨rfl, d3.out⟩
        · go_wp2
          go_ret
          exact ⟨rfl, d3.out⟩
      · by_cases hn0 : n < 0
        · go_wp2
          go_ret
          exact ⟨rfl, d3.out⟩
        · by_cases hn1 : m < n
          · go_wp2
            go_ret
            exact ⟨rfl, d3.out⟩
          · go_wp2
            go_ret
            exact ⟨rfl, d3.out⟩
    · have hn0 : ¬ n < 0 := by omega
      have hn1 : ¬ m < n := by omega
      have hn2 : ¬ u < m := by omega
      have hmono := need_mono ⟨b, p, s, u, o, r, g, k, x⟩ hp.out n m (by omega) (by omega) (by show m ≤ u; omega)
      have hbd := need_le ⟨b, p, s, u, o, r, g, k, x⟩ hp.out m
      have hN := Lib.hid (fun w => needW ⟨b, p, s, u, o, r, g, k, x⟩ hp.out n w)
      have hM := Lib.hid (fun w => needW ⟨b, p, s, u, o, r, g, k, x⟩ hp.out m w)
      unfold cv cc at hN hM
      generalize need ⟨b, p, s, u, o, r, g, k, x⟩ n = N at hN hmono
      generalize need ⟨b, p, s, u, o, r, g, k, x⟩ m = M at hM hmono hbd
      have D3 : Hid (Below w3.heap.size w3 w3.drew) := Lib.hid (Below.refl _ _).drew
      have hm3 := Lib.hid p1
      go_wp2_with fail
      refine wp_region_held_drew (S := fun w' => w'.cell? ⟨w.heap.size, 0, none⟩ = some (.int .i64 b) ∧ w'.cell? ⟨w.heap.size, 1, none⟩ = some (.int .i64 p) ∧ w'.cell? ⟨w.heap.size, 2, none⟩ = some (.int .i64 s) ∧ w'.cell? ⟨w.heap.size, 3, none⟩ = some (.int .i64 u) ∧ w'.cell? ⟨w.heap.size, 4, none⟩ = some (.int .i64 o) ∧ w'.cell? ⟨w.heap.size, 5, none⟩ = some (.int .i64 r) ∧ w'.cell? ⟨w.heap.size, 6, none⟩ = some (.int .i64 g) ∧ w'.cell? ⟨w.heap.size, 7, none⟩ = some (.int .i64 k) ∧ w'.cell? ⟨w.heap.size, 8, none⟩ = some (.int .i64 x)) (by kernel_rfl) (nine (Mem.Blk.below hm3.out D3.out hm3.out.lt)) (fun hS => ?_)
      refine wpAnyH_take (i := 0) (v := ?_) (by simp only [List.getElem?_toArray, List.getElem?_cons_succ, List.getElem?_cons_zero]; rfl) (by kernel_rfl) (by kernel_rfl) (by kernel_rfl) (by exact fun _ _ _ h => h) (Or.inl ⟨by rfl, ?_⟩) hS ?_
      rotate_left
      · intro w hSw
        go_simp
        try with_reducible rfl
      try simp only [Act.put, List.setIfInBounds_toArray, List.set_cons_zero, List.set_cons_succ]
      refine wpAnyH_take (i := 1) (v := ?_) (by simp only [List.getElem?_toArray, List.getElem?_cons_succ, List.getElem?_cons_zero]; rfl) (by kernel_rfl) (by kernel_rfl) (by kernel_rfl) (by exact fun _ _ _ h => h) (Or.inl ⟨by rfl, ?_⟩) hS ?_
      rotate_left
      · intro w hSw
        go_simp
        try with_reducible rfl
      try simp only [Act.put, List.setIfInBounds_toArray, List.set_cons_zero, List.set_cons_succ]
      refine wpAnyH_take (i := 3) (v := ?_) (by simp only [List.getElem?_toArray, List.getElem?_cons_succ, List.getElem?_cons_zero]; rfl) (by kernel_rfl) (by kernel_rfl) (by kernel_rfl) (by exact fun _ _ _ h => h) (Or.inl ⟨by rfl, ?_⟩) hS ?_
      rotate_left
      · intro w hSw
        go_simp
        try with_reducible rfl
      try simp only [Act.put, List.setIfInBounds_toArray, List.set_cons_zero, List.set_cons_succ]
      refine wpAnyH_take (i := 4) (v := ?_) (by simp only [List.getElem?_toArray, List.getElem?_cons_succ, List.getElem?_cons_zero]; rfl) (by kernel_rfl) (by kernel_rfl) (by kernel_rfl) (by exact fun _ _ _ h => h) (Or.inl ⟨by rfl, ?_⟩) hS ?_
      rotate_left
      · intro w hSw
        go_simp
        try with_reducible rfl
      try simp only [Act.put, List.setIfInBounds_toArray, List.set_cons_zero, List.set_cons_succ]
      refine wpAnyH_ready (rs := [2]) (by kernel_rfl) (by simp) ?_
      refine AllReadyH.cons (by simp only [List.getElem?_toArray, List.getElem?_cons_succ, List.getElem?_cons_zero]; rfl) (fun K hK => ?_) AllReadyH.nil
      go_simp
      go_at_call 19
      refine (hN.out _).mono ?_
      rintro e' w4 ⟨rfl, b4⟩
      refine hK.out _ _ (nine (Mem.Blk.below hm3.out (D3.out.trans (b4.mono D3.out.size)) hm3.out.lt)) (fun hS => ?_)
      clear hK K
      try simp only [Act.put, List.setIfInBounds_toArray, List.set_cons_zero, List.set_cons_succ]
      have D4 := Lib.hid (D3.out.trans (b4.mono D3.out.size))
      clear b4
      refine wpAnyH_ready (rs := [5]) (by kernel_rfl) (by simp) ?_
      refine AllReadyH.cons (by simp only [List.getElem?_toArray, List.getElem?_cons_succ, List.getElem?_cons_zero]; rfl) (fun K hK => ?_) AllReadyH.nil
      go_simp
      go_at_call 19
      refine (hM.out _).mono ?_
      rintro e' w5 ⟨rfl, b5⟩
      refine hK.out _ _ (nine (Mem.Blk.below hm3.out (D4.out.trans (b5.mono D4.out.size)) hm3.out.lt)) (fun hS => ?_)
      clear hK K
      try simp only [Act.put, List.setIfInBounds_toArray, List.set_cons_zero, List.set_cons_succ]
      refine wpAnyH_take (i := 6) (v := ?_) (by simp only [List.getElem?_toArray, List.getElem?_cons_succ, List.getElem?_cons_zero]; rfl) (by kernel_rfl) (by kernel_rfl) (by kernel_rfl) (by exact fun _ _ _ h => h) (Or.inl ⟨by rfl, ?_⟩) hS ?_
      rotate_left
      · intro w hSw
        go_simp
        try with_reducible rfl
      try simp only [Act.put, List.setIfInBounds_toArray, List.set_cons_zero, List.set_cons_succ]
      refine wpAnyH_take (i := 7) (v := ?_) (by simp only [List.getElem?_toArray, List.getElem?_cons_succ, List.getElem?_cons_zero]; rfl) (by kernel_rfl) (by kernel_rfl) (by kernel_rfl) (by exact fun _ _ _ h => h) (Or.inl ⟨by rfl, ?_⟩) hS ?_
      rotate_left
      · intro w hSw
        go_simp
        try with_reducible rfl
      try simp only [Act.put, List.setIfInBounds_toArray, List.set_cons_zero, List.set_cons_succ]
      refine wpAnyH_take (i := 8) (v := ?_) (by simp only [List.getElem?_toArray, List.getElem?_cons_succ, List.getElem?_cons_zero]; rfl) (by kernel_rfl) (by kernel_rfl) (by kernel_rfl) (by exact fun _ _ _ h => h) (Or.inl ⟨by rfl, ?_⟩) hS ?_
      rotate_left
      · intro w hSw
        go_simp
        try with_reducible rfl
      try simp only [Act.put, List.setIfInBounds_toArray, List.set_cons_zero, List.set_cons_succ]
      refine wpAnyH_done (by kernel_rfl) ?_ _
      go_wp2
      go_ret
      obtain ⟨hbd1, hbd2⟩ := hbd
      have hw : IntKind.i64.wrap (M + 3) = M + 3 := IntWalk.i64_in _ (by omega)
      refine ⟨?_, d3.out.trans ((D4.out.trans (b5.mono D4.out.size)).mono d3.out.size)⟩
      simp [hw]
      omega

  | true =>
    obtain ⟨-, hz, hsum⟩ := hB rfl
    have hgrl := (check_plain hk.out).2.2.1
    have hpp := hp.out
    unfold Plain at hpp
    simp only at hpp
    have hgr : groups ⟨b, p, s, u, o, r, g, k, x⟩ = u / g := rfl
    rw [hgr] at hsum hgrl
    have hmul : (u / g) * g ≤ u := Int.ediv_mul_le _ (by omega)
    have hm0 := GeoF.mul_bd (z := z0) (g := g) (by omega) (by omega)
    have hm1 := GeoF.mul_bd (z := z1) (g := g) (by omega) (by omega)
    have hm2 := GeoF.mul_bd (z := z2) (g := g) (by omega) (by omega)
    have hm3 := GeoF.mul_bd (z := z3) (g := g) (by omega) (by omega)
    have hge : g ≤ u - z0 * g - z1 * g - z2 * g - z3 * g := by
      have h1 : (z0 + z1 + z2 + z3 + 1) * g ≤ (u / g) * g := Int.mul_le_mul_of_nonneg_right (by omega) (by omega)
      have h2 : (z0 + z1 + z2 + z3 + 1) * g = z0 * g + z1 * g + z2 * g + z3 * g + g := by
        rw [Int.add_mul, Int.add_mul, Int.add_mul, Int.add_mul, Int.one_mul]
      omega
    have H18 := fun w => GeoF.sizesW b p s u o r g k x z0 z1 z2 z3 ⟨by omega, by omega⟩ ⟨by omega, by omega⟩ ⟨⟨by omega, by omega⟩, ⟨by omega, by omega⟩, ⟨by omega, by omega⟩, ⟨by omega, by omega⟩⟩ w
    obtain ⟨v0, hv0⟩ : ∃ v, v = u - z0 * g - z1 * g - z2 * g - z3 * g := ⟨_, rfl⟩
    obtain ⟨v4, hv4⟩ : ∃ v, v = z0 * g := ⟨_, rfl⟩
    obtain ⟨v5, hv5⟩ : ∃ v, v = z1 * g := ⟨_, rfl⟩
    obtain ⟨v6, hv6⟩ : ∃ v, v = z2 * g := ⟨_, rfl⟩
    obtain ⟨v7, hv7⟩ : ∃ v, v = z3 * g := ⟨_, rfl⟩
    rw [← hv0, ← hv4, ← hv5, ← hv6, ← hv7] at H18
    have hall : v0 + o + o + r + v4 + v5 + v6 + v7 = u + 2 * o + r := by omega
    have hbb : (0 ≤ v0 ∧ v0 ≤ 16384) ∧ (1 ≤ o ∧ o ≤ 256) ∧ (1 ≤ r ∧ r ≤ 256) ∧ (0 ≤ v4 ∧ v4 ≤ 524288) ∧ (0 ≤ v5 ∧ v5 ≤ 524288) ∧ (0 ≤ v6 ∧ v6 ≤ 524288) ∧ (0 ≤ v7 ∧ v7 ≤ 524288) ∧ g ≤ v0 ∧ (1 ≤ u ∧ u ≤ 16384) := by omega
    replace hall := Lib.hid hall
    clear hv0 hv4 hv5 hv6 hv7 hge hm0 hm1 hm2 hm3 hmul hsum hz hB hgrl hgr hpp
    replace H18 := Lib.hid H18
    obtain ⟨⟨g0, g0'⟩, ⟨g1, g1'⟩, ⟨g3, g3'⟩, ⟨g4, g4'⟩, ⟨g5, g5'⟩, ⟨g6, g6'⟩, ⟨g7, g7'⟩, hgv, ⟨gu, gu'⟩⟩ := hbb
    obtain ⟨k0, k1, k2, k3, k4, k5, k6, k7, k8⟩ := nine p1
    have q0 := p2.cell 0
    have q1 := p2.cell 1
    have q2 := p2.cell 2
    have q3 := p2.cell 3
    simp only [List.getElem?_toArray, List.getElem?_cons_succ, List.getElem?_cons_zero] at q0 q1 q2 q3
    go_wp2_with fail
    refine (H18.out _).mono ?_
    rintro e' w4 ⟨rfl, b4⟩
    have r1 := Mem.Blk.below p1 b4 p1.lt
    have d4 := Lib.hid (d3.out.trans (b4.mono d3.out.size))
    clear b4 k0 k1 k2 k3 k4 k5 k6 k7 k8 q0 q1 q2 q3 p1 p2
    go_wp2_with fail
    obtain ⟨wq, hwq⟩ : ∃ wq, wq = w4.alloc (.cells #[.int .i64 v0, .int .i64 o, .int .i64 o, .int .i64 r, .int .i64 v4, .int .i64 v5, .int .i64 v6, .int .i64 v7] 36) := ⟨_, rfl⟩
    have u1 : Mem.Blk wq w.heap.size 23 #[.int .i64 b, .int .i64 p, .int .i64 s, .int .i64 u, .int .i64 o, .int .i64 r, .int .i64 g, .int .i64 k, .int .i64 x] := by rw [hwq]; exact r1.alloc _
    have u2 : Mem.Blk wq w4.heap.size 36 #[.int .i64 v0, .int .i64 o, .int .i64 o, .int .i64 r, .int .i64 v4, .int .i64 v5, .int .i64 v6, .int .i64 v7] := by rw [hwq]; exact Mem.Blk.new w4 36 _
    have d5 : Hid (Below w.heap.size w wq) := Lib.hid (by rw [hwq]; exact d4.out.alloc d4.out.size _)
    try rw [← hwq]
    replace hwq := Lib.hid hwq
    have c0 := u2.cell 0
    have c1 := u2.cell 1
    have c2 := u2.cell 2
    have c3 := u2.cell 3
    have c4 := u2.cell 4
    have c5 := u2.cell 5
    have c6 := u2.cell 6
    have c7 := u2.cell 7
    simp only [List.getElem?_toArray, List.getElem?_cons_succ, List.getElem?_cons_zero] at c0 c1 c2 c3 c4 c5 c6 c7
    replace hk := hk
    go_loopw [12, 13, 32] (fun sm i _ wr => (i = .int .i64 0 ∧ sm = .int .i64 (0 : Int) ∧ wr = wq) ∨ (i = .int .i64 1 ∧ sm = .int .i64 (v0 : Int) ∧ wr = wq) ∨ (i = .int .i64 2 ∧ sm = .int .i64 (v0 + o : Int) ∧ wr = wq) ∨ (i = .int .i64 3 ∧ sm = .int .i64 (v0 + o + o : Int) ∧ wr = wq) ∨ (i = .int .i64 4 ∧ sm = .int .i64 (v0 + o + o + r : Int) ∧ wr = wq) ∨ (i = .int .i64 5 ∧ sm = .int .i64 (v0 + o + o + r + v4 : Int) ∧ wr = wq) ∨ (i = .int .i64 6 ∧ sm = .int .i64 (v0 + o + o + r + v4 + v5 : Int) ∧ wr = wq) ∨ (i = .int .i64 7 ∧ sm = .int .i64 (v0 + o + o + r + v4 + v5 + v6 : Int) ∧ wr = wq) ∨ (i = .int .i64 8 ∧ sm = .int .i64 (v0 + o + o + r + v4 + v5 + v6 + v7 : Int) ∧ wr = wq)) (fun _ i _ _ => (8 - intOf i).toNat)
    case atStart => exact .inl ⟨rfl, rfl, rfl⟩
    case round =>
      rcases hrel with ⟨rfl, rfl, rfl⟩ | ⟨rfl, rfl, rfl⟩ | ⟨rfl, rfl, rfl⟩ | ⟨rfl, rfl, rfl⟩ | ⟨rfl, rfl, rfl⟩ | ⟨rfl, rfl, rfl⟩ | ⟨rfl, rfl, rfl⟩ | ⟨rfl, rfl, rfl⟩ | ⟨rfl, rfl, rfl⟩
      · go_wp2
        go_roundw
        case rel => exact .inr (.inl ⟨rfl, by first | rfl | simp, by first | rfl | trivial⟩)
        case measure => simp [intOf]
      · go_wp2
        go_roundw
        case rel => exact .inr (.inr (.inl ⟨rfl, by first | rfl | simp, by first | rfl | trivial⟩))
        case measure => simp [intOf]
      · go_wp2
        go_roundw
        case rel => exact .inr (.inr (.inr (.inl ⟨rfl, by first | rfl | simp, by first | rfl | trivial⟩)))
        case measure => simp [intOf]
      · go_wp2
        go_roundw
        case rel => exact .inr (.inr (.inr (.inr (.inl ⟨rfl, by first | rfl | simp, by first | rfl | trivial⟩))))
        case measure => simp [intOf]
      · go_wp2
        go_roundw
        case rel => exact .inr (.inr (.inr (.inr (.inr (.inl ⟨rfl, by first | rfl | simp, by first | rfl | trivial⟩)))))
        case measure => simp [intOf]
      · go_wp2
        go_roundw
        case rel => exact .inr (.inr (.inr (.inr (.inr (.inr (.inl ⟨rfl, by first | rfl | simp, by first | rfl | trivial⟩))))))
        case measure => simp [intOf]
      · go_wp2
        go_roundw
        case rel => exact .inr (.inr (.inr (.inr (.inr (.inr (.inr (.inl ⟨rfl, by first | rfl | simp, by first | rfl | trivial⟩)))))))
        case measure => simp [intOf]
      · go_wp2
        go_roundw
        case rel => exact .inr (.inr (.inr (.inr (.inr (.inr (.inr (.inr (⟨rfl, by first | rfl | simp, by first | rfl | trivial⟩))))))))
        case measure => simp [intOf]
      · obtain ⟨k0, k1, k2, k3, k4, k5, k6, k7, k8⟩ := nine u1
        replace hall := hall.out
        by_cases hb : n < 0 ∨ m < n ∨ u < m
        · rcases hb with hb | hb | hb
          · go_wp2
            go_ret
            exact ⟨rfl, d5.out⟩
          · by_cases hn0 : n < 0
            · go_wp2
              go_ret
              exact ⟨rfl, d5.out⟩
            · go_wp2
              go_ret
              exact ⟨rfl, d5.out⟩
          · by_cases hn0 : n < 0
            · go_wp2
              go_ret
              exact ⟨rfl, d5.out⟩
            · by_cases hn1 : m < n
              · go_wp2
                go_ret
                exact ⟨rfl, d5.out⟩
              · go_wp2
                go_ret
                exact ⟨rfl, d5.out⟩
        · have hn0 : ¬ n < 0 := by omega
          have hn1 : ¬ m < n := by omega
          have hn2 : ¬ u < m := by omega
          have hmono := need_mono ⟨b, p, s, u, o, r, g, k, x⟩ hp.out n m (by omega) (by omega) (by show m ≤ u; omega)
          have hbd := need_le ⟨b, p, s, u, o, r, g, k, x⟩ hp.out m
          have hN := Lib.hid (fun w => needW ⟨b, p, s, u, o, r, g, k, x⟩ hp.out n w)
          have hM := Lib.hid (fun w => needW ⟨b, p, s, u, o, r, g, k, x⟩ hp.out m w)
          unfold cv cc at hN hM
          generalize need ⟨b, p, s, u, o, r, g, k, x⟩ n = N at hN hmono
          generalize need ⟨b, p, s, u, o, r, g, k, x⟩ m = M at hM hmono hbd
          have D3 : Hid (Below wr.heap.size wr wr.drew) := Lib.hid (Below.refl _ _).drew
          have hm3 := Lib.hid u1
          go_wp2_with fail
          refine wp_region_held_drew (S := fun w' => w'.cell? ⟨w.heap.size, 0, none⟩ = some (.int .i64 b) ∧ w'.cell? ⟨w.heap.size, 1, none⟩ = some (.int .i64 p) ∧ w'.cell? ⟨w.heap.size, 2, none⟩ = some (.int .i64 s) ∧ w'.cell? ⟨w.heap.size, 3, none⟩ = some (.int .i64 u) ∧ w'.cell? ⟨w.heap.size, 4, none⟩ = some (.int .i64 o) ∧ w'.cell? ⟨w.heap.size, 5, none⟩ = some (.int .i64 r) ∧ w'.cell? ⟨w.heap.size, 6, none⟩ = some (.int .i64 g) ∧ w'.cell? ⟨w.heap.size, 7, none⟩ = some (.int .i64 k) ∧ w'.cell? ⟨w.heap.size, 8, none⟩ = some (.int .i64 x)) (by kernel_rfl) (nine (Mem.Blk.below hm3.out D3.out hm3.out.lt)) (fun hS => ?_)
          refine wpAnyH_take (i := 0) (v := ?_) (by simp only [List.getElem?_toArray, List.getElem?_cons_succ, List.getElem?_cons_zero]; rfl) (by kernel_rfl) (by kernel_rfl) (by kernel_rfl) (by exact fun _ _ _ h => h) (Or.inl ⟨by rfl, ?_⟩) hS ?_
          rotate_left
          · intro w hSw
            go_simp
            try with_reducible rfl
          try simp only [Act.put, List.setIfInBounds_toArray, List.set_cons_zero, List.set_cons_succ]
          refine wpAnyH_take (i := 1) (v := ?_) (by simp only [List.getElem?_toArray, List.getElem?_cons_succ, List.getElem?_cons_zero]; rfl) (by kernel_rfl) (by kernel_rfl) (by kernel_rfl) (by exact fun _ _ _ h => h) (Or.inl ⟨by rfl, ?_⟩) hS ?_
          rotate_left
          · intro w hSw
            go_simp
            try with_reducible rfl
          try simp only [Act.put, List.setIfInBounds_toArray, List.set_cons_zero, List.set_cons_succ]
          refine wpAnyH_take (i := 3) (v := ?_) (by simp only [List.getElem?_toArray, List.getElem?_cons_succ, List.getElem?_cons_zero]; rfl) (by kernel_rfl) (by kernel_rfl) (by kernel_rfl) (by exact fun _ _ _ h => h) (Or.inl ⟨by rfl, ?_⟩) hS ?_
          rotate_left
          · intro w hSw
            go_simp
            try with_reducible rfl
          try simp only [Act.put, List.setIfInBounds_toArray, List.set_cons_zero, List.set_cons_succ]
          refine wpAnyH_take (i := 4) (v := ?_) (by simp only [List.getElem?_toArray, List.getElem?_cons_succ, List.getElem?_cons_zero]; rfl) (by kernel_rfl) (by kernel_rfl) (by kernel_rfl) (by exact fun _ _ _ h => h) (Or.inl ⟨by rfl, ?_⟩) hS ?_
          rotate_left
          · intro w hSw
            go_simp
            try with_reducible rfl
          try simp only [Act.put, List.setIfInBounds_toArray, List.set_cons_zero, List.set_cons_succ]
          refine wpAnyH_ready (rs := [2]) (by kernel_rfl) (by simp) ?_
          refine AllReadyH.cons (by simp only [List.getElem?_toArray, List.getElem?_cons_succ, List.getElem?_cons_zero]; rfl) (fun K hK => ?_) AllReadyH.nil
          go_simp
          go_at_call 19
          refine (hN.out _).mono ?_
          rintro e' w4 ⟨rfl, b4⟩
          refine hK.out _ _ (nine (Mem.Blk.below hm3.out (D3.out.trans (b4.mono D3.out.size)) hm3.out.lt)) (fun hS => ?_)
          clear hK K
          try simp only [Act.put, List.setIfInBounds_toArray, List.set_cons_zero, List.set_cons_succ]
          have D4 := Lib.hid (D3.out.trans (b4.mono D3.out.size))
          clear b4
          refine wpAnyH_ready (rs := [5]) (by kernel_rfl) (by simp) ?_
          refine AllReadyH.cons (by simp only [List.getElem?_toArray, List.getElem?_cons_succ, List.getElem?_cons_zero]; rfl) (fun K hK => ?_) AllReadyH.nil
          go_simp
          go_at_call 19
          refine (hM.out _).mono ?_
          rintro e' w5 ⟨rfl, b5⟩
          refine hK.out _ _ (nine (Mem.Blk.below hm3.out (D4.out.trans (b5.mono D4.out.size)) hm3.out.lt)) (fun hS => ?_)
          clear hK K
          try simp only [Act.put, List.setIfInBounds_toArray, List.set_cons_zero, List.set_cons_succ]
          refine wpAnyH_take (i := 6) (v := ?_) (by simp only [List.getElem?_toArray, List.getElem?_cons_succ, List.getElem?_cons_zero]; rfl) (by kernel_rfl) (by kernel_rfl) (by kernel_rfl) (by exact fun _ _ _ h => h) (Or.inl ⟨by rfl, ?_⟩) hS ?_
          rotate_left
          · intro w hSw
            go_simp
            try with_reducible rfl
          try simp only [Act.put, List.setIfInBounds_toArray, List.set_cons_zero, List.set_cons_succ]
          refine wpAnyH_take (i := 7) (v := ?_) (by simp only [List.getElem?_toArray, List.getElem?_cons_succ, List.getElem?_cons_zero]; rfl) (by kernel_rfl) (by kernel_rfl) (by kernel_rfl) (by exact fun _ _ _ h => h) (Or.inl ⟨by rfl, ?_⟩) hS ?_
          rotate_left
          · intro w hSw
            go_simp
            try with_reducible rfl
          try simp only [Act.put, List.setIfInBounds_toArray, List.set_cons_zero, List.set_cons_succ]
          refine wpAnyH_take (i := 8) (v := ?_) (by simp only [List.getElem?_toArray, List.getElem?_cons_succ, List.getElem?_cons_zero]; rfl) (by kernel_rfl) (by kernel_rfl) (by kernel_rfl) (by exact fun _ _ _ h => h) (Or.inl ⟨by rfl, ?_⟩) hS ?_
          rotate_left
          · intro w hSw
            go_simp
            try with_reducible rfl
          try simp only [Act.put, List.setIfInBounds_toArray, List.set_cons_zero, List.set_cons_succ]
          refine wpAnyH_done (by kernel_rfl) ?_ _
          go_wp2
          go_ret
          obtain ⟨hbd1, hbd2⟩ := hbd
          have hw : IntKind.i64.wrap (M + 3) = M + 3 := IntWalk.i64_in _ (by omega)
          refine ⟨?_, d5.out.trans ((D4.out.trans (b5.mono D4.out.size)).mono d5.out.size)⟩
          simp [hw]
          omega

set_option maxRecDepth 100000 in
theorem law (b p s u o r g k x z0 z1 z2 z3 e n m : Int)  (w : World) : Calls Try.prog 4 #[.agg #[.int .i64 b, .int .i64 p, .int .i64 s, .int .i64 u, .int .i64 o, .int .i64 r, .int .i64 g, .int .i64 k, .int .i64 x], .agg #[.int .i64 z0, .int .i64 z1, .int .i64 z2, .int .i64 z3], .int .u8 e, .int .i64 n, .int .i64 m] w fun e' w' => e' = .returned (.bool true) ∧ Below w.heap.size w w' := by
  by_cases hk : check ⟨b, p, s, u, o, r, g, k, x⟩ = true
  · exact lawB b p s u o r g k x z0 z1 z2 z3 e n m hk w
  · exact lawA b p s u o r g k x z0 z1 z2 z3 e n m hk w

end Go.Proofs.Ytbnjijlpbeplmaa.GeoI
