/- The document's table: made, set, powered up. -/
import Derived.Test.YtcggghiionlngaaAreZ2
import Derived.Test.YtcggghiionlngaaAreV
import Derived.Test.YtcggghiionlngaaAreN
namespace Go.Proofs.Ytcggghiionlngaa.AreZ3
open Go.ChangeShapes Go.WideShapes Go.ChangeAt Go.RowKit
open Mem GeoM GeoC GeoD GeoE GeoF AreA AreB AreC AreD AreF AreG AreH AreI AreJ AreK AreL AreN AreZ1 AreZ2
open AreV (i37)
open AreP (Fine)
set_option linter.unusedVariables false
set_option maxHeartbeats 4000000

theorem groups_pos (c : Cfg) (h : check c = true) : 0 < groups c := by
  obtain ⟨hp, hr, _⟩ := check_plain h
  have e := Int.mul_ediv_cancel_of_emod_eq_zero (a := c.user) (b := c.group) hr
  have h1 : 1 ≤ c.user := hp.2.2.2.2.2.2.2.2.1
  have h2 : 1 ≤ c.group := hp.2.2.2.2.2.2.2.2.2.2.2.2.2.2.1
  rcases Int.lt_or_le 0 (groups c) with h | h
  · exact h
  · have := Int.mul_le_mul_of_nonneg_left h (show 0 ≤ c.group by omega)
    unfold groups at this
    rw [Int.mul_zero] at this
    omega
theorem tb0 (k : Nat) : tb 0 k = false := by
  unfold tb
  rw [Int.zero_ediv]
  decide
theorem enN0 (c : Cfg) (a : Stt) : ∀ k, enN c a 0 k = 0
  | 0 => rfl
  | k + 1 => by rw [enN_succ, enN0 c a k, tb0]; rfl
theorem fits0 (c : Cfg) (h : check c = true) : fitsV c 0 0 0 0 0 = true := by
  have hg := groups_pos c h
  have hn := (check_plain h).2.2.2
  unfold fitsV
  rw [h, enN0]
  simp only [Bool.true_and, Bool.and_eq_true, decide_eq_true_eq]
  exact ⟨⟨⟨by decide, by omega⟩, by omega⟩, hn⟩
theorem mayV_eq (c : Cfg) (s : Stt) (h : check c = true) : mayV c s = (!s.d || fitsV c s.z0 s.z1 s.z2 s.z3 s.e) := by
  unfold mayV
  by_cases hz : (s.z0 = 0 ∧ s.z1 = 0 ∧ s.z2 = 0 ∧ s.z3 = 0) ∧ s.e = 0
  · obtain ⟨⟨h0, h1, h2, h3⟩, h4⟩ := hz
    rw [h0, h1, h2, h3, h4, fits0 c h]
    simp
  · have : (decide (s.z0 = 0 ∧ s.z1 = 0 ∧ s.z2 = 0 ∧ s.z3 = 0) && decide (s.e = 0)) = false := by
      rw [Bool.and_eq_false_iff]
      rcases Decidable.not_and_iff_or_not.1 hz with h | h
      · exact .inl (decide_eq_false h)
      · exact .inr (decide_eq_false h)
    rw [this]
    simp

/-- The document's table. -/
structure Rt (w : World) (g : Nat) (c : Cfg) (l a : Stt) : Prop where
  lt : g < w.heap.size
  cfg : w.rangeAt g 0 (cc c).toList
  last : w.rangeAt g 9 (sc l).toList
  act : w.rangeAt g 15 (sc a).toList
  there : w.there g 0 21
section
variable {w w' : World} {g : Nat} {c : Cfg} {l a : Stt}
theorem Rt.below {B : Nat} (h : Rt w g c l a) (hb : Below B w w') (hg : g < B) : Rt w' g c l a :=
  ⟨Nat.lt_of_lt_of_le h.lt hb.size, range_below h.cfg hb hg, range_below h.last hb hg, range_below h.act hb hg, there_below h.there hb hg⟩
theorem Rt.sub (h : Rt w g c l a) (o n : Nat) (hn : o + n ≤ 21) : w.there g o n := fun j hj => by
  have := h.there (o + j) (by omega)
  rwa [Nat.zero_add] at this
theorem rt_setLast (h : Rt w g c l a) (l' : Stt) : Rt (w.setCells g 9 (sc l').toList) g c l' a := by
  have e9 : (cc c).toList.length = 9 := rfl
  have e6 : (sc l').toList.length = 6 := rfl
  exact ⟨Nat.lt_of_lt_of_le h.lt (below_setCells (B := 0) (Nat.zero_le _) _ 9 w (Below.refl 0 w)).size, World.rangeAt_setCells_apart h.cfg g 9 _ (.inr (.inl (by omega))), World.rangeAt_setCells_same w g 9 _ (h.sub 9 6 (by omega)), World.rangeAt_setCells_apart h.act g 9 _ (.inr (.inr (by omega))), World.there_setCells h.there g 9 _⟩
theorem Rt.lastDone (h : Rt w g c l a) : w.cell? ⟨g, 14, none⟩ = some (.bool l.d) := h.last 5 _ rfl
theorem Rt.done (h : Rt w g c l a) : w.cell? ⟨g, 20, none⟩ = some (.bool a.d) := h.act 5 _ rfl
theorem rt_kept {g1 : Nat} (h : Rt w g c l a) (hb : w.grownBy w' (some g1)) (hne : g ≠ g1) : Rt w' g c l a := by
  have hq : w'.heap[g]? = w.heap[g]? := hb.block g h.lt (fun e => by injection e with e; exact hne e)
  have hc : ∀ i, w'.cell? ⟨g, i, none⟩ = w.cell? ⟨g, i, none⟩ := fun i => World.cell?_of_block hq
  have hf : ∀ i, w'.frozen? ⟨g, i, none⟩ = w.frozen? ⟨g, i, none⟩ := fun i => World.frozen?_of_block hq
  refine ⟨Nat.lt_of_lt_of_le h.lt hb.size, fun j v hv => (hc _).trans (h.cfg j v hv), fun j v hv => (hc _).trans (h.last j v hv), fun j v hv => (hc _).trans (h.act j v hv), fun j hj => ?_⟩
  obtain ⟨h1, h2⟩ := h.there j hj
  exact ⟨by rw [hc]; exact h1, by rw [hf]; exact h2⟩
theorem rtOf (h : Mem.Blk w g 81 ((cc c).toList ++ ((sc l).toList ++ (sc a).toList)).toArray) : Rt w g c l a := by
  have e9 : (cc c).toList.length = 9 := rfl
  have e6 : (sc l).toList.length = 6 := rfl
  have e7 : (sc a).toList.length = 6 := rfl
  refine ⟨h.lt, fun j v hv => ?_, fun j v hv => ?_, fun j v hv => ?_, h.there 21 (by rw [List.size_toArray, List.length_append, List.length_append, e9, e6, e7]; exact Nat.le_refl _)⟩
  · rw [Nat.zero_add, h.cell]
    have hj := (List.getElem?_eq_some_iff.1 hv).1
    rw [List.getElem?_toArray, List.getElem?_append_left hj]; exact hv
  · rw [h.cell]
    have hj := (List.getElem?_eq_some_iff.1 hv).1
    rw [List.getElem?_toArray, List.getElem?_append_right (by omega), e9, show 9 + j - 9 = j by omega, List.getElem?_append_left hj]; exact hv
  · rw [h.cell]
    have hj := (List.getElem?_eq_some_iff.1 hv).1
    rw [List.getElem?_toArray, List.getElem?_append_right (by omega), e9, List.getElem?_append_right (by omega), e6, show 15 + j - 9 - 6 = j by omega]; exact hv
end

set_option maxRecDepth 100000 in
theorem newR (c : Cfg) (s : Stt) (hF : 0 ≤ s.e ∧ s.e ≤ 255) (w : World) : Calls Try.prog 9 #[cv c, sv s] w fun e w' => Below w.heap.size w w' ∧ ((okV c s = true ∧ ∃ g', w.heap.size ≤ g' ∧ e = .returned (.tuple #[.pointer (some ⟨g', 0, none⟩), .int .i64 0]) ∧ Rt w' g' c s (force s)) ∨ (okV c s = false ∧ e = .returned (.tuple #[.pointer none, .int .i64 1]))) := by
  have HC := fun w => GeoR.checkRW c w
  have HM := fun w => fitsR c s.z0 s.z1 s.z2 s.z3 s.e hF w
  have HO : okV c s = (check c && (!s.d || fitsV c s.z0 s.z1 s.z2 s.z3 s.e)) := by
    unfold okV
    cases hk : check c with
    | false => rfl
    | true => rw [mayV_eq c s hk]
  have N1 : Hid (∀ w3 g', s.d = false → Mem.Blk w3 g' 81 ((cc c).toList ++ ((sc s).toList ++ (sc zeroS).toList)).toArray → Rt w3 g' c s (force s)) := Lib.hid fun w3 g' hd h => by
    rw [show force s = zeroS from if_neg (by rw [hd]; decide)]; exact rtOf h
  have N2 : Hid (∀ w3 g', s.d = true → Mem.Blk w3 g' 81 ((cc c).toList ++ ((sc s).toList ++ (sc s).toList)).toArray → Rt w3 g' c s (force s)) := Lib.hid fun w3 g' hd h => by
    rw [show force s = s from if_pos hd]; exact rtOf h
  unfold errOf at HC
  generalize okV c s = OK at HO ⊢
  generalize fitsV c s.z0 s.z1 s.z2 s.z3 s.e = M at HO HM
  generalize hQ : (fun w g' => Rt w g' c s (force s)) = NQ
  have hQ' : ∀ w g', Rt w g' c s (force s) ↔ NQ w g' := fun w g' => by rw [← hQ]
  simp only [hQ'] at N1 N2 ⊢
  clear hQ hQ'
  obtain ⟨b, p, q, u, o, r, gg, kk, x⟩ := c
  obtain ⟨z0, z1, z2, z3, e, d⟩ := s
  unfold cv cc at HC
  unfold cv cc at HM
  simp only at HC HM N1 N2 HO
  show Calls Try.prog 9 #[.agg #[.int .i64 b, .int .i64 p, .int .i64 q, .int .i64 u, .int .i64 o, .int .i64 r, .int .i64 gg, .int .i64 kk, .int .i64 x], .agg #[.int .i64 z0, .int .i64 z1, .int .i64 z2, .int .i64 z3, .int .u8 e, .bool d]] w _
  obtain ⟨w0, hw0⟩ : ∃ w0, w0 = w.alloc (.cells #[.int .i64 b, .int .i64 p, .int .i64 q, .int .i64 u, .int .i64 o, .int .i64 r, .int .i64 gg, .int .i64 kk, .int .i64 x] 23) := ⟨_, rfl⟩
  obtain ⟨wz, hwz⟩ : ∃ wz, wz = w0.alloc (.cells #[.int .i64 z0, .int .i64 z1, .int .i64 z2, .int .i64 z3, .int .u8 e, .bool d] 37) := ⟨_, rfl⟩
  have s0 : w0.heap.size = w.heap.size + 1 := by rw [hw0]; simp
  have c1' : Mem.Blk w0 w.heap.size 23 #[.int .i64 b, .int .i64 p, .int .i64 q, .int .i64 u, .int .i64 o, .int .i64 r, .int .i64 gg, .int .i64 kk, .int .i64 x] := by rw [hw0]; exact Mem.Blk.new w 23 _
  have cz : Mem.Blk wz w.heap.size 23 #[.int .i64 b, .int .i64 p, .int .i64 q, .int .i64 u, .int .i64 o, .int .i64 r, .int .i64 gg, .int .i64 kk, .int .i64 x] := by rw [hwz]; exact c1'.alloc _
  have ez : Mem.Blk wz (w.heap.size + 1) 37 #[.int .i64 z0, .int .i64 z1, .int .i64 z2, .int .i64 z3, .int .u8 e, .bool d] := by rw [hwz, ← s0]; exact Mem.Blk.new w0 37 _
  have Dz : Below w.heap.size w wz := by rw [hwz, hw0]; exact ((Below.refl _ _).alloc (Nat.le_refl _) _).alloc (by simp) _
  clear c1' s0
  have cz' := cz
  have ez' := ez
  replace HC := Lib.hid HC
  replace HM := Lib.hid HM
  replace Dz := Lib.hid Dz
  obtain ⟨j0, j1, j2, j3, j4, j5, j6, j7, j8⟩ := nine cz
  obtain ⟨i0, i1, i2, i3, i4, i5⟩ := six ez
  clear cz ez
  replace cz' := Lib.hid cz'
  replace ez' := Lib.hid ez'
  cases hk : check ⟨b, p, q, u, o, r, gg, kk, x⟩ with
  | false =>
    rw [hk] at HC HO
    replace HO := Lib.hid (show OK = false from HO)
    go_enter Try.func9, Try.ntmps9
    go_wp2_with fail
    rw [← hw0, ← hwz]
    replace hw0 := Lib.hid hw0
    replace hwz := Lib.hid hwz
    try go_wp2_with fail
    refine (HC.out _).mono ?_
    rintro e' w1 ⟨rfl, b1⟩
    have d1 := Lib.hid (Dz.out.trans (b1.mono Dz.out.size))
    clear j0 j1 j2 j3 j4 j5 j6 j7 j8 i0 i1 i2 i3 i4 i5 b1
    go_wp2
    go_returns
    exact ⟨d1.out, .inr ⟨HO.out, rfl⟩⟩
  | true =>
    rw [hk] at HC HO
    have HO' : OK = (!d || M) := by rw [HO]; simp
    replace HO := Lib.hid HO'
    clear HO'
    cases d with
    | false =>
      go_enter Try.func9, Try.ntmps9
      go_wp2_with fail
      rw [← hw0, ← hwz]
      replace hw0 := Lib.hid hw0
      replace hwz := Lib.hid hwz
      try go_wp2_with fail
      refine (HC.out _).mono ?_
      rintro e' w1 ⟨rfl, b1⟩
      have d1 := Lib.hid (Dz.out.trans (b1.mono Dz.out.size))
      have cz1 := cz'.out.below b1 cz'.out.lt
      have ez1 := ez'.out.below b1 ez'.out.lt
      clear j0 j1 j2 j3 j4 j5 j6 j7 j8 i0 i1 i2 i3 i4 i5 b1 cz' ez'
      obtain ⟨j0, j1, j2, j3, j4, j5, j6, j7, j8⟩ := nine cz1
      obtain ⟨i0, i1, i2, i3, i4, i5⟩ := six ez1
      have A5 := fun o => (six (ez1.alloc o)).2.2.2.2.2
      replace ez1 := Lib.hid ez1
      replace cz1 := Lib.hid cz1
      go_wp2_with fail
      go_returns
      exact ⟨d1.out.alloc d1.out.size _, .inl ⟨by rw [HO.out]; rfl, _, d1.out.size, rfl, N1.out _ _ trivial (Mem.Blk.new w1 81 _)⟩⟩
    | true =>
      go_enter Try.func9, Try.ntmps9
      go_wp2_with fail
      rw [← hw0, ← hwz]
      replace hw0 := Lib.hid hw0
      replace hwz := Lib.hid hwz
      try go_wp2_with fail
      refine (HC.out _).mono ?_
      rintro e' w1 ⟨rfl, b1⟩
      have d1 := Lib.hid (Dz.out.trans (b1.mono Dz.out.size))
      have cz1 := cz'.out.below b1 cz'.out.lt
      have ez1 := ez'.out.below b1 ez'.out.lt
      clear j0 j1 j2 j3 j4 j5 j6 j7 j8 i0 i1 i2 i3 i4 i5 b1 cz' ez'
      obtain ⟨j0, j1, j2, j3, j4, j5, j6, j7, j8⟩ := nine cz1
      obtain ⟨i0, i1, i2, i3, i4, i5⟩ := six ez1
      replace ez1 := Lib.hid ez1
      replace cz1 := Lib.hid cz1
      go_wp2_with fail
      refine (HM.out _).mono ?_
      rintro e' w2 ⟨rfl, b2⟩
      have d2 := Lib.hid (d1.out.trans (b2.mono d1.out.size))
      have cz2 := cz1.out.below b2 cz1.out.lt
      have ez2 := ez1.out.below b2 ez1.out.lt
      clear j0 j1 j2 j3 j4 j5 j6 j7 j8 i0 i1 i2 i3 i4 i5 b2 cz1 ez1
      cases M with
      | false =>
        go_wp2
        go_returns
        exact ⟨d2.out, .inr ⟨by rw [HO.out]; rfl, rfl⟩⟩
      | true =>
        obtain ⟨j0, j1, j2, j3, j4, j5, j6, j7, j8⟩ := nine cz2
        obtain ⟨i0, i1, i2, i3, i4, i5⟩ := six ez2
        have A0 := fun o => (six (ez2.alloc o)).1
        have A1 := fun o => (six (ez2.alloc o)).2.1
        have A2 := fun o => (six (ez2.alloc o)).2.2.1
        have A3 := fun o => (six (ez2.alloc o)).2.2.2.1
        have A4 := fun o => (six (ez2.alloc o)).2.2.2.2.1
        have A5 := fun o => (six (ez2.alloc o)).2.2.2.2.2
        replace ez2 := Lib.hid ez2
        replace cz2 := Lib.hid cz2
        go_wp2_with fail
        go_returns
        exact ⟨d2.out.alloc d2.out.size _, .inl ⟨by rw [HO.out]; rfl, _, d2.out.size, rfl, N2.out _ _ trivial (Mem.Blk.new w2 81 _)⟩⟩
end Go.Proofs.Ytcggghiionlngaa.AreZ3
