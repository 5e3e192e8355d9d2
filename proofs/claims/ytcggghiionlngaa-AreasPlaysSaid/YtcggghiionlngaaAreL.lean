/- Areas: a table in memory that is made, set, powered up. -/
import Derived.Test.YtcggghiionlngaaAreK
namespace Go.Proofs.Ytcggghiionlngaa.AreL
open Go.ChangeShapes Go.WideShapes Go.ChangeAt Go.RowKit
open Mem GeoM GeoC GeoD GeoE GeoF AreA AreB AreC AreD AreF AreG AreH AreI AreJ AreK
set_option linter.unusedVariables false
set_option maxHeartbeats 2000000

theorem ttOf {w : World} {g : Nat} {c : Cfg} {l a : Stt} {o : List Value} (h : Tb w g c l a o) : Tt w g c l a :=
  ⟨h.lt, h.cfg, h.last, h.act, h.2.there 40 (by
    have e1 : (cc c).toList.length = 9 := rfl
    have e2 : (sc l).toList.length = 6 := rfl
    have e3 : (sc a).toList.length = 6 := rfl
    rw [List.size_toArray, List.length_append, List.length_append, List.length_append, e1, e2, e3, h.1]
    exact Nat.le_refl _)⟩
theorem setLast {w : World} {g : Nat} {c : Cfg} {l a : Stt} (h : Tt w g c l a) (l' : Stt) : Tt (w.setCells g 9 (sc l').toList) g c l' a := by
  have e9 : (cc c).toList.length = 9 := rfl
  have e6 : (sc l').toList.length = 6 := rfl
  exact ⟨Nat.lt_of_lt_of_le h.lt (below_setCells (B := 0) (Nat.zero_le _) _ 9 w (Below.refl 0 w)).size, World.rangeAt_setCells_apart h.cfg g 9 _ (.inr (.inl (by omega))), World.rangeAt_setCells_same w g 9 _ (h.sub 9 6 (by omega)), World.rangeAt_setCells_apart h.act g 9 _ (.inr (.inr (by omega))), World.there_setCells h.there g 9 _⟩
theorem setAct {w : World} {g : Nat} {c : Cfg} {l a : Stt} (h : Tt w g c l a) (a' : Stt) : Tt (w.setCells g 15 (sc a').toList) g c l a' := by
  have e9 : (cc c).toList.length = 9 := rfl
  have e6 : (sc a').toList.length = 6 := rfl
  have e7 : (sc l).toList.length = 6 := rfl
  exact ⟨Nat.lt_of_lt_of_le h.lt (below_setCells (B := 0) (Nat.zero_le _) _ 15 w (Below.refl 0 w)).size, World.rangeAt_setCells_apart h.cfg g 15 _ (.inr (.inl (by omega))), World.rangeAt_setCells_apart h.last g 15 _ (.inr (.inl (by omega))), World.rangeAt_setCells_same w g 15 _ (h.sub 15 6 (by omega)), World.there_setCells h.there g 15 _⟩
theorem out_set (w : World) (g o i : Nat) (s : Stt) (hi : o + 6 ≤ i) : (w.setCells g o (sc s).toList).cell? ⟨g, i, none⟩ = w.cell? ⟨g, i, none⟩ := by
  have e6 : (sc s).toList.length = 6 := rfl
  exact World.cell?_setCells_out g _ o w ⟨g, i, none⟩ (fun _ _ => .inr (by rw [e6]; exact hi))
/-- A table that is new. -/
structure Nb (w : World) (g : Nat) (c : Cfg) (l a : Stt) : Prop where
  tt : Tt w g c l a
  o1 : w.cell? ⟨g, 21, none⟩ = some (.int .u32 0)
  o2 : w.cell? ⟨g, 22, none⟩ = some (.int .i32 0)
theorem Nb.ob {w : World} {g : Nat} {c : Cfg} {l a : Stt} (h : Nb w g c l a) : Ob w g c l a := ⟨h.tt, .inl ⟨h.o1, h.o2⟩⟩
theorem Nb.setLast {w : World} {g : Nat} {c : Cfg} {l a : Stt} (h : Nb w g c l a) (l' : Stt) : Nb (w.setCells g 9 (sc l').toList) g c l' a :=
  ⟨AreL.setLast h.tt l', (out_set w g 9 21 l' (by omega)).trans h.o1, (out_set w g 9 22 l' (by omega)).trans h.o2⟩
theorem Nb.setAct {w : World} {g : Nat} {c : Cfg} {l a : Stt} (h : Nb w g c l a) (a' : Stt) : Nb (w.setCells g 15 (sc a').toList) g c l a' :=
  ⟨AreL.setAct h.tt a', (out_set w g 15 21 a' (by omega)).trans h.o1, (out_set w g 15 22 a' (by omega)).trans h.o2⟩
theorem ob_setLast {w : World} {g : Nat} {c : Cfg} {l a : Stt} (h : Ob w g c l a) (l' : Stt) : Ob (w.setCells g 9 (sc l').toList) g c l' a := by
  refine ⟨AreL.setLast h.tt l', h.once.imp (fun h => ⟨(out_set w g 9 21 l' (by omega)).trans h.1, (out_set w g 9 22 l' (by omega)).trans h.2⟩) (fun h => ⟨(out_set w g 9 21 l' (by omega)).trans h.1, ?_, fun j hj => (out_set w g 9 _ l' (by omega)).trans (h.2.2 j hj)⟩)⟩
  have e6 : (sc l').toList.length = 6 := rfl
  exact World.rangeAt_setCells_apart h.2.1 g 9 _ (.inr (.inr (by omega)))
def z19 : List Value := [.int .u32 0, .int .i32 0, .int .u32 0, .int .i64 0, .int .i64 0, .int .i64 0, .int .i64 0, .int .i64 0, .int .i64 0, .int .i64 0, .int .i64 0, .int .i64 0, .int .i64 0, .int .i64 0, .int .i64 0, .int .i64 0, .int .i64 0, .int .i64 0, .int .i64 0]
theorem newNb (w : World) (g : Nat) (c : Cfg) (l a : Stt) (h : Tb w g c l a z19) : Nb w g c l a :=
  ⟨ttOf h, h.2.cell 21, h.2.cell 22⟩
theorem one_sc (s : Stt) : (sc s).all (·.oneCell') = true := by kernel_rfl

/-- May a table be made? -/
def okV (c : Cfg) (s : Stt) : Bool := check c && mayV c s
/-- What is in force of a setting. -/
def force (s : Stt) : Stt := if s.d then s else zeroS

set_option maxRecDepth 100000 in
theorem newW (c : Cfg) (s : Stt) (w : World) : Calls Try.prog 8 #[cv c, sv s] w fun e w' => Below w.heap.size w w' ∧ ((okV c s = true ∧ ∃ g', w.heap.size ≤ g' ∧ e = .returned (.tuple #[.pointer (some ⟨g', 0, none⟩), .int .i64 0]) ∧ Nb w' g' c s (force s)) ∨ (okV c s = false ∧ e = .returned (.tuple #[.pointer none, .int .i64 1]))) := by
  have HC := fun w => checkW c w
  have HM := fun w => mayBeW c s w
  have HO : okV c s = (check c && mayV c s) := rfl
  have NB : Hid (∀ (w2 w3 : World) (g' : Nat), Blk w3 g' 78 ((cc c).toList ++ ((sc s).toList ++ ((sc zeroS).toList ++ z19))).toArray → Nb w3 g' c s zeroS) := Lib.hid fun w2 w3 g' h => newNb w3 g' c s zeroS ⟨rfl, h⟩
  have NS : Hid (∀ (w2 w3 : World) (g' : Nat), Blk w3 g' 78 ((cc c).toList ++ ((sc s).toList ++ ((sc s).toList ++ z19))).toArray → Nb w3 g' c s s) := Lib.hid fun w2 w3 g' h => newNb w3 g' c s s ⟨rfl, h⟩
  have FT : s.d = true → force s = s := fun h => if_pos h
  have FF : s.d = false → force s = zeroS := fun h => if_neg (by rw [h]; decide)
  unfold errOf at HC
  generalize okV c s = OK at HO ⊢
  generalize mayV c s = M at HO HM
  generalize force s = FS at FT FF ⊢
  have HG : Hid (∀ w g', Nb w g' c s FS → Nb w g' c s FS) := Lib.hid fun _ _ h => h
  generalize hQ : (fun w g' => Nb w g' c s FS) = NQ at HG
  have hQ' : ∀ w g', Nb w g' c s FS ↔ NQ w g' := fun w g' => by rw [← hQ]
  simp only [hQ'] at HG ⊢
  clear HG
  have N1 : Hid (∀ w3 g', s.d = false → Nb w3 g' c s zeroS → NQ w3 g') := Lib.hid fun w3 g' hd h => (hQ' _ _).1 (by rw [FF hd]; exact h)
  have N2 : Hid (∀ w3 g', s.d = true → Nb w3 g' c s s → NQ w3 g') := Lib.hid fun w3 g' hd h => (hQ' _ _).1 (by rw [FT hd]; exact h)
  clear hQ hQ' FT FF
  obtain ⟨b, p, q, u, o, r, g, k, x⟩ := c
  obtain ⟨z0, z1, z2, z3, e, d⟩ := s
  unfold cv cc at HC
  unfold cv sv cc sc at HM
  simp only at HC HM N1 N2
  show Calls Try.prog 8 #[.agg #[.int .i64 b, .int .i64 p, .int .i64 q, .int .i64 u, .int .i64 o, .int .i64 r, .int .i64 g, .int .i64 k, .int .i64 x], .agg #[.int .i64 z0, .int .i64 z1, .int .i64 z2, .int .i64 z3, .int .u8 e, .bool d]] w _
  obtain ⟨w0, hw0⟩ : ∃ w0, w0 = w.alloc (.cells #[.int .i64 b, .int .i64 p, .int .i64 q, .int .i64 u, .int .i64 o, .int .i64 r, .int .i64 g, .int .i64 k, .int .i64 x] 23) := ⟨_, rfl⟩
  obtain ⟨wz, hwz⟩ : ∃ wz, wz = w0.alloc (.cells #[.int .i64 z0, .int .i64 z1, .int .i64 z2, .int .i64 z3, .int .u8 e, .bool d] 26) := ⟨_, rfl⟩
  have s0 : w0.heap.size = w.heap.size + 1 := by rw [hw0]; simp
  have c1' : Mem.Blk w0 w.heap.size 23 #[.int .i64 b, .int .i64 p, .int .i64 q, .int .i64 u, .int .i64 o, .int .i64 r, .int .i64 g, .int .i64 k, .int .i64 x] := by rw [hw0]; exact Mem.Blk.new w 23 _
  have cz : Mem.Blk wz w.heap.size 23 #[.int .i64 b, .int .i64 p, .int .i64 q, .int .i64 u, .int .i64 o, .int .i64 r, .int .i64 g, .int .i64 k, .int .i64 x] := by rw [hwz]; exact c1'.alloc _
  have ez : Mem.Blk wz (w.heap.size + 1) 26 #[.int .i64 z0, .int .i64 z1, .int .i64 z2, .int .i64 z3, .int .u8 e, .bool d] := by rw [hwz, ← s0]; exact Mem.Blk.new w0 26 _
  have Dz : Below w.heap.size w wz := by rw [hwz, hw0]; exact ((Below.refl _ _).alloc (Nat.le_refl _) _).alloc (by simp) _
  clear c1' s0
  have cz' := cz
  have ez' := ez
  replace HC := Lib.hid HC
  replace HM := Lib.hid HM
  replace Dz := Lib.hid Dz
  obtain ⟨j0, j1, j2, j3, j4, j5, j6, j7, j8⟩ := nine cz
  obtain ⟨i0, i1, i2, i3, i4, i5⟩ := six ez
  clear cz ez
  replace cz' := Lib.hid cz'
  replace ez' := Lib.hid ez'
  cases hk : check ⟨b, p, q, u, o, r, g, k, x⟩ with
  | false =>
    rw [hk] at HC HO
    replace HO := Lib.hid (show OK = false from HO)
    go_enter Try.func8, Try.ntmps8
    go_wp2_with fail
    rw [← hw0, ← hwz]
    replace hw0 := Lib.hid hw0
    replace hwz := Lib.hid hwz
    go_wp2_with fail
    refine (HC.out _).mono ?_
    rintro e' w1 ⟨rfl, b1⟩
    have d1 := Lib.hid (Dz.out.trans (b1.mono Dz.out.size))
    clear j0 j1 j2 j3 j4 j5 j6 j7 j8 i0 i1 i2 i3 i4 i5 b1
    go_wp2
    go_returns
    exact ⟨d1.out, .inr ⟨HO.out, rfl⟩⟩
  | true =>
    rw [hk] at HC HO
    have HO' : OK = M := by rw [HO]; simp
    replace HO := Lib.hid HO'
    clear HO'
    go_enter Try.func8, Try.ntmps8
    go_wp2_with fail
    rw [← hw0, ← hwz]
    replace hw0 := Lib.hid hw0
    replace hwz := Lib.hid hwz
    go_wp2_with fail
    refine (HC.out _).mono ?_
    rintro e' w1 ⟨rfl, b1⟩
    have d1 := Lib.hid (Dz.out.trans (b1.mono Dz.out.size))
    have cz1 := cz'.out.below b1 cz'.out.lt
    have ez1 := ez'.out.below b1 ez'.out.lt
    clear j0 j1 j2 j3 j4 j5 j6 j7 j8 i0 i1 i2 i3 i4 i5 b1 cz' ez'
    obtain ⟨j0, j1, j2, j3, j4, j5, j6, j7, j8⟩ := nine cz1
    obtain ⟨i0, i1, i2, i3, i4, i5⟩ := six ez1
    replace cz1 := Lib.hid cz1
    replace ez1 := Lib.hid ez1
    go_wp2_with fail
    refine (HM.out _).mono ?_
    rintro e' w2 ⟨rfl, b2⟩
    have d2 := Lib.hid (d1.out.trans (b2.mono d1.out.size))
    have cz2 := cz1.out.below b2 cz1.out.lt
    have ez2 := ez1.out.below b2 ez1.out.lt
    clear j0 j1 j2 j3 j4 j5 j6 j7 j8 i0 i1 i2 i3 i4 i5 b2 cz1 ez1
    obtain ⟨j0, j1, j2, j3, j4, j5, j6, j7, j8⟩ := nine cz2
    obtain ⟨i0, i1, i2, i3, i4, i5⟩ := six ez2
    replace cz2 := Lib.hid cz2
    have A0 := fun o => (six (ez2.alloc o)).1
    have A1 := fun o => (six (ez2.alloc o)).2.1
    have A2 := fun o => (six (ez2.alloc o)).2.2.1
    have A3 := fun o => (six (ez2.alloc o)).2.2.2.1
    have A4 := fun o => (six (ez2.alloc o)).2.2.2.2.1
    have A5 := fun o => (six (ez2.alloc o)).2.2.2.2.2
    cases M with
    | false =>
      replace ez2 := Lib.hid ez2
      clear A0 A1 A2 A3 A4 A5
      go_wp2
      go_returns
      exact ⟨d2.out, .inr ⟨HO.out, rfl⟩⟩
    | true =>
      cases d with
      | false =>
        replace ez2 := Lib.hid ez2
        go_wp2_with fail
        go_returns
        exact ⟨d2.out.alloc d2.out.size _, .inl ⟨HO.out, _, d2.out.size, rfl, N1.out _ _ trivial (NB.out w2 _ _ (Mem.Blk.new w2 78 _))⟩⟩
      | true =>
        replace ez2 := Lib.hid ez2
        go_wp2_with fail
        go_returns
        exact ⟨d2.out.alloc d2.out.size _, .inl ⟨HO.out, _, d2.out.size, rfl, N2.out _ _ trivial (NS.out w2 _ _ (Mem.Blk.new w2 78 _))⟩⟩
end Go.Proofs.Ytcggghiionlngaa.AreL
