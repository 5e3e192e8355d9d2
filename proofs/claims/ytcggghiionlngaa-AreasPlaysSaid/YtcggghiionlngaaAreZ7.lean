/- Areas: played as the document has it. -/
import Derived.Test.YtcggghiionlngaaAreZ6
namespace Go.Proofs.Ytcggghiionlngaa.AreZ7
open Go.ChangeShapes Go.WideShapes Go.ChangeAt Go.RowKit Go.Deep
open Mem GeoM GeoC GeoD GeoE GeoF AreA AreB AreC AreD AreF AreG AreH AreI AreJ AreK AreL AreN AreO AreR AreZ1 AreZ2 AreZ3 AreZ4 AreZ5 AreZ6
open AreV (ofS)
open AreP (RdS Fine)
set_option linter.unusedVariables false
set_option maxHeartbeats 4000000

/-- A row of truths. -/
def RdB (w : World) (a : Option Addr) (l : List Bool) : Prop :=
  l.length ≤ maxLen ∧ ∀ i (hi : i < l.length), ∃ b off, a = some ⟨b, off, none⟩ ∧ b < w.heap.size ∧ w.cell? ⟨b, off + i, none⟩ = some (.bool l[i])
set_option maxRecDepth 100000 in
theorem openB {H : Type} {enc : TypeId × Value → H} {w : World} {base fuel : Nat} {held : Bool} {a : Option Addr} {len cap : Nat} {x : DataW H × List MemPlace}
    (h : DataW.trod enc Try.prog w base (fun _ => true) held fuel 28 [.slice a len cap] = some x) : ∃ l : List Bool, l.length = len ∧ RdB w a l ∧ len ≤ maxLen := by
  rcases open_slice Try.underlying28 h with ⟨hcs, _⟩ | ⟨a', len', cap', m, n, D, Pl, hcs, _, hl, hm, hmm, _, hi⟩
  · simp at hcs
    obtain ⟨rfl, rfl, rfl⟩ := hcs
    exact ⟨[], rfl, ⟨by simp [maxLen], fun i hi => absurd hi (by simp)⟩, by simp [maxLen]⟩
  · simp at hcs
    obtain ⟨rfl, rfl, rfl⟩ := hcs
    have hmc : m = cap := by simpa using hmm
    subst hmc
    obtain ⟨b, off, spot⟩ := a'
    have hspot : 0 < len → spot = none := fun h0 => by
      obtain ⟨cs', hc, ht'⟩ := hi 0 (by omega)
      rw [AreP.cells4] at hc
      obtain ⟨_, hcl, hat⟩ := World.cells?_some hc
      have g0 := hat 0 (by omega)
      have hv0 : cs'[0]? = some (cs'[0]'(by omega)) := List.getElem?_eq_getElem (by omega)
      rw [hv0] at g0
      have := World.cell?_spot g0
      simpa [Addr.add] using this
    have key : ∀ i, i < len → ∃ s : Bool, ∃ b' off', (⟨b, off, spot⟩ : Addr) = ⟨b', off', none⟩ ∧ b' < w.heap.size ∧ w.cell? ⟨b', off' + i, none⟩ = some (.bool s) := by
      intro i hil
      obtain ⟨cs', hc, ht'⟩ := hi i (by omega)
      rw [AreP.cells4] at hc
      obtain ⟨_, hcl, hat⟩ := World.cells?_some hc
      obtain rfl := hspot (by omega)
      match cs', hcl with
      | [c0], _ =>
        obtain ⟨d, hd, _⟩ := DataW.trod_bool Try.underlying4 ht'
        simp only [List.cons.injEq, and_true] at hd
        subst hd
        have g0 := hat 0 (by omega)
        rw [Addr.add_lit, Addr.add_lit] at g0
        have g1 : w.cell? ⟨b, off + i, none⟩ = some (.bool d) := by simpa using g0
        exact ⟨d, b, off, rfl, World.block_lt_of_cell? w _ g1, g1⟩
    refine ⟨(List.range len).map fun i => if hi : i < len then Classical.choose (key i hi) else false, by simp, ⟨by simp; omega, fun i hil => ?_⟩, by omega⟩
    have hil' : i < len := by simpa using hil
    obtain ⟨b, off, e, h1, h2⟩ := Classical.choose_spec (key i hil')
    refine ⟨b, off, by rw [e], h1, ?_⟩
    simpa [hil'] using h2

theorem i8W (n : Int) (w : World) : Calls Try.prog 16 #[.int .i64 n] w fun e w' => (∃ v, e = .returned (.int .i64 v)) ∧ w' = w := by
  go_enter Try.func16, Try.ntmps16
  go_wp2
  go_ret
  exact ⟨⟨_, rfl⟩, rfl⟩
theorem okZ (c : Cfg) (h : check c = true) : okV c zeroS = true := by
  unfold okV mayV; rw [h]; rfl
theorem okF (c : Cfg) (L : Stt) (h : okV c L = true) : okV c (force L) = true := by
  unfold force
  split
  · exact h
  · exact okZ c (by unfold okV at h; rw [Bool.and_eq_true] at h; exact h.1)
theorem okS (c : Cfg) (L y : Stt) (h : okV c L = true) : okV c (setL c L y) = true := by
  have hc : check c = true := by unfold okV at h; rw [Bool.and_eq_true] at h; exact h.1
  unfold setL
  split
  · exact h
  · split
    · rename_i hm
      unfold okV; rw [hc, hm]; rfl
    · exact h
/-- A number of eight bits. -/
def E8 (s : Stt) : Prop := 0 ≤ s.e ∧ s.e ≤ 255
theorem e8F (L : Stt) (h : E8 L) : E8 (force L) := by
  unfold force
  split
  · exact h
  · exact ⟨Int.le_refl _, by decide⟩
theorem e8S (c : Cfg) (L y : Stt) (h : E8 L) (hy : E8 y) : E8 (setL c L y) := by
  unfold setL
  split
  · exact h
  · split
    · exact hy
    · exact h
theorem e8of (s : Stt) (h : Fine s) : E8 s := by
  have := h.2.2.2.2
  simpa [E8, Lit.wf, IntKind.min, IntKind.max, IntKind.signed, IntKind.bits] using this
/-- What is in force may be. -/
def AG (c : Cfg) (A : Stt) : Prop := Gd c A ∧ (∀ j, 0 ≤ (sz c A).getD j 0) ∧ E8 A
theorem agF (c : Cfg) (L : Stt) (h : okV c L = true) (he : E8 L) : AG c (force L) := by
  obtain ⟨_, h1, h2, _⟩ := okay c L h
  exact ⟨h1, h2, e8F L he⟩
theorem forceF (L : Stt) : force (force L) = force L := by
  unfold force
  cases hd : L.d with
  | true => rw [if_pos rfl, if_pos hd]
  | false => simp [zeroS]

theorem early (c : Cfg) (s : Stt) (a ua : Option Addr) (n cap un ucap : Nat) (area sector place : Int) (w : World) (hn : 100 < n) :
    Calls Try.prog 3 #[cv c, sv s, .slice a n cap, .slice ua un ucap, .int .i64 area, .int .i64 sector, .int .i64 place] w fun e w' => e = .returned (.bool true) ∧ Below w.heap.size w w' := by
  obtain ⟨b, p, q, u, o, r, gg, k, x⟩ := c
  obtain ⟨z0, z1, z2, z3, e, d⟩ := s
  have hgt : (100 : Int) < (n : Int) := by omega
  show Calls Try.prog 3 #[.agg #[.int .i64 b, .int .i64 p, .int .i64 q, .int .i64 u, .int .i64 o, .int .i64 r, .int .i64 gg, .int .i64 k, .int .i64 x], .agg #[.int .i64 z0, .int .i64 z1, .int .i64 z2, .int .i64 z3, .int .u8 e, .bool d], .slice a n cap, .slice ua un ucap, .int .i64 area, .int .i64 sector, .int .i64 place] w _
  have Dz : Hid (Below w.heap.size w ((w.alloc (.cells #[.int .i64 b, .int .i64 p, .int .i64 q, .int .i64 u, .int .i64 o, .int .i64 r, .int .i64 gg, .int .i64 k, .int .i64 x] 23)).alloc (.cells #[.int .i64 z0, .int .i64 z1, .int .i64 z2, .int .i64 z3, .int .u8 e, .bool d] 26))) := Lib.hid (((Below.refl _ _).alloc (Nat.le_refl _) _).alloc (by simp) _)
  go_enter Try.func3, Try.ntmps3
  go_wp2_with fail
  refine (knownW _).mono ?_
  rintro e' w1 ⟨rfl, b1⟩
  have D1 := Lib.hid (Dz.out.trans (b1.mono Dz.out.size))
  clear b1
  go_wp2
  go_ret
  exact ⟨rfl, D1.out⟩

set_option maxRecDepth 100000 in
theorem law (c : Cfg) (s : Stt) (hFs : Fine s) (a ua : Option Addr) (l : List Stt) (ul : List Bool) (n cap un ucap : Nat) (area sector place : Int) (hsI : sector ≤ 9223372036854775807) (hpI : place ≤ 9223372036854775807) (w : World) (hn : l.length = n) (hr : RdS w a l) (hun : ul.length = un) (hur : RdB w ua ul) (hle : n ≤ 100) :
    Calls Try.prog 3 #[cv c, sv s, .slice a n cap, .slice ua un ucap, .int .i64 area, .int .i64 sector, .int .i64 place] w fun e w' => e = .returned (.bool true) ∧ Below w.heap.size w w' := by
  have hgt : ¬ (100 : Int) < (n : Int) := by omega
  have hrS := Lib.hid hr.2
  clear hr
  replace hur := Lib.hid hur.2
  replace hn := Lib.hid hn
  replace hun := Lib.hid hun
  have HN := Lib.hid (fun w => by have := newW c s w; unfold cv sv at this; exact this)
  have HNR := Lib.hid (fun w => by have := newR c s (e8of s hFs) w; unfold cv sv at this; exact this)
  have HOF := Lib.hid (fun w => by have := ofS s w; unfold sv at this; exact this)
  have HOFY := Lib.hid (fun y w => by have := ofS y w; unfold sv at this; exact this)
  have HT := Lib.hid (fun g L A y w h => by have := setW g c L A y w h; unfold sv at this; exact this)
  have hs8 := Lib.hid (e8of s hFs)
  have HPW := Lib.hid (fun g L A w h => powerW g c L A w h)
  have HLK := Lib.hid (fun g r L A (hA : AG c A) (z : Unit) (hne : r ≠ g) w hO hR => looksW g r c L A hA.1 hA.2.1 hA.2.2 area sector place hpI hne w hO hR)
  have HLK2 := Lib.hid (fun g r L A v (hA : AG c A) (hne : r ≠ g) w hO hR => looksW g r c L A hA.1 hA.2.1 hA.2.2 v place sector hsI hne w hO hR)
  have HCK : Hid (okV c s = true → check c = true) := Lib.hid fun h => (okay c s h).1
  have HTR0 : Hid (check c = true → ∀ r L A y (hy : E8 y) w (h : Rt w r c L A), Calls Try.prog 12 #[.pointer (some ⟨r, 0, none⟩), .agg (sc y)] w fun e w' => e = .returned (.int .i64 (setE c L y)) ∧ Rt w' r c (setL c L y) A ∧ w.grownBy w' (some r)) := Lib.hid fun hck r L A y hy w h => by have := setR r c hck L A y hy w h; unfold sv at this; exact this
  have HPR := Lib.hid (fun r L A (hok : okV c L = true) (he : E8 L) w h => powerR r c L A (okF c L hok) (e8F L he) w h)
  have HAG := Lib.hid (fun L (hok : okV c L = true) (he : E8 L) => agF c L hok he)
  have HOS := Lib.hid (fun L y (hok : okV c L = true) => okS c L y hok)
  have HES := Lib.hid (fun L y (h : E8 L) (hy : E8 y) => e8S c L y h hy)
  have HOK := Lib.hid (fun L (hok : okV c L = true) => okF c L hok)
  clear hFs hsI hpI
  obtain ⟨w0, hw0⟩ : ∃ w0, w0 = w.alloc (.cells (cc c) 23) := ⟨_, rfl⟩
  obtain ⟨wz, hwz⟩ : ∃ wz, wz = w0.alloc (.cells (sc s) 26) := ⟨_, rfl⟩
  have s0 : w0.heap.size = w.heap.size + 1 := by rw [hw0]; simp
  have c1' : Mem.Blk w0 w.heap.size 23 (cc c) := by rw [hw0]; exact Mem.Blk.new w 23 _
  have cz : Hid (Mem.Blk wz w.heap.size 23 (cc c)) := Lib.hid (by rw [hwz]; exact c1'.alloc _)
  have ez : Hid (Mem.Blk wz (w.heap.size + 1) 26 (sc s)) := Lib.hid (by rw [hwz, ← s0]; exact Mem.Blk.new w0 26 _)
  have Dz : Hid (Below w.heap.size w wz) := Lib.hid (by rw [hwz, hw0]; exact ((Below.refl _ _).alloc (Nat.le_refl _) _).alloc (by simp) _)
  have s1 : Hid (wz.heap.size = w.heap.size + 2) := Lib.hid (by rw [hwz]; simp [s0])
  clear c1' s0
  show Calls Try.prog 3 #[.agg (cc c), .agg (sc s), .slice a n cap, .slice ua un ucap, .int .i64 area, .int .i64 sector, .int .i64 place] w _
  go_enter Try.func3, Try.ntmps3
  go_wp2_with fail
  rw [← hw0, ← hwz]
  replace hw0 := Lib.hid hw0
  replace hwz := Lib.hid hwz
  refine (knownW _).mono ?_
  rintro e' w1 ⟨rfl, b1⟩
  have D1 := Lib.hid (Dz.out.trans (b1.mono Dz.out.size))
  have cz1 := Lib.hid (cz.out.below b1 cz.out.lt)
  have ez1 := Lib.hid (ez.out.below b1 ez.out.lt)
  clear b1 cz ez Dz
  obtain ⟨b, p, q, u, o, r, gg, k, x⟩ := c
  obtain ⟨z0, z1, z2, z3, e, d⟩ := s
  have HN' : Hid (∀ w, Calls Try.prog 8 #[.agg #[.int .i64 b, .int .i64 p, .int .i64 q, .int .i64 u, .int .i64 o, .int .i64 r, .int .i64 gg, .int .i64 k, .int .i64 x], .agg #[.int .i64 z0, .int .i64 z1, .int .i64 z2, .int .i64 z3, .int .u8 e, .bool d]] w fun e_1 w' => Below w.heap.size w w' ∧ ((okV ⟨b, p, q, u, o, r, gg, k, x⟩ ⟨z0, z1, z2, z3, e, d⟩ = true ∧ ∃ g', w.heap.size ≤ g' ∧ e_1 = .returned (.tuple #[.pointer (some ⟨g', 0, none⟩), .int .i64 0]) ∧ Nb w' g' ⟨b, p, q, u, o, r, gg, k, x⟩ ⟨z0, z1, z2, z3, e, d⟩ (force ⟨z0, z1, z2, z3, e, d⟩)) ∨ (okV ⟨b, p, q, u, o, r, gg, k, x⟩ ⟨z0, z1, z2, z3, e, d⟩ = false ∧ e_1 = .returned (.tuple #[.pointer none, .int .i64 1])))) := Lib.hid HN.out
  obtain ⟨j0, j1, j2, j3, j4, j5, j6, j7, j8⟩ := nine (show Mem.Blk w1 w.heap.size 23 #[.int .i64 b, .int .i64 p, .int .i64 q, .int .i64 u, .int .i64 o, .int .i64 r, .int .i64 gg, .int .i64 k, .int .i64 x] from cz1.out)
  obtain ⟨i0, i1, i2, i3, i4, i5⟩ := six (show Mem.Blk w1 (w.heap.size + 1) 26 #[.int .i64 z0, .int .i64 z1, .int .i64 z2, .int .i64 z3, .int .u8 e, .bool d] from ez1.out)
  clear HN
  go_wp2_with fail
  refine (HN'.out _).mono ?_
  rintro e' w2 ⟨b2, hres⟩
  have D2 := Lib.hid (D1.out.trans (b2.mono D1.out.size))
  have cz2 := Lib.hid (cz1.out.below b2 cz1.out.lt)
  have ez2 := Lib.hid (ez1.out.below b2 ez1.out.lt)
  have hsz := Lib.hid b2.size
  clear j0 j1 j2 j3 j4 j5 j6 j7 j8 b2 cz1 ez1 i0 i1 i2 i3 i4 i5 HN'
  have AS1 : Hid (∀ w', Below w2.heap.size w2 w' → (loadVar 23 ⟨w.heap.size, 0, none⟩).run Try.prog w' = .ok (.agg (cc ⟨b, p, q, u, o, r, gg, k, x⟩)) w' ∧ (loadVar 26 ⟨w.heap.size + 1, 0, none⟩).run Try.prog w' = .ok (.agg (sc ⟨z0, z1, z2, z3, e, d⟩)) w') := Lib.hid fun w' hb => ⟨run_loadVar_mid w' w.heap.size 0 23 (cc ⟨b, p, q, u, o, r, gg, k, x⟩).toList _ (cz2.out.below hb cz2.out.lt).range Try.underlying23 rfl i23, run_loadVar_mid w' (w.heap.size + 1) 0 26 (sc ⟨z0, z1, z2, z3, e, d⟩).toList _ (ez2.out.below hb ez2.out.lt).range Try.underlying26 rfl i26⟩
  have D20 : Hid (Below w2.heap.size w2 w2.drew) := Lib.hid (Below.refl _ _).drew
  rcases hres with ⟨hok, g, hg, rfl, hNb⟩ | ⟨hok, rfl⟩
  · have hgw := Lib.hid (Nat.le_trans D1.out.size hg)
    have hck := HCK.out hok
    have HTR := Lib.hid (HTR0.out hck)
    have hAG0 := Lib.hid (HAG.out _ hok hs8.out)
    have hglt := Lib.hid hNb.tt.lt
    have O2 := Lib.hid hNb.ob
    replace hok := Lib.hid hok
    clear hNb hg HTR0 hck
    go_wp2_with fail
    refine wp_region_held_drew (S := fun w' => (loadVar 23 ⟨w.heap.size, 0, none⟩).run Try.prog w' = .ok (.agg (cc ⟨b, p, q, u, o, r, gg, k, x⟩)) w' ∧ (loadVar 26 ⟨w.heap.size + 1, 0, none⟩).run Try.prog w' = .ok (.agg (sc ⟨z0, z1, z2, z3, e, d⟩)) w') (by kernel_rfl) (AS1.out _ D20.out) (fun hS => ?_)
    try simp only [List.size_toArray, List.length_cons, List.length_nil, Nat.reduceAdd]
    refine wpAnyH_take (i := 0) (v := .agg (cc ⟨b, p, q, u, o, r, gg, k, x⟩)) (by simp only [List.getElem?_toArray, List.getElem?_cons_succ, List.getElem?_cons_zero]; rfl) (by kernel_rfl) (by kernel_rfl) (by kernel_rfl) (by exact fun _ _ _ h => h) (Or.inl ⟨by rfl, ?_⟩) hS ?_
    · intro wq hSw
      exact exec_load 23 (.tmp 7) rfl ⟨w.heap.size, 0, none⟩ rfl _ wq hSw.1
    try simp only [Act.put, List.setIfInBounds_toArray, List.set_cons_zero, List.set_cons_succ]
    refine wpAnyH_take (i := 1) (v := .agg (sc ⟨z0, z1, z2, z3, e, d⟩)) (by simp only [List.getElem?_toArray, List.getElem?_cons_succ, List.getElem?_cons_zero]; rfl) (by kernel_rfl) (by kernel_rfl) (by kernel_rfl) (by exact fun _ _ _ h => h) (Or.inl ⟨by rfl, ?_⟩) hS ?_
    · intro wq hSw
      exact exec_load 26 (.tmp 8) rfl ⟨w.heap.size + 1, 0, none⟩ rfl _ wq hSw.2
    try simp only [Act.put, List.setIfInBounds_toArray, List.set_cons_zero, List.set_cons_succ]
    refine wpAnyH_ready (rs := [2]) (by kernel_rfl) (by simp) ?_
    refine AllReadyH.cons (by simp only [List.getElem?_toArray, List.getElem?_cons_succ, List.getElem?_cons_zero]; rfl) (fun K hK => ?_) AllReadyH.nil
    go_simp
    go_at_call 10
    refine (HOF.out _).mono ?_
    rintro e' w3 ⟨rfl, b3⟩
    have D23 : Hid (Below w2.heap.size w2 w3) := Lib.hid (D20.out.trans (b3.mono D20.out.size))
    clear b3
    refine hK.out _ _ (AS1.out _ D23.out) (fun hS => ?_)
    clear hK K
    try simp only [Act.put, List.setIfInBounds_toArray, List.set_cons_zero, List.set_cons_succ]
    refine wpAnyH_ready (rs := [3]) (by kernel_rfl) (by simp) ?_
    refine AllReadyH.cons (by simp only [List.getElem?_toArray, List.getElem?_cons_succ, List.getElem?_cons_zero]; rfl) (fun K hK => ?_) AllReadyH.nil
    go_simp
    go_at_call 9
    refine (HNR.out _).mono ?_
    rintro e' w4 ⟨b4, hresR⟩
    have D24 : Hid (Below w2.heap.size w2 w4) := Lib.hid (D23.out.trans (b4.mono D23.out.size))
    have hs3 : Hid (w2.heap.size ≤ w3.heap.size) := Lib.hid D23.out.size
    clear b4
    obtain ⟨_, r2, hr2, rfl, hRt⟩ | ⟨hno, _⟩ := hresR
    rotate_left
    · rw [hok.out] at hno; cases hno
    refine hK.out _ _ (AS1.out _ D24.out) (fun hS => ?_)
    clear hK K
    try simp only [Act.put, List.setIfInBounds_toArray, List.set_cons_zero, List.set_cons_succ]
    refine wpAnyH_take (i := 4) (v := ?_) (by simp only [List.getElem?_toArray, List.getElem?_cons_succ, List.getElem?_cons_zero]; rfl) (by kernel_rfl) (by kernel_rfl) (by kernel_rfl) (by exact fun _ _ _ h => h) (Or.inl ⟨by rfl, ?_⟩) hS ?_
    rotate_left
    · intro w hSw
      go_simp
      try with_reducible rfl
    try simp only [Act.put, List.setIfInBounds_toArray, List.set_cons_zero, List.set_cons_succ]
    refine wpAnyH_take (i := 5) (v := ?_) (by simp only [List.getElem?_toArray, List.getElem?_cons_succ, List.getElem?_cons_zero]; rfl) (by kernel_rfl) (by kernel_rfl) (by kernel_rfl) (by exact fun _ _ _ h => h) (Or.inl ⟨by rfl, ?_⟩) hS ?_
    rotate_left
    · intro w hSw
      go_simp
      try with_reducible rfl
    try simp only [Act.put, List.setIfInBounds_toArray, List.set_cons_zero, List.set_cons_succ]
    refine wpAnyH_take (i := 6) (v := ?_) (by simp only [List.getElem?_toArray, List.getElem?_cons_succ, List.getElem?_cons_zero]; rfl) (by kernel_rfl) (by kernel_rfl) (by kernel_rfl) (by exact fun _ _ _ h => h) (Or.inl ⟨by rfl, ?_⟩) hS ?_
    rotate_left
    · intro w hSw
      go_simp
      try with_reducible rfl
    try simp only [Act.put, List.setIfInBounds_toArray, List.set_cons_zero, List.set_cons_succ]
    refine wpAnyH_take (i := 7) (v := ?_) (by simp only [List.getElem?_toArray, List.getElem?_cons_succ, List.getElem?_cons_zero]; rfl) (by kernel_rfl) (by kernel_rfl) (by kernel_rfl) (by exact fun _ _ _ h => h) (Or.inl ⟨by rfl, ?_⟩) hS ?_
    rotate_left
    · intro w hSw
      go_simp
      try with_reducible rfl
    try simp only [Act.put, List.setIfInBounds_toArray, List.set_cons_zero, List.set_cons_succ]
    refine wpAnyH_take (i := 8) (v := ?_) (by simp only [List.getElem?_toArray, List.getElem?_cons_succ, List.getElem?_cons_zero]; rfl) (by kernel_rfl) (by kernel_rfl) (by kernel_rfl) (by exact fun _ _ _ h => h) (Or.inl ⟨by rfl, ?_⟩) hS ?_
    rotate_left
    · intro w hSw
      go_simp
      try with_reducible rfl
    try simp only [Act.put, List.setIfInBounds_toArray, List.set_cons_zero, List.set_cons_succ]
    refine wpAnyH_done (by kernel_rfl) ?_ _
    have hgr0 : Hid (r2 ≠ g) := Lib.hid (by have := hglt.out; have := hs3.out; omega)
    have hrw0 := Lib.hid (show w.heap.size ≤ r2 by have := D2.out.size; have := hs3.out; omega)
    have D4 := Lib.hid (D2.out.trans (D24.out.mono D2.out.size))
    have O4 := Lib.hid (O2.out.below D24.out O2.out.tt.lt)
    have R4 := Lib.hid hRt
    clear hRt hS O2 hr2
    go_wp2_with fail
    go_loopw [15, 17, 19] (fun t rr i wr => ∃ (kk g r2 : Nat) (L A : Stt), kk ≤ n ∧ i = .int .i64 (kk : Int) ∧ t = .pointer (some ⟨g, 0, none⟩) ∧ rr = .pointer (some ⟨r2, 0, none⟩) ∧ Ob wr g ⟨b, p, q, u, o, r, gg, k, x⟩ L A ∧ Rt wr r2 ⟨b, p, q, u, o, r, gg, k, x⟩ L A ∧ r2 ≠ g ∧ w.heap.size ≤ g ∧ w.heap.size ≤ r2 ∧ okV ⟨b, p, q, u, o, r, gg, k, x⟩ L = true ∧ E8 L ∧ AG ⟨b, p, q, u, o, r, gg, k, x⟩ A ∧ Below w.heap.size w wr) (fun _ _ i _ => n - (intOf i).toNat)
    case atStart => exact ⟨0, _, _, _, _, by omega, rfl, rfl, rfl, O4.out, R4.out, hgr0.out, hgw.out, hrw0.out, hok.out, hs8.out, hAG0.out, D4.out⟩
    case round =>
      clear O4 R4 D4 hgr0 hrw0 hgw hglt hok hs8 hAG0 hs3 AS1 D20 D23 D24 D2 D1 cz2 ez2 HNR HOF
      obtain ⟨kk, g, r2, L, A, hkk, rfl, rfl, rfl, hO, hR, hgr, hg, hr, hokL, he8, hA, hB⟩ := hrel
      have hgw := Lib.hid hg
      have hrw := Lib.hid hr
      have hAG := Lib.hid hA
      replace hokL := Lib.hid hokL
      replace he8 := Lib.hid he8
      replace hO := Lib.hid hO
      replace hR := Lib.hid hR
      replace hB := Lib.hid hB
      clear hg hr hA
      by_cases hlt : kk < n
      · have hlt' : (kk : Int) < (n : Int) := by omega
        obtain ⟨bb, off, rfl, hbb, hf, hcell⟩ := hrS.out kk (by rw [hn.out]; exact hlt)
        obtain ⟨y, hy⟩ : ∃ y, y = l[kk]'(by rw [hn.out]; exact hlt) := ⟨_, rfl⟩
        rw [← hy] at hcell hf
        have hye := Lib.hid (e8of y hf)
        have AS2 : Hid (∀ w', Below w.heap.size w w' → (loadVar 26 ⟨bb, off + kk * 6, none⟩).run Try.prog w' = .ok (.agg (sc y)) w') := Lib.hid fun w' hb => run_loadVar_mid w' bb (off + kk * 6) 26 (sc y).toList _ (range_below hcell hb hbb) Try.underlying26 rfl i26
        have b0 : Below wr.heap.size wr wr.drew := (Below.refl _ _).drew
        have O0 := Lib.hid (hO.out.below b0 hO.out.tt.lt)
        have R0 := Lib.hid (hR.out.below b0 hR.out.lt)
        have D0 := Lib.hid (hB.out.trans (b0.mono hB.out.size))
        have hok2 := Lib.hid (HOS.out L y hokL.out)
        have he2 := Lib.hid (HES.out L y he8.out hye.out)
        clear hf hcell hy b0 hO hR hB hbb
        go_wp2_with fail
        refine wp_region_held_drew (S := fun w' => (loadVar 26 ⟨bb, off + kk * 6, none⟩).run Try.prog w' = .ok (.agg (sc y)) w') (by kernel_rfl) (AS2.out _ D0.out) (fun hS => ?_)
        try simp only [List.size_toArray, List.length_cons, List.length_nil, Nat.reduceAdd]
        refine wpAnyH_take (i := 0) (v := ?_) (by simp only [List.getElem?_toArray, List.getElem?_cons_succ, List.getElem?_cons_zero]; rfl) (by kernel_rfl) (by kernel_rfl) (by kernel_rfl) (by exact fun _ _ _ h => h) (Or.inl ⟨by rfl, ?_⟩) hS ?_
        rotate_left
        · intro w hSw
          go_simp
          try with_reducible rfl
        try simp only [Act.put, List.setIfInBounds_toArray, List.set_cons_zero, List.set_cons_succ]
        refine wpAnyH_take (i := 1) (v := ?_) (by simp only [List.getElem?_toArray, List.getElem?_cons_succ, List.getElem?_cons_zero]; rfl) (by kernel_rfl) (by kernel_rfl) (by kernel_rfl) (by exact fun _ _ _ h => h) (Or.inl ⟨by rfl, ?_⟩) hS ?_
        rotate_left
        · intro w hSw
          go_simp
          try with_reducible rfl
        try simp only [Act.put, List.setIfInBounds_toArray, List.set_cons_zero, List.set_cons_succ]
        refine wpAnyH_take (i := 2) (v := ?_) (by simp only [List.getElem?_toArray, List.getElem?_cons_succ, List.getElem?_cons_zero]; rfl) (by kernel_rfl) (by kernel_rfl) (by kernel_rfl) (by exact fun _ _ _ h => h) (Or.inl ⟨by rfl, ?_⟩) hS ?_
        rotate_left
        · intro w hSw
          go_simp
          try with_reducible rfl
        try simp only [Act.put, List.setIfInBounds_toArray, List.set_cons_zero, List.set_cons_succ]
        refine wpAnyH_take (i := 3) (v := ?_) (by simp only [List.getElem?_toArray, List.getElem?_cons_succ, List.getElem?_cons_zero]; rfl) (by kernel_rfl) (by kernel_rfl) (by kernel_rfl) (by exact fun _ _ _ h => h) (Or.inl ⟨by rfl, ?_⟩) hS ?_
        rotate_left
        · intro w hSw
          go_simp
          try with_reducible rfl
        try simp only [Act.put, List.setIfInBounds_toArray, List.set_cons_zero, List.set_cons_succ]
        refine wpAnyH_take (i := 4) (v := .agg (sc y)) (by simp only [List.getElem?_toArray, List.getElem?_cons_succ, List.getElem?_cons_zero]; rfl) (by kernel_rfl) (by kernel_rfl) (by kernel_rfl) (by exact fun _ _ _ h => h) (Or.inl ⟨by rfl, ?_⟩) hS ?_
        · intro wq hSw
          exact exec_load 26 (.tmp 59) rfl ⟨bb, off + kk * 6, none⟩ rfl _ wq hSw
        try simp only [Act.put, List.setIfInBounds_toArray, List.set_cons_zero, List.set_cons_succ]
        refine wpAnyH_take (i := 6) (v := ?_) (by simp only [List.getElem?_toArray, List.getElem?_cons_succ, List.getElem?_cons_zero]; rfl) (by kernel_rfl) (by kernel_rfl) (by kernel_rfl) (by exact fun _ _ _ h => h) (Or.inl ⟨by rfl, ?_⟩) hS ?_
        rotate_left
        · intro w hSw
          go_simp
          try with_reducible rfl
        try simp only [Act.put, List.setIfInBounds_toArray, List.set_cons_zero, List.set_cons_succ]
        refine wpAnyH_take (i := 7) (v := ?_) (by simp only [List.getElem?_toArray, List.getElem?_cons_succ, List.getElem?_cons_zero]; rfl) (by kernel_rfl) (by kernel_rfl) (by kernel_rfl) (by exact fun _ _ _ h => h) (Or.inl ⟨by rfl, ?_⟩) hS ?_
        rotate_left
        · intro w hSw
          go_simp
          try with_reducible rfl
        try simp only [Act.put, List.setIfInBounds_toArray, List.set_cons_zero, List.set_cons_succ]
        refine wpAnyH_take (i := 8) (v := ?_) (by simp only [List.getElem?_toArray, List.getElem?_cons_succ, List.getElem?_cons_zero]; rfl) (by kernel_rfl) (by kernel_rfl) (by kernel_rfl) (by exact fun _ _ _ h => h) (Or.inl ⟨by rfl, ?_⟩) hS ?_
        rotate_left
        · intro w hSw
          go_simp
          try with_reducible rfl
        try simp only [Act.put, List.setIfInBounds_toArray, List.set_cons_zero, List.set_cons_succ]
        refine wpAnyH_take (i := 9) (v := ?_) (by simp only [List.getElem?_toArray, List.getElem?_cons_succ, List.getElem?_cons_zero]; rfl) (by kernel_rfl) (by kernel_rfl) (by kernel_rfl) (by exact fun _ _ _ h => h) (Or.inl ⟨by rfl, ?_⟩) hS ?_
        rotate_left
        · intro w hSw
          go_simp
          try with_reducible rfl
        try simp only [Act.put, List.setIfInBounds_toArray, List.set_cons_zero, List.set_cons_succ]
        refine wpAnyH_take (i := 10) (v := .agg (sc y)) (by simp only [List.getElem?_toArray, List.getElem?_cons_succ, List.getElem?_cons_zero]; rfl) (by kernel_rfl) (by kernel_rfl) (by kernel_rfl) (by exact fun _ _ _ h => h) (Or.inl ⟨by rfl, ?_⟩) hS ?_
        · intro wq hSw
          exact exec_load 26 (.tmp 65) rfl ⟨bb, off + kk * 6, none⟩ rfl _ wq hSw
        try simp only [Act.put, List.setIfInBounds_toArray, List.set_cons_zero, List.set_cons_succ]
        refine wpAnyH_ready (rs := [5]) (by kernel_rfl) (by simp) ?_
        refine AllReadyH.cons (by simp only [List.getElem?_toArray, List.getElem?_cons_succ, List.getElem?_cons_zero]; rfl) (fun K hK => ?_) AllReadyH.nil
        go_simp
        go_at_call 11
        refine (HT.out _ _ _ _ _ O0.out).mono ?_
        rintro e' w5 ⟨rfl, o5, b5⟩
        have O5 := Lib.hid o5
        have R5 := Lib.hid (rt_kept R0.out b5 hgr)
        have D5 := Lib.hid (bgb D0.out hgw.out D0.out.size b5)
        clear o5 b5
        refine hK.out _ _ (AS2.out _ D5.out) (fun hS => ?_)
        clear hK K
        try simp only [Act.put, List.setIfInBounds_toArray, List.set_cons_zero, List.set_cons_succ]
        refine wpAnyH_ready (rs := [11]) (by kernel_rfl) (by simp) ?_
        refine AllReadyH.cons (by simp only [List.getElem?_toArray, List.getElem?_cons_succ, List.getElem?_cons_zero]; rfl) (fun K hK => ?_) AllReadyH.nil
        go_simp
        go_at_call 10
        refine (HOFY.out _ _).mono ?_
        rintro e' w6 ⟨rfl, b6⟩
        have O6 := Lib.hid (O5.out.below b6 O5.out.tt.lt)
        have R6 := Lib.hid (R5.out.below b6 R5.out.lt)
        have D6 := Lib.hid (D5.out.trans (b6.mono D5.out.size))
        clear b6
        refine hK.out _ _ (AS2.out _ D6.out) (fun hS => ?_)
        clear hK K
        try simp only [Act.put, List.setIfInBounds_toArray, List.set_cons_zero, List.set_cons_succ]
        refine wpAnyH_ready (rs := [12]) (by kernel_rfl) (by simp) ?_
        refine AllReadyH.cons (by simp only [List.getElem?_toArray, List.getElem?_cons_succ, List.getElem?_cons_zero]; rfl) (fun K hK => ?_) AllReadyH.nil
        go_simp
        go_at_call 12
        refine (HTR.out _ _ _ _ hye.out _ R6.out).mono ?_
        rintro e' w7 ⟨rfl, o7, b7⟩
        have R7 := Lib.hid o7
        have O7 := Lib.hid (ob_kept O6.out b7 (fun h => hgr h.symm))
        have D7 := Lib.hid (bgb D6.out hrw.out D6.out.size b7)
        clear o7 b7 O0 R0 O5 R5 O6 R6
        generalize setE ⟨b, p, q, u, o, r, gg, k, x⟩ L y = SE
        refine hK.out _ _ (AS2.out _ D7.out) (fun hS => ?_)
        clear hK K
        try simp only [Act.put, List.setIfInBounds_toArray, List.set_cons_zero, List.set_cons_succ]
        refine wpAnyH_take (i := 13) (v := ?_) (by simp only [List.getElem?_toArray, List.getElem?_cons_succ, List.getElem?_cons_zero]; rfl) (by kernel_rfl) (by kernel_rfl) (by kernel_rfl) (by exact fun _ _ _ h => h) (Or.inl ⟨by rfl, ?_⟩) hS ?_
        rotate_left
        · intro w hSw
          go_simp
          try with_reducible rfl
        try simp only [Act.put, List.setIfInBounds_toArray, List.set_cons_zero, List.set_cons_succ]
        refine wpAnyH_take (i := 14) (v := ?_) (by simp only [List.getElem?_toArray, List.getElem?_cons_succ, List.getElem?_cons_zero]; rfl) (by kernel_rfl) (by kernel_rfl) (by kernel_rfl) (by exact fun _ _ _ h => h) (Or.inl ⟨by rfl, ?_⟩) hS ?_
        rotate_left
        · intro w hSw
          go_simp
          try with_reducible rfl
        try simp only [Act.put, List.setIfInBounds_toArray, List.set_cons_zero, List.set_cons_succ]
        refine wpAnyH_take (i := 15) (v := ?_) (by simp only [List.getElem?_toArray, List.getElem?_cons_succ, List.getElem?_cons_zero]; rfl) (by kernel_rfl) (by kernel_rfl) (by kernel_rfl) (by exact fun _ _ _ h => h) (Or.inl ⟨by rfl, ?_⟩) hS ?_
        rotate_left
        · intro w hSw
          go_simp
          try with_reducible rfl
        try simp only [Act.put, List.setIfInBounds_toArray, List.set_cons_zero, List.set_cons_succ]
        refine wpAnyH_take (i := 16) (v := ?_) (by simp only [List.getElem?_toArray, List.getElem?_cons_succ, List.getElem?_cons_zero]; rfl) (by kernel_rfl) (by kernel_rfl) (by kernel_rfl) (by exact fun _ _ _ h => h) (Or.inl ⟨by rfl, ?_⟩) hS ?_
        rotate_left
        · intro w hSw
          go_simp
          try with_reducible rfl
        try simp only [Act.put, List.setIfInBounds_toArray, List.set_cons_zero, List.set_cons_succ]
        refine wpAnyH_take (i := 17) (v := ?_) (by simp only [List.getElem?_toArray, List.getElem?_cons_succ, List.getElem?_cons_zero]; rfl) (by kernel_rfl) (by kernel_rfl) (by kernel_rfl) (by exact fun _ _ _ h => h) (Or.inl ⟨by rfl, ?_⟩) hS ?_
        rotate_left
        · intro w hSw
          go_simp
          try with_reducible rfl
        try simp only [Act.put, List.setIfInBounds_toArray, List.set_cons_zero, List.set_cons_succ]
        refine wpAnyH_take (i := 18) (v := ?_) (by simp only [List.getElem?_toArray, List.getElem?_cons_succ, List.getElem?_cons_zero]; rfl) (by kernel_rfl) (by kernel_rfl) (by kernel_rfl) (by exact fun _ _ _ h => h) (Or.inl ⟨by rfl, ?_⟩) hS ?_
        rotate_left
        · intro w hSw
          go_simp
          try with_reducible rfl
        try simp only [Act.put, List.setIfInBounds_toArray, List.set_cons_zero, List.set_cons_succ]
        refine wpAnyH_take (i := 19) (v := ?_) (by simp only [List.getElem?_toArray, List.getElem?_cons_succ, List.getElem?_cons_zero]; rfl) (by kernel_rfl) (by kernel_rfl) (by kernel_rfl) (by exact fun _ _ _ h => h) (Or.inl ⟨by rfl, ?_⟩) hS ?_
        rotate_left
        · intro w hSw
          go_simp
          try with_reducible rfl
        try simp only [Act.put, List.setIfInBounds_toArray, List.set_cons_zero, List.set_cons_succ]
        refine wpAnyH_ready (rs := [20]) (by kernel_rfl) (by simp) ?_
        refine AllReadyH.cons (by simp only [List.getElem?_toArray, List.getElem?_cons_succ, List.getElem?_cons_zero]; rfl) (fun K hK => ?_) AllReadyH.nil
        go_simp
        go_at_call 13
        refine (HLK.out _ _ _ _ hAG.out () hgr _ O7.out R7.out).mono ?_
        rintro e' w8 ⟨rfl, o8, o9, b8⟩
        have O8 := Lib.hid o8
        have R8 := Lib.hid o9
        have D8 := Lib.hid (bgb D7.out hgw.out D7.out.size b8)
        clear o8 o9 b8 O7 R7
        refine hK.out _ _ (AS2.out _ D8.out) (fun hS => ?_)
        clear hK K
        try simp only [Act.put, List.setIfInBounds_toArray, List.set_cons_zero, List.set_cons_succ]
        refine wpAnyH_take (i := 21) (v := ?_) (by simp only [List.getElem?_toArray, List.getElem?_cons_succ, List.getElem?_cons_zero]; rfl) (by kernel_rfl) (by kernel_rfl) (by kernel_rfl) (by exact fun _ _ _ h => h) (Or.inl ⟨by rfl, ?_⟩) hS ?_
        rotate_left
        · intro w hSw
          go_simp
          try with_reducible rfl
        try simp only [Act.put, List.setIfInBounds_toArray, List.set_cons_zero, List.set_cons_succ]
        refine wpAnyH_take (i := 22) (v := ?_) (by simp only [List.getElem?_toArray, List.getElem?_cons_succ, List.getElem?_cons_zero]; rfl) (by kernel_rfl) (by kernel_rfl) (by kernel_rfl) (by exact fun _ _ _ h => h) (Or.inl ⟨by rfl, ?_⟩) hS ?_
        rotate_left
        · intro w hSw
          go_simp
          try with_reducible rfl
        try simp only [Act.put, List.setIfInBounds_toArray, List.set_cons_zero, List.set_cons_succ]
        refine wpAnyH_done (by kernel_rfl) ?_ _
        generalize setL ⟨b, p, q, u, o, r, gg, k, x⟩ L y = L2 at *
        clear hS
        by_cases hu : kk < un
        · have hu' : (kk : Int) < (un : Int) := by omega
          obtain ⟨ub, uoff, rfl, hub, hucell⟩ := hur.out kk (by rw [hun.out]; exact hu)
          obtain ⟨uv, huv⟩ : ∃ uv, uv = ul[kk]'(by rw [hun.out]; exact hu) := ⟨_, rfl⟩
          rw [← huv] at hucell
          have cu := (D8.out.cell (p := ⟨ub, uoff + kk, none⟩) hub).trans hucell
          replace huv := Lib.hid huv
          clear hucell
          cases uv with
          | false =>
            go_wp2_with fail
            go_roundw
            case rel => exact ⟨kk + 1, g, r2, L2, A, by omega, by go_num, rfl, rfl, O8.out, R8.out, hgr, hgw.out, hrw.out, hok2.out, he2.out, hAG.out, D8.out⟩
            case measure => simp [intOf]; omega
          | true =>
            go_wp2_with fail
            refine (HPW.out _ _ _ _ O8.out).mono ?_
            rintro e' w9 ⟨b9, g3, hg3, rfl, hN9⟩
            have R9 := Lib.hid (R8.out.below b9 R8.out.lt)
            have D9 := Lib.hid (D8.out.trans (b9.mono D8.out.size))
            have O9 := Lib.hid hN9.ob
            have hg3w := Lib.hid (Nat.le_trans D8.out.size hg3)
            have hg3l := Lib.hid hN9.tt.lt
            clear b9 hN9 hg3 O8 R8 D8 cu
            go_wp2_with fail
            refine (HPR.out _ _ _ hok2.out he2.out _ R9.out).mono ?_
            rintro e' wa ⟨ba, r3, hr3, rfl, hRa⟩
            have Ra := Lib.hid hRa
            have Oa := Lib.hid (O9.out.below ba O9.out.tt.lt)
            have Da := Lib.hid (D9.out.trans (ba.mono D9.out.size))
            have hr3w := Lib.hid (Nat.le_trans D9.out.size hr3)
            have hgr3 : r3 ≠ g3 := by have := hg3l.out; omega
            have hAG3 := Lib.hid (HAG.out _ hok2.out he2.out)
            clear ba hRa hr3 O9 R9 D9
            go_wp2_with fail
            refine (HLK.out _ _ _ _ hAG3.out () hgr3 _ Oa.out Ra.out).mono ?_
            rintro e' wb ⟨rfl, hOb, hRb, bb'⟩
            have Db := Lib.hid (bgb Da.out hg3w.out Da.out.size bb')
            replace hOb := Lib.hid hOb
            replace hRb := Lib.hid hRb
            have hokf := Lib.hid (HOK.out _ hok2.out)
            have hef := Lib.hid (e8F _ he2.out)
            clear bb' Oa Ra Da
            go_wp2_with fail
            go_roundw
            case rel => exact ⟨kk + 1, g3, r3, _, _, by omega, by go_num, rfl, rfl, hOb.out, hRb.out, hgr3, hg3w.out, hr3w.out, hokf.out, hef.out, hAG3.out, Db.out⟩
            case measure => simp [intOf]; omega
        · have hu' : ¬ (kk : Int) < (un : Int) := by omega
          go_wp2_with fail
          go_roundw
          case rel => exact ⟨kk + 1, g, r2, L2, A, by omega, by go_num, rfl, rfl, O8.out, R8.out, hgr, hgw.out, hrw.out, hok2.out, he2.out, hAG.out, D8.out⟩
          case measure => simp [intOf]; omega
      · have hlt' : ¬ (kk : Int) < (n : Int) := by omega
        go_wp2_with fail
        refine (HLK.out _ _ _ _ hAG.out () hgr _ hO.out hR.out).mono ?_
        rintro e' w5 ⟨rfl, o5, o6, b5⟩
        have O5 := Lib.hid o5
        have R5 := Lib.hid o6
        have D5 := Lib.hid (bgb hB.out hgw.out hB.out.size b5)
        clear o5 o6 b5 hO hR
        go_wp2_with fail
        refine (i8W _ _).mono ?_
        rintro e' w6 ⟨⟨v, rfl⟩, rfl⟩
        go_wp2_with fail
        refine (HLK2.out _ _ _ _ _ hAG.out hgr _ O5.out R5.out).mono ?_
        rintro e' w7 ⟨rfl, o7, o8, b7⟩
        have D7 := Lib.hid (bgb D5.out hgw.out D5.out.size b7)
        clear o7 o8 b7
        go_wp2
        go_ret
        exact ⟨rfl, D7.out⟩
  · go_wp2_with fail
    refine wp_region_held_drew (S := fun w' => (loadVar 23 ⟨w.heap.size, 0, none⟩).run Try.prog w' = .ok (.agg (cc ⟨b, p, q, u, o, r, gg, k, x⟩)) w' ∧ (loadVar 26 ⟨w.heap.size + 1, 0, none⟩).run Try.prog w' = .ok (.agg (sc ⟨z0, z1, z2, z3, e, d⟩)) w') (by kernel_rfl) (AS1.out _ D20.out) (fun hS => ?_)
    try simp only [List.size_toArray, List.length_cons, List.length_nil, Nat.reduceAdd]
    refine wpAnyH_take (i := 0) (v := .agg (cc ⟨b, p, q, u, o, r, gg, k, x⟩)) (by simp only [List.getElem?_toArray, List.getElem?_cons_succ, List.getElem?_cons_zero]; rfl) (by kernel_rfl) (by kernel_rfl) (by kernel_rfl) (by exact fun _ _ _ h => h) (Or.inl ⟨by rfl, ?_⟩) hS ?_
    · intro wq hSw
      exact exec_load 23 (.tmp 7) rfl ⟨w.heap.size, 0, none⟩ rfl _ wq hSw.1
    try simp only [Act.put, List.setIfInBounds_toArray, List.set_cons_zero, List.set_cons_succ]
    refine wpAnyH_take (i := 1) (v := .agg (sc ⟨z0, z1, z2, z3, e, d⟩)) (by simp only [List.getElem?_toArray, List.getElem?_cons_succ, List.getElem?_cons_zero]; rfl) (by kernel_rfl) (by kernel_rfl) (by kernel_rfl) (by exact fun _ _ _ h => h) (Or.inl ⟨by rfl, ?_⟩) hS ?_
    · intro wq hSw
      exact exec_load 26 (.tmp 8) rfl ⟨w.heap.size + 1, 0, none⟩ rfl _ wq hSw.2
    try simp only [Act.put, List.setIfInBounds_toArray, List.set_cons_zero, List.set_cons_succ]
    refine wpAnyH_ready (rs := [2]) (by kernel_rfl) (by simp) ?_
    refine AllReadyH.cons (by simp only [List.getElem?_toArray, List.getElem?_cons_succ, List.getElem?_cons_zero]; rfl) (fun K hK => ?_) AllReadyH.nil
    go_simp
    go_at_call 10
    refine (HOF.out _).mono ?_
    rintro e' w3 ⟨rfl, b3⟩
    have D23 : Hid (Below w2.heap.size w2 w3) := Lib.hid (D20.out.trans (b3.mono D20.out.size))
    clear b3
    refine hK.out _ _ (AS1.out _ D23.out) (fun hS => ?_)
    clear hK K
    try simp only [Act.put, List.setIfInBounds_toArray, List.set_cons_zero, List.set_cons_succ]
    refine wpAnyH_ready (rs := [3]) (by kernel_rfl) (by simp) ?_
    refine AllReadyH.cons (by simp only [List.getElem?_toArray, List.getElem?_cons_succ, List.getElem?_cons_zero]; rfl) (fun K hK => ?_) AllReadyH.nil
    go_simp
    go_at_call 9
    refine (HNR.out _).mono ?_
    rintro e' w4 ⟨b4, hresR⟩
    have D24 : Hid (Below w2.heap.size w2 w4) := Lib.hid (D23.out.trans (b4.mono D23.out.size))
    clear b4
    obtain ⟨hno, _⟩ | ⟨_, rfl⟩ := hresR
    · rw [hok] at hno; cases hno
    refine hK.out _ _ (AS1.out _ D24.out) (fun hS => ?_)
    clear hK K
    try simp only [Act.put, List.setIfInBounds_toArray, List.set_cons_zero, List.set_cons_succ]
    refine wpAnyH_take (i := 4) (v := ?_) (by simp only [List.getElem?_toArray, List.getElem?_cons_succ, List.getElem?_cons_zero]; rfl) (by kernel_rfl) (by kernel_rfl) (by kernel_rfl) (by exact fun _ _ _ h => h) (Or.inl ⟨by rfl, ?_⟩) hS ?_
    rotate_left
    · intro w hSw
      go_simp
      try with_reducible rfl
    try simp only [Act.put, List.setIfInBounds_toArray, List.set_cons_zero, List.set_cons_succ]
    refine wpAnyH_take (i := 5) (v := ?_) (by simp only [List.getElem?_toArray, List.getElem?_cons_succ, List.getElem?_cons_zero]; rfl) (by kernel_rfl) (by kernel_rfl) (by kernel_rfl) (by exact fun _ _ _ h => h) (Or.inl ⟨by rfl, ?_⟩) hS ?_
    rotate_left
    · intro w hSw
      go_simp
      try with_reducible rfl
    try simp only [Act.put, List.setIfInBounds_toArray, List.set_cons_zero, List.set_cons_succ]
    refine wpAnyH_take (i := 6) (v := ?_) (by simp only [List.getElem?_toArray, List.getElem?_cons_succ, List.getElem?_cons_zero]; rfl) (by kernel_rfl) (by kernel_rfl) (by kernel_rfl) (by exact fun _ _ _ h => h) (Or.inl ⟨by rfl, ?_⟩) hS ?_
    rotate_left
    · intro w hSw
      go_simp
      try with_reducible rfl
    try simp only [Act.put, List.setIfInBounds_toArray, List.set_cons_zero, List.set_cons_succ]
    refine wpAnyH_take (i := 7) (v := ?_) (by simp only [List.getElem?_toArray, List.getElem?_cons_succ, List.getElem?_cons_zero]; rfl) (by kernel_rfl) (by kernel_rfl) (by kernel_rfl) (by exact fun _ _ _ h => h) (Or.inl ⟨by rfl, ?_⟩) hS ?_
    rotate_left
    · intro w hSw
      go_simp
      try with_reducible rfl
    try simp only [Act.put, List.setIfInBounds_toArray, List.set_cons_zero, List.set_cons_succ]
    refine wpAnyH_take (i := 8) (v := ?_) (by simp only [List.getElem?_toArray, List.getElem?_cons_succ, List.getElem?_cons_zero]; rfl) (by kernel_rfl) (by kernel_rfl) (by kernel_rfl) (by exact fun _ _ _ h => h) (Or.inl ⟨by rfl, ?_⟩) hS ?_
    rotate_left
    · intro w hSw
      go_simp
      try with_reducible rfl
    try simp only [Act.put, List.setIfInBounds_toArray, List.set_cons_zero, List.set_cons_succ]
    refine wpAnyH_done (by kernel_rfl) ?_ _
    go_wp2
    go_ret
    exact ⟨rfl, D2.out.trans (D24.out.mono D2.out.size)⟩
theorem all (c : Cfg) (s : Stt) (hFs : Fine s) (a ua : Option Addr) (l : List Stt) (ul : List Bool) (n cap un ucap : Nat) (area sector place : Int) (hsI : (Lit.int .i64 sector).wf = true) (hpI : (Lit.int .i64 place).wf = true) (w : World) (hn : l.length = n) (hr : RdS w a l) (hun : ul.length = un) (hur : RdB w ua ul) :
    Calls Try.prog 3 #[cv c, sv s, .slice a n cap, .slice ua un ucap, .int .i64 area, .int .i64 sector, .int .i64 place] w fun e w' => e = .returned (.bool true) ∧ Below w.heap.size w w' := by
  by_cases h : n ≤ 100
  · exact law c s hFs a ua l ul n cap un ucap area sector place (by have := hsI; simp [Lit.wf, IntKind.min, IntKind.max, IntKind.signed, IntKind.bits] at this; omega) (by have := hpI; simp [Lit.wf, IntKind.min, IntKind.max, IntKind.signed, IntKind.bits] at this; omega) w hn hr hun hur h
  · exact early c s a ua n cap un ucap area sector place w (by omega)
end Go.Proofs.Ytcggghiionlngaa.AreZ7
