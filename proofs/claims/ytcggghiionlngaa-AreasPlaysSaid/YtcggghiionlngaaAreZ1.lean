/- The document's geom: groups, sizes. -/
import Derived.Test.YtcggghiionlngaaAreR
import Derived.Test.YtcggghiionlngaaGeoRC
import Derived.StillTailTactics
namespace Go.Proofs.Ytcggghiionlngaa.AreZ1
open Go.ChangeShapes Go.WideShapes Go.ChangeAt Go.RowKit
open Mem GeoM GeoC GeoD GeoE GeoF AreA AreB AreC AreD AreF AreG AreH AreI AreJ AreK AreL
open AreE (i76)
set_option linter.unusedVariables false
set_option maxHeartbeats 2000000

theorem groupsR (c : Cfg) (h1 : 1 ≤ c.group) (h2 : 1 ≤ c.user ∧ c.user ≤ 16384) (w : World) : Calls Try.prog 44 #[cv c] w fun e w' => e = .returned (.int .i64 (groups c)) ∧ Below w.heap.size w w' := by
  unfold groups
  obtain ⟨b, p, q, u, o, r, gg, kk, x⟩ := c
  simp only at h1 h2
  have hne : gg ≠ 0 := by omega
  have hq : Int.tdiv u gg = u / gg := Int.tdiv_eq_ediv_of_nonneg (by omega)
  have hlo : 0 ≤ u / gg := Int.ediv_nonneg (by omega) (by omega)
  have hhi : u / gg ≤ u := Int.ediv_le_self _ (by omega)
  have hw : IntKind.i64.wrap (u / gg) = u / gg := by rw [IntKind.wrap_i64]; omega
  show Calls Try.prog 44 #[.agg #[.int .i64 b, .int .i64 p, .int .i64 q, .int .i64 u, .int .i64 o, .int .i64 r, .int .i64 gg, .int .i64 kk, .int .i64 x]] w _
  go_enter Try.func44, Try.ntmps44
  go_wp2
  go_ret
  exact ⟨rfl, (Below.refl _ _).alloc (Nat.le_refl _) _⟩

def zl (a : Stt) : List Int := [a.z0, a.z1, a.z2, a.z3]
def mm (c : Cfg) (a : Stt) (k : Nat) : Int := (zl a).getD k 0 * c.group
def lf (c : Cfg) (a : Stt) : Nat → Int
  | 0 => c.user
  | k + 1 => lf c a k - mm c a k
def ar8 (f : Nat → Int) (k : Nat) : Array Value := #[.int .i64 0, .int .i64 0, .int .i64 0, .int .i64 0, .int .i64 (if 0 < k then f 0 else 0), .int .i64 (if 1 < k then f 1 else 0), .int .i64 (if 2 < k then f 2 else 0), .int .i64 (if 3 < k then f 3 else 0)]
theorem four_of {k : Nat} (h : k < 4) : k = 0 ∨ k = 1 ∨ k = 2 ∨ k = 3 := by omega
theorem ar8_step (f : Nat → Int) (k : Nat) (h : k < 4) : (ar8 f k).setIfInBounds (4 + k) (.int .i64 (f k)) = ar8 f (k + 1) := by
  obtain rfl | rfl | rfl | rfl := four_of h
  all_goals rfl
theorem zl_bd {a : Stt} (h : Sm a) (k : Nat) (hk : k < 4) : 0 ≤ (zl a).getD k 0 ∧ (zl a).getD k 0 ≤ 32 := by
  obtain ⟨h0, h1, h2, h3⟩ := h
  obtain rfl | rfl | rfl | rfl := four_of hk
  · exact h0
  · exact h1
  · exact h2
  · exact h3
theorem zs_cell (a : Stt) (k : Nat) (hk : k < 4) : (zs a)[k]? = some (.int .i64 ((zl a).getD k 0)) := by
  obtain rfl | rfl | rfl | rfl := four_of hk
  all_goals rfl
theorem lf_bd {c : Cfg} {a : Stt} (h : Gd c a) : ∀ k : Nat, k ≤ 4 → -524288 * (k : Int) ≤ lf c a k ∧ lf c a k ≤ 16384
  | 0, _ => ⟨by have := h.1; simp only [lf]; omega, h.1.2⟩
  | k + 1, hk => by
    have h1 := lf_bd h k (by omega)
    have h2 := mul_bd (zl_bd h.2.2.1 k (by omega)) h.2.1
    simp only [lf, mm]
    omega
theorem lf_all (c : Cfg) (a : Stt) : lf c a 4 = c.user - a.z0 * c.group - a.z1 * c.group - a.z2 * c.group - a.z3 * c.group := rfl

set_option maxRecDepth 100000 in
theorem sizesR (c : Cfg) (a : Stt) (hG : Gd c a) (w : World) : Calls Try.prog 45 #[cv c, .agg (zs a)] w fun e w' => e = .returned (.agg (szV c a)) ∧ Below w.heap.size w w' := by
  have HZB := Lib.hid (fun k hk => mul_bd (zl_bd hG.2.2.1 k hk) hG.2.1)
  have HLF := Lib.hid (fun (k : Nat) hk => lf_bd hG k hk)
  have HZC := Lib.hid (fun k hk => zs_cell a k hk)
  have HMM : Hid (∀ k, mm c a k = (zl a).getD k 0 * c.group) := Lib.hid fun _ => rfl
  have HLS : Hid (∀ k, lf c a (k + 1) = lf c a k - mm c a k) := Lib.hid fun _ => rfl
  have HST := Lib.hid (fun k h => ar8_step (mm c a) k h)
  have HZ : Hid (((((ar8 (mm c a) 4).setIfInBounds 0 (.int .i64 (lf c a 4))).setIfInBounds 1 (.int .i64 c.boot)).setIfInBounds 2 (.int .i64 c.boot)).setIfInBounds 3 (.int .i64 c.rpa) = szV c a) := Lib.hid rfl
  have HL0 : Hid (lf c a 0 = c.user) := Lib.hid rfl
  have hb0 := hG.2.2.2
  obtain ⟨w0, hw0⟩ : ∃ w0, w0 = w.alloc (.cells (cc c) 23) := ⟨_, rfl⟩
  obtain ⟨w1, hw1⟩ : ∃ w1, w1 = w0.alloc (.cells (zs a) 24) := ⟨_, rfl⟩
  obtain ⟨w2, hw2⟩ : ∃ w2, w2 = w1.alloc (.cells #[.int .i64 0, .int .i64 0, .int .i64 0, .int .i64 0, .int .i64 0, .int .i64 0, .int .i64 0, .int .i64 0] 76) := ⟨_, rfl⟩
  obtain ⟨w3, hw3⟩ : ∃ w3, w3 = w2.alloc (.cells #[.int .i64 0, .int .i64 0, .int .i64 0, .int .i64 0, .int .i64 0, .int .i64 0, .int .i64 0, .int .i64 0] 76) := ⟨_, rfl⟩
  have s0 : w0.heap.size = w.heap.size + 1 := by rw [hw0]; simp
  have s1 : w1.heap.size = w.heap.size + 2 := by rw [hw1]; simp [s0]
  have s2 : w2.heap.size = w.heap.size + 3 := by rw [hw2]; simp [s1]
  have e0 : Mem.Blk w3 w.heap.size 23 (cc c) := by rw [hw3, hw2, hw1, hw0]; exact ((((Mem.Blk.new w 23 _).alloc _).alloc _).alloc _)
  have e1 : Mem.Blk w3 (w.heap.size + 1) 24 (zs a) := by rw [hw3, hw2, hw1, ← s0]; exact (((Mem.Blk.new w0 24 _).alloc _).alloc _)
  have e2 : Mem.Blk w3 (w.heap.size + 2) 76 #[.int .i64 0, .int .i64 0, .int .i64 0, .int .i64 0, .int .i64 0, .int .i64 0, .int .i64 0, .int .i64 0] := by rw [hw3, hw2, ← s1]; exact ((Mem.Blk.new w1 76 _).alloc _)
  have e3 : Mem.Blk w3 (w.heap.size + 3) 76 (ar8 (mm c a) 0) := by rw [hw3, ← s2]; exact Mem.Blk.new w2 76 _
  have D3 : Below w.heap.size w w3 := by rw [hw3, hw2, hw1, hw0]; exact ((((Below.refl _ _).alloc (Nat.le_refl _) _).alloc (by simp) _).alloc (by simp; omega) _).alloc (by simp; omega) _
  obtain ⟨b, p, q, u, o, r, gg, kk, x⟩ := c
  obtain ⟨z0, z1, z2, z3, ee, dd⟩ := a
  show Calls Try.prog 45 #[.agg #[.int .i64 b, .int .i64 p, .int .i64 q, .int .i64 u, .int .i64 o, .int .i64 r, .int .i64 gg, .int .i64 kk, .int .i64 x], .agg #[.int .i64 z0, .int .i64 z1, .int .i64 z2, .int .i64 z3]] w _
  unfold cc at hw0 e0
  unfold zs at hw1 e1
  simp only at hw0 hw1 e0 e1 HMM HL0 HZ HLF HZB hb0
  generalize szV ⟨b, p, q, u, o, r, gg, kk, x⟩ ⟨z0, z1, z2, z3, ee, dd⟩ = SZ at HZ ⊢
  generalize lf ⟨b, p, q, u, o, r, gg, kk, x⟩ ⟨z0, z1, z2, z3, ee, dd⟩ = L at *
  generalize mm ⟨b, p, q, u, o, r, gg, kk, x⟩ ⟨z0, z1, z2, z3, ee, dd⟩ = MM at *
  generalize zl ⟨z0, z1, z2, z3, ee, dd⟩ = ZL at *
  have E0 : Hid (∀ wr, Below w3.heap.size w3 wr ∨ True → True) := Lib.hid fun _ _ => trivial
  clear E0
  obtain ⟨j0, j1, j2, j3, j4, j5, j6, j7, j8⟩ := nine e0
  clear s0 s1 s2
  replace e0 := Lib.hid e0
  replace e1 := Lib.hid e1
  replace e2 := Lib.hid e2
  replace e3 := Lib.hid e3
  replace D3 := Lib.hid D3
  go_enter Try.func45, Try.ntmps45
  go_wp2_with fail
  rw [← hw0, ← hw1, ← hw2, ← hw3]
  replace hw0 := Lib.hid hw0
  replace hw1 := Lib.hid hw1
  replace hw2 := Lib.hid hw2
  replace hw3 := Lib.hid hw3
  try go_wp2_with fail
  clear j0 j1 j2 j3 j4 j5 j6 j7 j8
  go_loopw [6, 7] (fun lv i wr => ∃ k : Nat, k ≤ 4 ∧ i = .int .i64 (k : Int) ∧ lv = .int .i64 (L k) ∧ Mem.Blk wr w.heap.size 23 #[.int .i64 b, .int .i64 p, .int .i64 q, .int .i64 u, .int .i64 o, .int .i64 r, .int .i64 gg, .int .i64 kk, .int .i64 x] ∧ Mem.Blk wr (w.heap.size + 1) 24 #[.int .i64 z0, .int .i64 z1, .int .i64 z2, .int .i64 z3] ∧ Mem.Blk wr (w.heap.size + 2) 76 #[.int .i64 0, .int .i64 0, .int .i64 0, .int .i64 0, .int .i64 0, .int .i64 0, .int .i64 0, .int .i64 0] ∧ Mem.Blk wr (w.heap.size + 3) 76 (ar8 MM k) ∧ Below w.heap.size w wr) (fun _ i _ => 4 - (intOf i).toNat)
  case atStart => exact ⟨0, by omega, rfl, by rw [HL0.out], e0.out, e1.out, e2.out, e3.out, D3.out⟩
  case round =>
    clear e0 e1 e2 e3 D3
    obtain ⟨k, hk, rfl, rfl, q0, q1, q2, q3, hb⟩ := hrel
    by_cases hlt : k < 4
    · have hlt' : (k : Int) < 4 := by omega
      have hzb := HZB.out k hlt
      have hlb := HLF.out k hk
      have hlb2 := HLF.out (k + 1) hlt
      have hls := HLS.out k
      have hmm := HMM.out k
      have hz := (q1.drew.cell k).trans (HZC.out k hlt)
      obtain ⟨V, hV⟩ : ∃ V, V = ZL.getD k 0 := ⟨_, rfl⟩
      rw [← hV] at hz hzb hmm
      obtain ⟨Q, hQ⟩ : ∃ Q, Q = V * gg := ⟨_, rfl⟩
      obtain ⟨LK, hLK⟩ : ∃ LK, LK = L k := ⟨_, rfl⟩
      rw [← hQ] at hzb hmm
      rw [hmm, ← hLK] at hls
      rw [← hLK] at hlb ⊢
      rw [hls] at hlb2
      have hwp : IntKind.i64.wrap (V * gg) = Q := by rw [IntKind.wrap_i64]; omega
      obtain ⟨qi, hq⟩ : ∃ qi : Nat, qi = 4 + k := ⟨_, rfl⟩
      have hwa : IntKind.i64.wrap (4 + (k : Int)) = (qi : Int) := by rw [IntKind.wrap_i64]; omega
      have hws : IntKind.i64.wrap (LK - Q) = LK - Q := by rw [IntKind.wrap_i64]; omega
      have hq8 : (qi : Int) < 8 := by omega
      have hg := q0.drew.cell 6
      simp only [List.getElem?_toArray, List.getElem?_cons_succ, List.getElem?_cons_zero] at hg
      have had := q3.drew
      have hold : wr.drew.cell? ⟨w.heap.size + 3, qi, none⟩ = some (.int .i64 0) := by
        rw [had.cell qi, hq]
        obtain rfl | rfl | rfl | rfl := four_of hlt
        all_goals rfl
      have hfr := had.frozen qi
      have hP0 : Mem.Blk (wr.drew.setCell ⟨w.heap.size + 3, qi, none⟩ (.int .i64 Q)) (w.heap.size + 3) 76 (ar8 MM (k + 1)) := by
        rw [← HST.out k hlt, ← hq, hmm]; exact had.put qi _
      have hnew : (wr.setCell ⟨w.heap.size + 1 + 1 + 1, qi, none⟩ (.int .i64 Q)).cell? ⟨w.heap.size + 1 + 1 + 1, qi, none⟩ = some (.int .i64 Q) := World.cell?_setCell_same wr _ _ (show wr.cell? _ = _ from hold)
      have hP := Lib.hid hP0
      have hR0 : Hid (Mem.Blk (wr.drew.setCell ⟨w.heap.size + 3, qi, none⟩ (.int .i64 Q)) w.heap.size 23 #[.int .i64 b, .int .i64 p, .int .i64 q, .int .i64 u, .int .i64 o, .int .i64 r, .int .i64 gg, .int .i64 kk, .int .i64 x]) := Lib.hid (Mem.Blk.far q0.drew (p := ⟨w.heap.size + 3, qi, none⟩) (by simp) _)
      have hR1 : Hid (Mem.Blk (wr.drew.setCell ⟨w.heap.size + 3, qi, none⟩ (.int .i64 Q)) (w.heap.size + 1) 24 #[.int .i64 z0, .int .i64 z1, .int .i64 z2, .int .i64 z3]) := Lib.hid (Mem.Blk.far q1.drew (p := ⟨w.heap.size + 3, qi, none⟩) (by simp) _)
      have hR2 : Hid (Mem.Blk (wr.drew.setCell ⟨w.heap.size + 3, qi, none⟩ (.int .i64 Q)) (w.heap.size + 2) 76 #[.int .i64 0, .int .i64 0, .int .i64 0, .int .i64 0, .int .i64 0, .int .i64 0, .int .i64 0, .int .i64 0]) := Lib.hid (Mem.Blk.far q2.drew (p := ⟨w.heap.size + 3, qi, none⟩) (by simp) _)
      have hRb : Hid (Below w.heap.size w (wr.drew.setCell ⟨w.heap.size + 3, qi, none⟩ (.int .i64 Q))) := Lib.hid (hb.drew.setCell (p := ⟨w.heap.size + 3, qi, none⟩) (by show w.heap.size ≤ w.heap.size + 3; omega) _)
      replace hls := Lib.hid hls
      replace hV := Lib.hid hV
      replace hQ := Lib.hid hQ
      replace hLK := Lib.hid hLK
      replace hq := Lib.hid hq
      clear had hP0 hmm q0 q1 q2 q3 hb hzb hlb hlb2
      go_wp2_with fail
      refine wp_region_still_tail 9 (by kernel_rfl) (by kernel_rfl) ?_
      simp only [List.take_succ_cons, List.take_zero, List.drop_succ_cons, List.drop_zero]
      change wpStill _ _ (World.drew _) (fun a' => wpList _ _ _ _ a' (World.drew _)) _ _
      repeat still_step
      try refine wpStill_nil ?_
      change wpList _ _ _ _ _ (World.drew _)
      go_wp2_with fail
      go_roundw
      case rel => exact ⟨k + 1, by omega, by go_num, by rw [hls.out], hR0.out, hR1.out, hR2.out, hP.out, hRb.out⟩
      case measure => simp [intOf]; omega
    · obtain rfl : k = 4 := by omega
      have hlt' : ¬ ((4 : Nat) : Int) < 4 := by omega
      have a0 := q2.cell 0
      have f0 := q2.frozen 0
      have c0 := q3.cell 0
      have a1 := q2.cell 1
      have f1 := q2.frozen 1
      have c1 := q3.cell 1
      have a2 := q2.cell 2
      have f2 := q2.frozen 2
      have c2 := q3.cell 2
      have a3 := q2.cell 3
      have f3 := q2.frozen 3
      have c3 := q3.cell 3
      have a4 := q2.cell 4
      have f4 := q2.frozen 4
      have c4 := q3.cell 4
      have a5 := q2.cell 5
      have f5 := q2.frozen 5
      have c5 := q3.cell 5
      have a6 := q2.cell 6
      have f6 := q2.frozen 6
      have c6 := q3.cell 6
      have a7 := q2.cell 7
      have f7 := q2.frozen 7
      have c7 := q3.cell 7
      have g0 := q3.frozen 0
      have g1 := q3.frozen 1
      have g2 := q3.frozen 2
      have g3 := q3.frozen 3
      have b4 := q0.cell 4
      have b5 := q0.cell 5
      simp only [ar8, List.getElem?_toArray, List.getElem?_cons_succ, List.getElem?_cons_zero, Nat.reduceLT, if_true] at a0 a1 a2 a3 a4 a5 a6 a7 c0 c1 c2 c3 c4 c5 c6 c7 b4 b5
      replace q0 := Lib.hid q0
      replace q1 := Lib.hid q1
      replace q2 := Lib.hid q2
      replace q3 := Lib.hid q3
      replace hb := Lib.hid hb
      generalize L 4 = L4 at HZ ⊢
      go_wp2_with fail
      have hB : Mem.Blk _ (w.heap.size + 1 + 1) 76 #[.int .i64 L4, .int .i64 o, .int .i64 o, .int .i64 r, .int .i64 (MM 0), .int .i64 (MM 1), .int .i64 (MM 2), .int .i64 (MM 3)] := ((((((((((((q2.out.far (p := ⟨w.heap.size + 1 + 1 + 1, 0, none⟩) (by show w.heap.size + 2 ≠ w.heap.size + 1 + 1 + 1; omega) (.int .i64 L4)).far (p := ⟨w.heap.size + 1 + 1 + 1, 1, none⟩) (by show w.heap.size + 2 ≠ w.heap.size + 1 + 1 + 1; omega) (.int .i64 o)).far (p := ⟨w.heap.size + 1 + 1 + 1, 2, none⟩) (by show w.heap.size + 2 ≠ w.heap.size + 1 + 1 + 1; omega) (.int .i64 o)).far (p := ⟨w.heap.size + 1 + 1 + 1, 3, none⟩) (by show w.heap.size + 2 ≠ w.heap.size + 1 + 1 + 1; omega) (.int .i64 r)).put 0 (.int .i64 L4)).put 1 (.int .i64 o)).put 2 (.int .i64 o)).put 3 (.int .i64 r)).put 4 (.int .i64 (MM 0))).put 5 (.int .i64 (MM 1))).put 6 (.int .i64 (MM 2))).put 7 (.int .i64 (MM 3)))
      have hD := ((((((((((((hb.out.setCell (p := ⟨w.heap.size + 1 + 1 + 1, 0, none⟩) (by show w.heap.size ≤ w.heap.size + 1 + 1 + 1; omega) (.int .i64 L4)).setCell (p := ⟨w.heap.size + 1 + 1 + 1, 1, none⟩) (by show w.heap.size ≤ w.heap.size + 1 + 1 + 1; omega) (.int .i64 o)).setCell (p := ⟨w.heap.size + 1 + 1 + 1, 2, none⟩) (by show w.heap.size ≤ w.heap.size + 1 + 1 + 1; omega) (.int .i64 o)).setCell (p := ⟨w.heap.size + 1 + 1 + 1, 3, none⟩) (by show w.heap.size ≤ w.heap.size + 1 + 1 + 1; omega) (.int .i64 r)).setCell (p := ⟨w.heap.size + 1 + 1, 0, none⟩) (by show w.heap.size ≤ w.heap.size + 1 + 1; omega) (.int .i64 L4)).setCell (p := ⟨w.heap.size + 1 + 1, 1, none⟩) (by show w.heap.size ≤ w.heap.size + 1 + 1; omega) (.int .i64 o)).setCell (p := ⟨w.heap.size + 1 + 1, 2, none⟩) (by show w.heap.size ≤ w.heap.size + 1 + 1; omega) (.int .i64 o)).setCell (p := ⟨w.heap.size + 1 + 1, 3, none⟩) (by show w.heap.size ≤ w.heap.size + 1 + 1; omega) (.int .i64 r)).setCell (p := ⟨w.heap.size + 1 + 1, 4, none⟩) (by show w.heap.size ≤ w.heap.size + 1 + 1; omega) (.int .i64 (MM 0))).setCell (p := ⟨w.heap.size + 1 + 1, 5, none⟩) (by show w.heap.size ≤ w.heap.size + 1 + 1; omega) (.int .i64 (MM 1))).setCell (p := ⟨w.heap.size + 1 + 1, 6, none⟩) (by show w.heap.size ≤ w.heap.size + 1 + 1; omega) (.int .i64 (MM 2))).setCell (p := ⟨w.heap.size + 1 + 1, 7, none⟩) (by show w.heap.size ≤ w.heap.size + 1 + 1; omega) (.int .i64 (MM 3)))
      exact bodyPost_ret (results_cell_row Try.results45 _ _ (w.heap.size + 1 + 1) 76 _ (0, 0) _ rfl hB Try.underlying76 rfl i76) rfl ⟨by rw [← HZ.out]; rfl, hD⟩
end Go.Proofs.Ytcggghiionlngaa.AreZ1
