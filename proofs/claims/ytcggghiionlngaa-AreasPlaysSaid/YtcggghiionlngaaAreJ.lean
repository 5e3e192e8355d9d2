/- Contracts of geom: whether areas fit, to the letter. -/
import Derived.Test.YtcggghiionlngaaAreI
namespace Go.Proofs.Ytcggghiionlngaa.AreJ
open Go.ChangeShapes Go.WideShapes Go.ChangeAt Go.RowKit
open Mem GeoM GeoC GeoD GeoE GeoF GeoG AreA AreB AreC AreD AreE AreF AreG AreH AreI
set_option linter.unusedVariables false
set_option maxHeartbeats 2000000

/-- Is an area one of those that are enhanced? -/
def tb (e : Int) (k : Nat) : Bool := bits .and .u8 (e / 2 ^ k) 1 == 1
/-- How many sectors of the first areas are enhanced. -/
def enN (c : Cfg) (a : Stt) (e : Int) : Nat → Int
  | 0 => 0
  | k + 1 => enN c a e k + if tb e k = true then (sz c a).getD k 0 else 0
theorem enN_succ (c : Cfg) (a : Stt) (e : Int) (k : Nat) : enN c a e (k + 1) = enN c a e k + if tb e k = true then (sz c a).getD k 0 else 0 := rfl
theorem enN_bd {c : Cfg} {a : Stt} {e : Int} (h : Gd c a) : ∀ k : Nat, -10000000 * (k : Int) ≤ enN c a e k ∧ enN c a e k ≤ 10000000 * (k : Int)
  | 0 => ⟨by simp [enN], by simp [enN]⟩
  | k + 1 => by
    have := enN_bd (e := e) h k
    have := h.bd k
    rw [enN_succ]
    split <;> omega
/-- May areas of these sizes, these enhanced ones, be? -/
def fitsV (c : Cfg) (z0 z1 z2 z3 e : Int) : Bool :=
  check c && (bits BinOp.andNot IntKind.u8 e 241 == 0) && decide (0 ≤ z0 ∧ 0 ≤ z1 ∧ 0 ≤ z2 ∧ 0 ≤ z3) && decide (z0 + z1 + z2 + z3 < groups c) && decide (need c (enN c ⟨z0, z1, z2, z3, 0, false⟩ e 8) ≤ c.blocks)
theorem fitsV_eq (c : Cfg) (z0 z1 z2 z3 e : Int) (hk : check c = true) (hz : 0 ≤ z0 ∧ 0 ≤ z1 ∧ 0 ≤ z2 ∧ 0 ≤ z3) (he : (bits BinOp.andNot IntKind.u8 e 241 != 0) = false) :
    fitsV c z0 z1 z2 z3 e = (decide (z0 + z1 + z2 + z3 < groups c) && decide (need c (enN c ⟨z0, z1, z2, z3, 0, false⟩ e 8) ≤ c.blocks)) := by
  have he' : (bits BinOp.andNot IntKind.u8 e 241 == 0) = true := by simpa using he
  unfold fitsV
  rw [hk, he', decide_eq_true hz]
  simp
theorem idx8 (c : Cfg) (a : Stt) (kk : Nat) (h : kk < 8) (w : World) : (Instr.index 76 (.agg (szV c a)) (.int .i64 (kk : Int))).run Try.prog w = .ok (.int .i64 ((sz c a).getD kk 0)) w := by
  obtain rfl | rfl | rfl | rfl | rfl | rfl | rfl | rfl : kk = 0 ∨ kk = 1 ∨ kk = 2 ∨ kk = 3 ∨ kk = 4 ∨ kk = 5 ∨ kk = 6 ∨ kk = 7 := by omega
  all_goals kernel_rfl

set_option maxRecDepth 100000 in
theorem fitsX (b p s u o r g k x z0 z1 z2 z3 e : Int) (hk : check ⟨b, p, s, u, o, r, g, k, x⟩ = true) (he : (bits BinOp.andNot IntKind.u8 e 241 != 0) = false) (hn : 0 ≤ z0 ∧ z0 ≤ groups ⟨b, p, s, u, o, r, g, k, x⟩ ∧ 0 ≤ z1 ∧ z1 ≤ groups ⟨b, p, s, u, o, r, g, k, x⟩ ∧ 0 ≤ z2 ∧ z2 ≤ groups ⟨b, p, s, u, o, r, g, k, x⟩ ∧ 0 ≤ z3 ∧ z3 ≤ groups ⟨b, p, s, u, o, r, g, k, x⟩) (w : World) : Calls Try.prog 43 #[.agg #[.int .i64 b, .int .i64 p, .int .i64 s, .int .i64 u, .int .i64 o, .int .i64 r, .int .i64 g, .int .i64 k, .int .i64 x], .agg #[.int .i64 z0, .int .i64 z1, .int .i64 z2, .int .i64 z3], .int .u8 e] w fun e' w' => e' = .returned (.bool (fitsV ⟨b, p, s, u, o, r, g, k, x⟩ z0 z1 z2 z3 e)) ∧ Below w.heap.size w w' := by
  obtain ⟨w0, hw0⟩ : ∃ w0, w0 = w.alloc (.cells #[.int .i64 b, .int .i64 p, .int .i64 s, .int .i64 u, .int .i64 o, .int .i64 r, .int .i64 g, .int .i64 k, .int .i64 x] 23) := ⟨_, rfl⟩
  obtain ⟨wz, hwz⟩ : ∃ wz, wz = w0.alloc (.cells #[.int .i64 z0, .int .i64 z1, .int .i64 z2, .int .i64 z3] 24) := ⟨_, rfl⟩
  have s0 : w0.heap.size = w.heap.size + 1 := by rw [hw0]; simp
  have szz : wz.heap.size = w.heap.size + 2 := by rw [hwz]; simp [s0]
  have c1' : Mem.Blk w0 w.heap.size 23 #[.int .i64 b, .int .i64 p, .int .i64 s, .int .i64 u, .int .i64 o, .int .i64 r, .int .i64 g, .int .i64 k, .int .i64 x] := by rw [hw0]; exact Mem.Blk.new w 23 _
  have cz : Mem.Blk wz w.heap.size 23 #[.int .i64 b, .int .i64 p, .int .i64 s, .int .i64 u, .int .i64 o, .int .i64 r, .int .i64 g, .int .i64 k, .int .i64 x] := by rw [hwz]; exact c1'.alloc _
  have ez : Mem.Blk wz (w.heap.size + 1) 24 #[.int .i64 z0, .int .i64 z1, .int .i64 z2, .int .i64 z3] := by rw [hwz, ← s0]; exact Mem.Blk.new w0 24 _
  have Dz : Below w.heap.size w wz := by rw [hwz, hw0]; exact ((Below.refl _ _).alloc (Nat.le_refl _) _).alloc (by simp) _
  have HC := fun w => checkW ⟨b, p, s, u, o, r, g, k, x⟩ w
  unfold cv at HC
  unfold cc at HC
  rw [show errOf ⟨b, p, s, u, o, r, g, k, x⟩ = 0 by unfold errOf; rw [if_pos hk]] at HC
  replace HC := Lib.hid HC
  replace cz := Lib.hid cz
  replace ez := Lib.hid ez
  replace Dz := Lib.hid Dz
  clear c1'
  have hp := Lib.hid (check_plain hk).1
  have hgrl := (check_plain hk).2.2.1
  have hck := Lib.hid hk
  have H63 := fun w => groupsW ⟨b, p, s, u, o, r, g, k, x⟩ hp.out.2.2.2.2.2.2.2.2.2.2.2.2.2.2.1 hp.out.2.2.2.2.2.2.2.2.1 hp.out.2.2.2.2.2.2.2.2.2.1 w
  unfold cv at H63
  unfold cc at H63
  have hgr0 : 0 ≤ groups ⟨b, p, s, u, o, r, g, k, x⟩ := by
    unfold groups
    exact Int.ediv_nonneg (by have := hp.out.2.2.2.2.2.2.2.2.1; simp only at this; simp only; omega) (by have := hp.out.2.2.2.2.2.2.2.2.2.2.2.2.2.2.1; simp only at this; simp only; omega)
  generalize hgr : groups ⟨b, p, s, u, o, r, g, k, x⟩ = gr at H63 hgr0 hgrl hn ⊢
  replace hgr := Lib.hid hgr
  replace H63 := Lib.hid H63
  have Q0 := @within_bd z0 0 gr hgr0
  have Q1 := @within_bd z1 0 gr hgr0
  have Q2 := @within_bd z2 0 gr hgr0
  have Q3 := @within_bd z3 0 gr hgr0
  have W0 := fun w => withinW z0 0 gr hgr0 w
  have W1 := fun w => withinW z1 0 gr hgr0 w
  have W2 := fun w => withinW z2 0 gr hgr0 w
  have W3 := fun w => withinW z3 0 gr hgr0 w
  have e0 : within z0 0 gr = z0 := (within_eq hgr0).2 (by omega)
  have e1 : within z1 0 gr = z1 := (within_eq hgr0).2 (by omega)
  have e2 : within z2 0 gr = z2 := (within_eq hgr0).2 (by omega)
  have e3 : within z3 0 gr = z3 := (within_eq hgr0).2 (by omega)
  have hall := Lib.hid (show 0 ≤ z0 ∧ 0 ≤ z1 ∧ 0 ≤ z2 ∧ 0 ≤ z3 by omega)
  have hpp := hp.out
  unfold Plain at hpp
  simp only at hpp
  have H18 := Lib.hid (fun w => GeoF.sizesW b p s u o r g k x z0 z1 z2 z3 ⟨by omega, by omega⟩ ⟨by omega, by omega⟩ ⟨⟨by omega, by omega⟩, ⟨by omega, by omega⟩, ⟨by omega, by omega⟩, ⟨by omega, by omega⟩⟩ w)
  have hGd : Gd ⟨b, p, s, u, o, r, g, k, x⟩ ⟨z0, z1, z2, z3, 0, false⟩ := ⟨⟨by simp only; omega, by simp only; omega⟩, ⟨by simp only; omega, by simp only; omega⟩, ⟨⟨by simp only; omega, by simp only; omega⟩, ⟨by simp only; omega, by simp only; omega⟩, ⟨by simp only; omega, by simp only; omega⟩, ⟨by simp only; omega, by simp only; omega⟩⟩, ⟨by simp only; omega, by simp only; omega⟩, ⟨by simp only; omega, by simp only; omega⟩⟩
  have HX := Lib.hid (idx8 ⟨b, p, s, u, o, r, g, k, x⟩ ⟨z0, z1, z2, z3, 0, false⟩)
  unfold szV at HX
  have HV := Lib.hid (fitsV_eq ⟨b, p, s, u, o, r, g, k, x⟩ z0 z1 z2 z3 e hk ⟨by omega, by omega, by omega, by omega⟩ he)
  generalize fitsV ⟨b, p, s, u, o, r, g, k, x⟩ z0 z1 z2 z3 e = FV at HV ⊢
  have hEB := Lib.hid (fun kk => enN_bd (e := e) hGd kk)
  have hES := Lib.hid (fun kk => enN_succ ⟨b, p, s, u, o, r, g, k, x⟩ ⟨z0, z1, z2, z3, 0, false⟩ e kk)
  have hSB := Lib.hid (fun kk => hGd.bd kk)
  clear hGd
  clear hpp hn
  generalize within z0 0 gr = c0 at *
  generalize within z1 0 gr = c1 at *
  generalize within z2 0 gr = c2 at *
  generalize within z3 0 gr = c3 at *
  replace W0 := Lib.hid W0
  replace W1 := Lib.hid W1
  replace W2 := Lib.hid W2
  replace W3 := Lib.hid W3
  have hneq : c0 = z0 ∧ c1 = z1 ∧ c2 = z2 ∧ c3 = z3 := ⟨e0, e1, e2, e3⟩
  have hN := neq34 c0 c1 c2 c3 z0 z1 z2 z3
  rw [decide_eq_false (by simpa using hneq)] at hN
  have heq := Lib.hid hneq
  clear hneq e0 e1 e2 e3
  replace hk := Lib.hid hk
  go_enter Try.func43, Try.ntmps43
  obtain ⟨j0, j1, j2, j3, j4, j5, j6, j7, j8⟩ := nine cz.out
  go_wp2_with fail
  rw [← hw0, ← hwz]
  replace hw0 := Lib.hid hw0
  replace hwz := Lib.hid hwz
  go_wp2_with fail
  refine (HC.out _).mono ?_
  rintro e' w1 ⟨rfl, b1⟩
  have hm1 := Mem.Blk.below cz.out b1 cz.out.lt
  have hm2 := Mem.Blk.below ez.out b1 ez.out.lt
  have d1 := Lib.hid (Dz.out.trans (b1.mono Dz.out.size))
  have hs1 : w.heap.size + 2 ≤ w1.heap.size := by have := b1.size; omega
  have hz1 : ∀ wr, Below w1.heap.size w1 wr → Mem.Blk wr w.heap.size 23 #[.int .i64 b, .int .i64 p, .int .i64 s, .int .i64 u, .int .i64 o, .int .i64 r, .int .i64 g, .int .i64 k, .int .i64 x] := fun wr h => Mem.Blk.below hm1 h hm1.lt
  have hz2 : ∀ wr, Below w1.heap.size w1 wr → Mem.Blk wr (w.heap.size + 1) 24 #[.int .i64 z0, .int .i64 z1, .int .i64 z2, .int .i64 z3] := fun wr h => Mem.Blk.below hm2 h hm2.lt
  clear j0 j1 j2 j3 j4 j5 j6 j7 j8 b1
  have q0 := hm2.cell 0
  have q1 := hm2.cell 1
  have q2 := hm2.cell 2
  have q3 := hm2.cell 3
  have hm2' := hz2 _ ((Below.refl _ _).alloc (Nat.le_refl _) (.cells #[.int .i64 z0, .int .i64 z1, .int .i64 z2, .int .i64 z3] 24))
  have q0' := hm2'.cell 0
  have q1' := hm2'.cell 1
  have q2' := hm2'.cell 2
  have q3' := hm2'.cell 3
  simp only [List.getElem?_toArray, List.getElem?_cons_succ, List.getElem?_cons_zero] at q0 q1 q2 q3 q0' q1' q2' q3'
  go_wp2_with fail
  clear q0 q1 q2 q3 q0' q1' q2' q3' hm2'
  go_loopw [8, 9, 10, 24] (fun sm _ _ i wr => (i = .int .i64 0 ∧ sm = .int .i64 (0 : Int) ∧ Mem.Blk wr w1.heap.size 24 #[.int .i64 z0, .int .i64 z1, .int .i64 z2, .int .i64 z3] ∧ Below w1.heap.size w1 wr) ∨ (i = .int .i64 1 ∧ sm = .int .i64 (c0 : Int) ∧ Mem.Blk wr w1.heap.size 24 #[.int .i64 c0, .int .i64 z1, .int .i64 z2, .int .i64 z3] ∧ Below w1.heap.size w1 wr) ∨ (i = .int .i64 2 ∧ sm = .int .i64 (c0 + c1 : Int) ∧ Mem.Blk wr w1.heap.size 24 #[.int .i64 c0, .int .i64 c1, .int .i64 z2, .int .i64 z3] ∧ Below w1.heap.size w1 wr) ∨ (i = .int .i64 3 ∧ sm = .int .i64 (c0 + c1 + c2 : Int) ∧ Mem.Blk wr w1.heap.size 24 #[.int .i64 c0, .int .i64 c1, .int .i64 c2, .int .i64 z3] ∧ Below w1.heap.size w1 wr) ∨ (i = .int .i64 4 ∧ sm = .int .i64 (c0 + c1 + c2 + c3 : Int) ∧ Mem.Blk wr w1.heap.size 24 #[.int .i64 c0, .int .i64 c1, .int .i64 c2, .int .i64 c3] ∧ Below w1.heap.size w1 wr)) (fun _ _ _ i _ => (4 - intOf i).toNat)
  case atStart => exact .inl ⟨rfl, rfl, Mem.Blk.new w1 24 _, (Below.refl _ _).alloc (Nat.le_refl _) _⟩
  case round =>
    rcases hrel with ⟨rfl, rfl, hB, hb⟩ | ⟨rfl, rfl, hB, hb⟩ | ⟨rfl, rfl, hB, hb⟩ | ⟨rfl, rfl, hB, hb⟩ | ⟨rfl, rfl, hB, hb⟩
    · have n1 := hz1 _ hb
      obtain ⟨k0, k1, k2, k3, k4, k5, k6, k7, k8⟩ := nine n1
      have ix := ix0 z0 z1 z2 z3
      replace hB := Lib.hid hB
      go_wp2_with fail
      refine (H63.out _).mono ?_
      rintro e' w2 ⟨rfl, b2⟩
      have hB2 := Mem.Blk.below hB.out b2 (by have := hB.out.lt; exact this)
      have d2 := hb.trans (b2.mono hb.size)
      clear b2 k0 k1 k2 k3 k4 k5 k6 k7 k8 n1
      have h4 := hB2.cell 0
      have f4 := hB2.frozen 0
      simp only [List.getElem?_toArray, List.getElem?_cons_succ, List.getElem?_cons_zero] at h4
      have hput : Hid (Mem.Blk (w2.setCell ⟨w1.heap.size, 0, none⟩ (.int .i64 c0)) w1.heap.size 24 #[.int .i64 c0, .int .i64 z1, .int .i64 z2, .int .i64 z3]) := Lib.hid (hB2.put 0 (.int .i64 c0))
      have hbel : Hid (Below w1.heap.size w1 (w2.setCell ⟨w1.heap.size, 0, none⟩ (.int .i64 c0))) := Lib.hid (d2.setCell (p := ⟨w1.heap.size, 0, none⟩) (Nat.le_refl _) _)
      clear hB2 d2
      go_wp2_with (go_at_call 53; refine (W0.out _).mono ?_; rintro e' w3 ⟨rfl, hww⟩; obtain rfl := hww.symm)
      go_roundw
      case rel => exact .inr (.inl ⟨rfl, rfl, hput.out, hbel.out⟩)
      case measure => simp [intOf]
    · have n1 := hz1 _ hb
      obtain ⟨k0, k1, k2, k3, k4, k5, k6, k7, k8⟩ := nine n1
      have ix := ix1 z0 z1 z2 z3
      replace hB := Lib.hid hB
      go_wp2_with fail
      refine (H63.out _).mono ?_
      rintro e' w2 ⟨rfl, b2⟩
      have hB2 := Mem.Blk.below hB.out b2 (by have := hB.out.lt; exact this)
      have d2 := hb.trans (b2.mono hb.size)
      clear b2 k0 k1 k2 k3 k4 k5 k6 k7 k8 n1
      have h4 := hB2.cell 1
      have f4 := hB2.frozen 1
      simp only [List.getElem?_toArray, List.getElem?_cons_succ, List.getElem?_cons_zero] at h4
      have hput : Hid (Mem.Blk (w2.setCell ⟨w1.heap.size, 1, none⟩ (.int .i64 c1)) w1.heap.size 24 #[.int .i64 c0, .int .i64 c1, .int .i64 z2, .int .i64 z3]) := Lib.hid (hB2.put 1 (.int .i64 c1))
      have hbel : Hid (Below w1.heap.size w1 (w2.setCell ⟨w1.heap.size, 1, none⟩ (.int .i64 c1))) := Lib.hid (d2.setCell (p := ⟨w1.heap.size, 1, none⟩) (Nat.le_refl _) _)
      clear hB2 d2
      go_wp2_with (go_at_call 53; refine (W1.out _).mono ?_; rintro e' w3 ⟨rfl, hww⟩; obtain rfl := hww.symm)
      go_roundw
      case rel => exact .inr (.inr (.inl ⟨rfl, rfl, hput.out, hbel.out⟩))
      case measure => simp [intOf]
    · have n1 := hz1 _ hb
      obtain ⟨k0, k1, k2, k3, k4, k5, k6, k7, k8⟩ := nine n1
      have ix := ix2 z0 z1 z2 z3
      replace hB := Lib.hid hB
      go_wp2_with fail
      refine (H63.out _).mono ?_
      rintro e' w2 ⟨rfl, b2⟩
      have hB2 := Mem.Blk.below hB.out b2 (by have := hB.out.lt; exact this)
      have d2 := hb.trans (b2.mono hb.size)
      clear b2 k0 k1 k2 k3 k4 k5 k6 k7 k8 n1
      have h4 := hB2.cell 2
      have f4 := hB2.frozen 2
      simp only [List.getElem?_toArray, List.getElem?_cons_succ, List.getElem?_cons_zero] at h4
      have hput : Hid (Mem.Blk (w2.setCell ⟨w1.heap.size, 2, none⟩ (.int .i64 c2)) w1.heap.size 24 #[.int .i64 c0, .int .i64 c1, .int .i64 c2, .int .i64 z3]) := Lib.hid (hB2.put 2 (.int .i64 c2))
      have hbel : Hid (Below w1.heap.size w1 (w2.setCell ⟨w1.heap.size, 2, none⟩ (.int .i64 c2))) := Lib.hid (d2.setCell (p := ⟨w1.heap.size, 2, none⟩) (Nat.le_refl _) _)
      clear hB2 d2
      go_wp2_with (go_at_call 53; refine (W2.out _).mono ?_; rintro e' w3 ⟨rfl, hww⟩; obtain rfl := hww.symm)
      go_roundw
      case rel => exact .inr (.inr (.inr (.inl ⟨rfl, rfl, hput.out, hbel.out⟩)))
      case measure => simp [intOf]
    · have n1 := hz1 _ hb
      obtain ⟨k0, k1, k2, k3, k4, k5, k6, k7, k8⟩ := nine n1
      have ix := ix3 z0 z1 z2 z3
      replace hB := Lib.hid hB
      go_wp2_with fail
      refine (H63.out _).mono ?_
      rintro e' w2 ⟨rfl, b2⟩
      have hB2 := Mem.Blk.below hB.out b2 (by have := hB.out.lt; exact this)
      have d2 := hb.trans (b2.mono hb.size)
      clear b2 k0 k1 k2 k3 k4 k5 k6 k7 k8 n1
      have h4 := hB2.cell 3
      have f4 := hB2.frozen 3
      simp only [List.getElem?_toArray, List.getElem?_cons_succ, List.getElem?_cons_zero] at h4
      have hput : Hid (Mem.Blk (w2.setCell ⟨w1.heap.size, 3, none⟩ (.int .i64 c3)) w1.heap.size 24 #[.int .i64 c0, .int .i64 c1, .int .i64 c2, .int .i64 c3]) := Lib.hid (hB2.put 3 (.int .i64 c3))
      have hbel : Hid (Below w1.heap.size w1 (w2.setCell ⟨w1.heap.size, 3, none⟩ (.int .i64 c3))) := Lib.hid (d2.setCell (p := ⟨w1.heap.size, 3, none⟩) (Nat.le_refl _) _)
      clear hB2 d2
      go_wp2_with (go_at_call 53; refine (W3.out _).mono ?_; rintro e' w3 ⟨rfl, hww⟩; obtain rfl := hww.symm)
      go_roundw
      case rel => exact .inr (.inr (.inr (.inr (⟨rfl, rfl, hput.out, hbel.out⟩))))
      case measure => simp [intOf]
    · have n1 := hz1 _ hb
      obtain ⟨k0, k1, k2, k3, k4, k5, k6, k7, k8⟩ := nine n1
      have q0 := (hz2 _ hb).cell 0
      have q1 := (hz2 _ hb).cell 1
      have q2 := (hz2 _ hb).cell 2
      have q3 := (hz2 _ hb).cell 3
      have p0 := hB.cell 0
      have p1 := hB.cell 1
      have p2 := hB.cell 2
      have p3 := hB.cell 3
      simp only [List.getElem?_toArray, List.getElem?_cons_succ, List.getElem?_cons_zero] at q0 q1 q2 q3 p0 p1 p2 p3
      replace hB := Lib.hid hB
      have HD := Lib.hid (d1.out.trans (hb.mono d1.out.size))
      have n1' := Lib.hid n1
      have n2' := Lib.hid (hz2 _ hb)
      go_wp2_with fail
      refine (H63.out _).mono ?_
      rintro e' w2 ⟨rfl, b2⟩
      have d2 := HD.out.trans (b2.mono HD.out.size)
      have hm1 := Mem.Blk.below n1'.out b2 n1'.out.lt
      have hm2 := Mem.Blk.below n2'.out b2 n2'.out.lt
      clear k0 k1 k2 k3 k4 k5 k6 k7 k8 q0 q1 q2 q3 p0 p1 p2 p3 b2
      by_cases hsum : gr ≤ c0 + c1 + c2 + c3
      · have hsd : decide (gr ≤ c0 + c1 + c2 + c3) = true := by simpa using hsum
        go_wp2
        go_ret
        exact ⟨by rw [HV.out, hgr.out, ← heq.out.1, ← heq.out.2.1, ← heq.out.2.2.1, ← heq.out.2.2.2]; simp; intro hh; omega, d2⟩
      · have hsd : decide (gr ≤ c0 + c1 + c2 + c3) = false := by simp; omega
        obtain ⟨k0, k1, k2, k3, k4, k5, k6, k7, k8⟩ := nine hm1
        have q0 := hm2.cell 0
        have q1 := hm2.cell 1
        have q2 := hm2.cell 2
        have q3 := hm2.cell 3
        simp only [List.getElem?_toArray, List.getElem?_cons_succ, List.getElem?_cons_zero] at q0 q1 q2 q3
        replace hm1 := Lib.hid hm1
        go_wp2_with fail
        refine (H18.out _).mono ?_
        rintro e' w3 ⟨rfl, b3⟩
        have d3 := d2.trans (b3.mono d2.size)
        have hm3 := Lib.hid (Mem.Blk.below hm1.out b3 hm1.out.lt)
        clear k0 k1 k2 k3 k4 k5 k6 k7 k8 q0 q1 q2 q3 b3 hm2
        go_wp2_with fail
        go_loop [11, 12, 13, 52] (fun v _ _ i => ∃ (kk : Nat), kk ≤ 8 ∧ i = .int .i64 (kk : Int) ∧ v = .int .i64 (enN ⟨b, p, s, u, o, r, g, k, x⟩ ⟨z0, z1, z2, z3, 0, false⟩ e kk)) (fun _ _ _ i => 8 - (intOf i).toNat)
        case atStart => exact ⟨0, by omega, rfl, rfl⟩
        case round =>
          obtain ⟨kk, hkk, rfl, rfl⟩ := hrel
          by_cases hlt : kk < 8
          · have hix := HX.out kk hlt
            have hlt' : (kk : Int) < 8 := by omega
            have hs := hSB.out kk
            have hn := hEB.out kk
            have hes := hES.out kk
            obtain ⟨N, hN⟩ : ∃ N, N = enN ⟨b, p, s, u, o, r, g, k, x⟩ ⟨z0, z1, z2, z3, 0, false⟩ e kk := ⟨_, rfl⟩
            obtain ⟨N2, hN2⟩ : ∃ N2, N2 = enN ⟨b, p, s, u, o, r, g, k, x⟩ ⟨z0, z1, z2, z3, 0, false⟩ e (kk + 1) := ⟨_, rfl⟩
            obtain ⟨S, hS⟩ : ∃ S, S = (sz ⟨b, p, s, u, o, r, g, k, x⟩ ⟨z0, z1, z2, z3, 0, false⟩).getD kk 0 := ⟨_, rfl⟩
            rw [← hN] at hn hes ⊢
            rw [← hN2] at hes
            rw [← hS] at hix hs hes
            replace hN := Lib.hid hN
            replace hN2 := Lib.hid hN2
            replace hS := Lib.hid hS
            have hwr : IntKind.i64.wrap (N + S) = N + S := by rw [IntKind.wrap_i64]; omega
            cases htb : tb e kk with
            | true =>
              rw [htb, if_pos rfl] at hes
              unfold tb at htb
              go_wp2_with fail
              go_round
              case rel => exact ⟨kk + 1, by omega, by go_num, by rw [← hes, ← hN2.out]⟩
              case measure => simp [intOf]; omega
            | false =>
              rw [htb, if_neg (by decide), Int.add_zero] at hes
              unfold tb at htb
              go_wp2_with fail
              go_round
              case rel => exact ⟨kk + 1, by omega, by go_num, by rw [← hes, ← hN2.out]⟩
              case measure => simp [intOf]; omega
          · have hlt' : ¬ (kk : Int) < 8 := by omega
            obtain rfl : kk = 8 := by omega
            have HN := Lib.hid (fun w => needW ⟨b, p, s, u, o, r, g, k, x⟩ hp.out (enN ⟨b, p, s, u, o, r, g, k, x⟩ ⟨z0, z1, z2, z3, 0, false⟩ e 8) w)
            unfold cv at HN
            unfold cc at HN
            generalize enN ⟨b, p, s, u, o, r, g, k, x⟩ ⟨z0, z1, z2, z3, 0, false⟩ e 8 = y at HN HV ⊢
            generalize need ⟨b, p, s, u, o, r, g, k, x⟩ y = N at HN HV
            have D3 : Hid (Below w3.heap.size w3 w3.drew) := Lib.hid (Below.refl _ _).drew
            go_wp2_with fail
            refine wp_region_held_drew (S := fun w' => w'.cell? ⟨w.heap.size, 0, none⟩ = some (.int .i64 b) ∧ w'.cell? ⟨w.heap.size, 1, none⟩ = some (.int .i64 p) ∧ w'.cell? ⟨w.heap.size, 2, none⟩ = some (.int .i64 s) ∧ w'.cell? ⟨w.heap.size, 3, none⟩ = some (.int .i64 u) ∧ w'.cell? ⟨w.heap.size, 4, none⟩ = some (.int .i64 o) ∧ w'.cell? ⟨w.heap.size, 5, none⟩ = some (.int .i64 r) ∧ w'.cell? ⟨w.heap.size, 6, none⟩ = some (.int .i64 g) ∧ w'.cell? ⟨w.heap.size, 7, none⟩ = some (.int .i64 k) ∧ w'.cell? ⟨w.heap.size, 8, none⟩ = some (.int .i64 x)) (by kernel_rfl) (nine (Mem.Blk.below hm3.out D3.out hm3.out.lt)) (fun hS => ?_)
            refine wpAnyH_take (i := 0) (v := ?_) (by simp only [List.getElem?_toArray, List.getElem?_cons_succ, List.getElem?_cons_zero]; rfl) (by kernel_rfl) (by kernel_rfl) (by kernel_rfl) (by exact fun _ _ _ h => h) (Or.inl ⟨by rfl, ?_⟩) hS ?_
            rotate_left
            · intro w hSw
              go_simp
              try with_reducible rfl
            try simp only [Act.put, List.setIfInBounds_toArray, List.set_cons_zero, List.set_cons_succ]
            refine wpAnyH_take (i := 1) (v := ?_) (by simp only [List.getElem?_toArray, List.getElem?_cons_succ, List.getElem?_cons_zero]; rfl) (by kernel_rfl) (by kernel_rfl) (by kernel_rfl) (by exact fun _ _ _ h => h) (Or.inl ⟨by rfl, ?_⟩) hS ?_
            rotate_left
            · intro w hSw
              go_simp
              try with_reducible rfl
            try simp only [Act.put, List.setIfInBounds_toArray, List.set_cons_zero, List.set_cons_succ]
            refine wpAnyH_take (i := 3) (v := ?_) (by simp only [List.getElem?_toArray, List.getElem?_cons_succ, List.getElem?_cons_zero]; rfl) (by kernel_rfl) (by kernel_rfl) (by kernel_rfl) (by exact fun _ _ _ h => h) (Or.inl ⟨by rfl, ?_⟩) hS ?_
            rotate_left
            · intro w hSw
              go_simp
              try with_reducible rfl
            try simp only [Act.put, List.setIfInBounds_toArray, List.set_cons_zero, List.set_cons_succ]
            refine wpAnyH_take (i := 4) (v := ?_) (by simp only [List.getElem?_toArray, List.getElem?_cons_succ, List.getElem?_cons_zero]; rfl) (by kernel_rfl) (by kernel_rfl) (by kernel_rfl) (by exact fun _ _ _ h => h) (Or.inl ⟨by rfl, ?_⟩) hS ?_
            rotate_left
            · intro w hSw
              go_simp
              try with_reducible rfl
            try simp only [Act.put, List.setIfInBounds_toArray, List.set_cons_zero, List.set_cons_succ]
            refine wpAnyH_ready (rs := [2]) (by kernel_rfl) (by simp) ?_
            refine AllReadyH.cons (by simp only [List.getElem?_toArray, List.getElem?_cons_succ, List.getElem?_cons_zero]; rfl) (fun K hK => ?_) AllReadyH.nil
            go_simp
            go_at_call 42
            refine (HN.out _).mono ?_
            rintro e' w4 ⟨rfl, b4⟩
            refine hK.out _ _ (nine (Mem.Blk.below hm3.out (D3.out.trans (b4.mono D3.out.size)) hm3.out.lt)) (fun hS => ?_)
            clear hK K
            try simp only [Act.put, List.setIfInBounds_toArray, List.set_cons_zero, List.set_cons_succ]
            refine wpAnyH_take (i := 5) (v := ?_) (by simp only [List.getElem?_toArray, List.getElem?_cons_succ, List.getElem?_cons_zero]; rfl) (by kernel_rfl) (by kernel_rfl) (by kernel_rfl) (by exact fun _ _ _ h => h) (Or.inl ⟨by rfl, ?_⟩) hS ?_
            rotate_left
            · intro w hSw
              go_simp
              try with_reducible rfl
            try simp only [Act.put, List.setIfInBounds_toArray, List.set_cons_zero, List.set_cons_succ]
            refine wpAnyH_take (i := 6) (v := ?_) (by simp only [List.getElem?_toArray, List.getElem?_cons_succ, List.getElem?_cons_zero]; rfl) (by kernel_rfl) (by kernel_rfl) (by kernel_rfl) (by exact fun _ _ _ h => h) (Or.inl ⟨by rfl, ?_⟩) hS ?_
            rotate_left
            · intro w hSw
              go_simp
              try with_reducible rfl
            try simp only [Act.put, List.setIfInBounds_toArray, List.set_cons_zero, List.set_cons_succ]
            refine wpAnyH_done (by kernel_rfl) ?_ _
            go_wp2
            go_ret
            exact ⟨by rw [HV.out, hgr.out, ← heq.out.1, ← heq.out.2.1, ← heq.out.2.2.1, ← heq.out.2.2.2]; simp; omega, d3.trans ((D3.out.trans (b4.mono D3.out.size)).mono d3.size)⟩

set_option maxRecDepth 100000 in
theorem fitsY (b p s u o r g k x z0 z1 z2 z3 e : Int) (hk : check ⟨b, p, s, u, o, r, g, k, x⟩ = true) (he : (bits BinOp.andNot IntKind.u8 e 241 != 0) = true) (w : World) : Calls Try.prog 43 #[.agg #[.int .i64 b, .int .i64 p, .int .i64 s, .int .i64 u, .int .i64 o, .int .i64 r, .int .i64 g, .int .i64 k, .int .i64 x], .agg #[.int .i64 z0, .int .i64 z1, .int .i64 z2, .int .i64 z3], .int .u8 e] w fun e' w' => e' = .returned (.bool (fitsV ⟨b, p, s, u, o, r, g, k, x⟩ z0 z1 z2 z3 e)) ∧ Below w.heap.size w w' := by
  have HV : fitsV ⟨b, p, s, u, o, r, g, k, x⟩ z0 z1 z2 z3 e = false := by
    have he' : (bits BinOp.andNot IntKind.u8 e 241 == 0) = false := by simpa using he
    unfold fitsV; rw [he']; simp
  rw [HV]
  clear HV
  obtain ⟨w0, hw0⟩ : ∃ w0, w0 = w.alloc (.cells #[.int .i64 b, .int .i64 p, .int .i64 s, .int .i64 u, .int .i64 o, .int .i64 r, .int .i64 g, .int .i64 k, .int .i64 x] 23) := ⟨_, rfl⟩
  obtain ⟨wz, hwz⟩ : ∃ wz, wz = w0.alloc (.cells #[.int .i64 z0, .int .i64 z1, .int .i64 z2, .int .i64 z3] 24) := ⟨_, rfl⟩
  have s0 : w0.heap.size = w.heap.size + 1 := by rw [hw0]; simp
  have sz : wz.heap.size = w.heap.size + 2 := by rw [hwz]; simp [s0]
  have c1' : Mem.Blk w0 w.heap.size 23 #[.int .i64 b, .int .i64 p, .int .i64 s, .int .i64 u, .int .i64 o, .int .i64 r, .int .i64 g, .int .i64 k, .int .i64 x] := by rw [hw0]; exact Mem.Blk.new w 23 _
  have cz : Mem.Blk wz w.heap.size 23 #[.int .i64 b, .int .i64 p, .int .i64 s, .int .i64 u, .int .i64 o, .int .i64 r, .int .i64 g, .int .i64 k, .int .i64 x] := by rw [hwz]; exact c1'.alloc _
  have ez : Mem.Blk wz (w.heap.size + 1) 24 #[.int .i64 z0, .int .i64 z1, .int .i64 z2, .int .i64 z3] := by rw [hwz, ← s0]; exact Mem.Blk.new w0 24 _
  have Dz : Below w.heap.size w wz := by rw [hwz, hw0]; exact ((Below.refl _ _).alloc (Nat.le_refl _) _).alloc (by simp) _
  have HC := fun w => checkW ⟨b, p, s, u, o, r, g, k, x⟩ w
  unfold cv at HC
  unfold cc at HC
  rw [show errOf ⟨b, p, s, u, o, r, g, k, x⟩ = 0 by unfold errOf; rw [if_pos hk]] at HC
  replace HC := Lib.hid HC
  replace cz := Lib.hid cz
  replace ez := Lib.hid ez
  replace Dz := Lib.hid Dz
  clear c1'
  replace hk := Lib.hid hk
  go_enter Try.func43, Try.ntmps43
  obtain ⟨j0, j1, j2, j3, j4, j5, j6, j7, j8⟩ := nine cz.out
  go_wp2_with fail
  rw [← hw0, ← hwz]
  replace hw0 := Lib.hid hw0
  replace hwz := Lib.hid hwz
  go_wp2_with fail
  refine (HC.out _).mono ?_
  rintro e' w1 ⟨rfl, b1⟩
  have hm1 := Mem.Blk.below cz.out b1 cz.out.lt
  have hm2 := Mem.Blk.below ez.out b1 ez.out.lt
  have d1 := Lib.hid (Dz.out.trans (b1.mono Dz.out.size))
  have hs1 : w.heap.size + 2 ≤ w1.heap.size := by have := b1.size; omega
  have hz1 : ∀ wr, Below w1.heap.size w1 wr → Mem.Blk wr w.heap.size 23 #[.int .i64 b, .int .i64 p, .int .i64 s, .int .i64 u, .int .i64 o, .int .i64 r, .int .i64 g, .int .i64 k, .int .i64 x] := fun wr h => Mem.Blk.below hm1 h hm1.lt
  have hz2 : ∀ wr, Below w1.heap.size w1 wr → Mem.Blk wr (w.heap.size + 1) 24 #[.int .i64 z0, .int .i64 z1, .int .i64 z2, .int .i64 z3] := fun wr h => Mem.Blk.below hm2 h hm2.lt
  clear j0 j1 j2 j3 j4 j5 j6 j7 j8 b1
  clear hz1 hz2 hm1 hm2
  go_wp2
  go_ret
  exact ⟨rfl, d1.out⟩


/-- Whether areas fit. -/
theorem fitsW (c : Cfg) (z0 z1 z2 z3 e : Int) (w : World) : Calls Try.prog 43 #[cv c, .agg #[.int .i64 z0, .int .i64 z1, .int .i64 z2, .int .i64 z3], .int .u8 e] w
    fun e' w' => e' = .returned (.bool (fitsV c z0 z1 z2 z3 e)) ∧ Below w.heap.size w w' := by
  obtain ⟨b, p, s, u, o, r, g, k, x⟩ := c
  by_cases hk : check ⟨b, p, s, u, o, r, g, k, x⟩ = true
  · cases he : (bits BinOp.andNot IntKind.u8 e 241 != 0) with
    | true => exact fitsY b p s u o r g k x z0 z1 z2 z3 e hk he w
    | false =>
      by_cases hn : 0 ≤ z0 ∧ z0 ≤ groups ⟨b, p, s, u, o, r, g, k, x⟩ ∧ 0 ≤ z1 ∧ z1 ≤ groups ⟨b, p, s, u, o, r, g, k, x⟩ ∧ 0 ≤ z2 ∧ z2 ≤ groups ⟨b, p, s, u, o, r, g, k, x⟩ ∧ 0 ≤ z3 ∧ z3 ≤ groups ⟨b, p, s, u, o, r, g, k, x⟩
      · exact fitsX b p s u o r g k x z0 z1 z2 z3 e hk he hn w
      · refine (fitsC b p s u o r g k x z0 z1 z2 z3 e hk he hn w).mono ?_
        rintro e' w' ⟨B, rfl, hb, hB⟩
        refine ⟨?_, hb⟩
        cases B with
        | true => exact absurd (hB rfl) (fun h => hn (by omega))
        | false =>
          cases hf : fitsV ⟨b, p, s, u, o, r, g, k, x⟩ z0 z1 z2 z3 e with
          | false => rfl
          | true =>
            unfold fitsV at hf
            simp only [Bool.and_eq_true, decide_eq_true_eq] at hf
            exact absurd hf.1 (fun h => hn (by omega))
  · refine (fitsA b p s u o r g k x z0 z1 z2 z3 e hk w).mono ?_
    rintro e' w' ⟨B, rfl, hb, hB⟩
    refine ⟨?_, hb⟩
    cases B with
    | true => exact absurd (hB rfl).1 hk
    | false => unfold fitsV; rw [Bool.eq_false_iff.2 hk]; rfl
end Go.Proofs.Ytcggghiionlngaa.AreJ
