/- The document's digests: a block is taken in. -/
import Derived.Test.YtlfohiejlajmaaaDoorRfA
import Derived.Deep.CutRange
namespace Go.Proofs.YtlfohiejlajmaaaDoor.RfB
open Go.ChangeShapes Go.WideShapes Go.ChangeAt Go.RowKit
open ShM ShA ShB ShC ShD ShE ShF ShG ShH ShI ShJ ShK ShL ShN RfA Mem
open ShT (Rd vals vals_length vals_one)
set_option linter.unusedVariables false
set_option maxHeartbeats 4000000

def z52 : Array Value := #[.int .u32 0, .int .u32 0, .int .u32 0, .int .u32 0, .int .u32 0, .int .u32 0, .int .u32 0, .int .u32 0]
theorem run_alloc52 (w : World) : (Instr.alloc 52 true (.tuple #[])).run Tryd.prog w = .ok (.pointer (some ⟨w.heap.size, 0, none⟩)) (w.alloc (.cells z52 52)) := by kernel_rfl
theorem alloc52 {ops : Array Oper} {rest : List Oper} {op : Oper} {a : Act} {w : World} {Q : Exit → Act → World → Prop} (ho : op.op = .alloc 52) (hgd : Region.wanted op (yielded ops a.tmps) = true)
    (h : ∀ w', Mem.Blk w' w.heap.size 52 z52 → Below w.heap.size w w' → w'.heap.size = w.heap.size + 1 → wpList Tryd.prog ops Q rest (a.put op.dst (.pointer (some ⟨w.heap.size, 0, none⟩))) w') : wpList Tryd.prog ops Q (op :: rest) a w :=
  BigFrame.wpList_want hgd fun _ hK => by
    unfold Oper.wp execOp
    simp only [ho, Sem.run_bind, Sem.run_pure, run_alloc52, Result.andThen_ok]
    exact hK _ _ (h _ (Mem.Blk.new w 52 _) ((Below.refl _ _).alloc (Nat.le_refl _) _) (by simp))
theorem alloc53' {ops : Array Oper} {rest : List Oper} {op : Oper} {a : Act} {w : World} {Q : Exit → Act → World → Prop} (ho : op.op = .alloc 53) (hgd : Region.wanted op (yielded ops a.tmps) = true)
    (h : ∀ w', Mem.Blk w' w.heap.size 53 (wc []) → Below w.heap.size w w' → w'.heap.size = w.heap.size + 1 → wpList Tryd.prog ops Q rest (a.put op.dst (.pointer (some ⟨w.heap.size, 0, none⟩))) w') : wpList Tryd.prog ops Q (op :: rest) a w :=
  BigFrame.wpList_want hgd fun _ hK => by
    unfold Oper.wp execOp
    simp only [ho, Sem.run_bind, Sem.run_pure, run_alloc53, Result.andThen_ok]
    exact hK _ _ (h _ (by rw [← wc_nil]; exact Mem.Blk.new w 53 _) ((Below.refl _ _).alloc (Nat.le_refl _) _) (by simp))
/-- A block's array is laid into memory. -/
theorem boxA {ops : Array Oper} {rest : List Oper} {op : Oper} {a : Act} {w : World} {Q : Exit → Act → World → Prop} (T : TypeId) (x : Operand) (A : Array Value) (ho : op.op = .box T x) (hx : a.eval x = .agg A) (hrun : (Instr.alloc T false (.agg A)).run Tryd.prog w = .ok (.pointer (some ⟨w.heap.size, 0, none⟩)) (w.alloc (.cells A T))) (hgd : Region.wanted op (yielded ops a.tmps) = true)
    (h : wpList Tryd.prog ops Q rest (a.put op.dst (.pointer (some ⟨w.heap.size, 0, none⟩))) (w.alloc (.cells A T))) : wpList Tryd.prog ops Q (op :: rest) a w :=
  BigFrame.wpList_want hgd fun _ hK => by
    unfold Oper.wp execOp
    simp only [ho, hx]
    exact hK _ _ h

/-- The memory of a block's walk: the words, the rounds' numbers, the result; the words of a round. -/
structure F (w0 wr : World) (s : S8) (RV : Array Value) (L : List W) : Prop where
  h : Mem.Blk wr w0.heap.size 52 (s8c s)
  k : Mem.Blk wr (w0.heap.size + 1) 53 RV
  o : Mem.Blk wr (w0.heap.size + 2) 52 z52
  w : Mem.Blk wr (w0.heap.size + 3) 53 (wc L)
  b : Below w0.heap.size w0 wr
theorem F.drew {w0 wr : World} {s : S8} {RV : Array Value} {L : List W} (f : F w0 wr s RV L) : F w0 wr.drew s RV L := ⟨f.h.drew, f.k.drew, f.o.drew, f.w.drew, f.b.drew⟩
theorem F.drewN {w0 wr : World} {s : S8} {RV : Array Value} {L : List W} (f : F w0 wr s RV L) (n : Nat) : F w0 (wr.drewN n) s RV L := ⟨f.h.drewN n, f.k.drewN n, f.o.drewN n, f.w.drewN n, Mem.below_drewN f.b n⟩
theorem F.put {w0 wr : World} {s : S8} {RV : Array Value} {L : List W} (f : F w0 wr s RV L) (v : W) (h : L.length < 64) : F w0 (wr.setCell ⟨w0.heap.size + 3, L.length, none⟩ (.int .u32 (v.toNat : Int))) s RV (L ++ [v]) :=
  ⟨f.h.far (by show w0.heap.size ≠ w0.heap.size + 3; omega) _, f.k.far (by show w0.heap.size + 1 ≠ w0.heap.size + 3; omega) _, f.o.far (by show w0.heap.size + 2 ≠ w0.heap.size + 3; omega) _, by rw [← wc_snoc L v h]; exact f.w.put _ _, f.b.setCell (p := ⟨w0.heap.size + 3, L.length, none⟩) (by show w0.heap.size ≤ w0.heap.size + 3; omega) _⟩

theorem F.far {w0 wr : World} {s : S8} {RV : Array Value} {L : List W} (f : F w0 wr s RV L) {G : Nat} (hG : w0.heap.size + 4 ≤ G) {w' : World} (hb : Below G wr w') : F w0 w' s RV L :=
  ⟨f.h.below hb (by omega), f.k.below hb (by omega), f.o.below hb (by omega), f.w.below hb (by omega), f.b.trans (hb.mono (by omega))⟩
theorem s8c_one (s : S8) : (s8c s).all (·.oneCell') = true := by
  rw [Array.all_eq_true_iff_forall_mem]
  intro v hv
  unfold s8c at hv
  simp at hv
  rcases hv with rfl | rfl | rfl | rfl | rfl | rfl | rfl | rfl <;> rfl
theorem two32 (T B M Z1 Z : Int) (h1 : IntKind.u32.wrap (T + B) = Z1) (h2 : IntKind.u32.wrap (Z1 + M) = Z) : ∃ Y : Int, IntKind.u32.wrap (B + M) = Y ∧ IntKind.u32.wrap (T + Y) = Z := by
  refine ⟨_, rfl, ?_⟩
  rw [IntKind.wrap_u32] at h1 h2 ⊢
  rw [IntKind.wrap_u32]
  omega

set_option maxRecDepth 100000 in
theorem blockW (s : S8) (l : List ShM.B8) (b off c : Nat) (w : World) (hll : l.length = 64) (hr : Rd w (some ⟨b, off, none⟩) l) (hb : b < w.heap.size) : Calls Tryd.prog 22 #[.agg (s8c s), .agg rndV, .slice (some ⟨b, off, none⟩) 64 c] w fun e w' => e = .returned (.agg (s8c (mix s l))) ∧ Below w.heap.size w w' := by
  have HSRC : Hid (∀ w' i, i < 64 → Below w.heap.size w w' → w'.cell? ⟨b, off + i, none⟩ = some (.int .u8 ((l.getD i 0).toNat : Int))) := Lib.hid fun w' i hi hbb => by
    obtain ⟨b', off', e, hc⟩ := hr.2 i (by omega)
    injection e with e
    injection e with e1 e2
    subst e1 e2
    exact (hbb.cell (p := ⟨b, off + i, none⟩) hb).trans hc
  have hRVa := rnd_at
  have hRVs := rnd_size
  generalize rndV = RV at hRVa hRVs ⊢
  obtain ⟨HV, hHV⟩ : ∃ HV, HV = s8c s := ⟨_, rfl⟩
  rw [← hHV]
  have HF : Hid (∀ k, first l (k + 1) = first l k ++ [word l k]) := Lib.hid fun _ => rfl
  have HFL := Lib.hid (first_len l)
  have HWD : Hid (∀ k, word l k = (((l.getD (4 * k) 0).setWidth 32 <<< 24) ||| ((l.getD (4 * k + 1) 0).setWidth 32 <<< 16) ||| ((l.getD (4 * k + 2) 0).setWidth 32 <<< 8) ||| ((l.getD (4 * k + 3) 0).setWidth 32))) := Lib.hid fun _ => rfl
  have HWA := Lib.hid (fun l i h => wc_at l i h)
  have H0 : Hid (first l 0 = []) := Lib.hid rfl
  have hRV1 := Lib.hid hRVa
  have hRV2 := Lib.hid hRVs
  have x1 : Hid (Mem.Blk ((w.alloc (.cells HV 52)).alloc (.cells RV 53)) w.heap.size 52 HV) := Lib.hid ((Mem.Blk.new w 52 HV).alloc _)
  have x2 : Hid (Mem.Blk ((w.alloc (.cells HV 52)).alloc (.cells RV 53)) (w.heap.size + 1) 53 RV) := Lib.hid (by
    have := Mem.Blk.new (w.alloc (.cells HV 52)) 53 RV
    rwa [show (w.alloc (.cells HV 52)).heap.size = w.heap.size + 1 by simp] at this)
  have xD : Hid (Below w.heap.size w ((w.alloc (.cells HV 52)).alloc (.cells RV 53))) := Lib.hid (((Below.refl _ _).alloc (Nat.le_refl _) _).alloc (by simp) _)
  have xs : Hid (((w.alloc (.cells HV 52)).alloc (.cells RV 53)).heap.size = w.heap.size + 2) := Lib.hid (by simp)
  replace hHV := Lib.hid hHV
  clear hRVa hRVs hr
  go_enter Tryd.func22, Tryd.ntmps22
  go_wp2_with (first
    | ((with_reducible show wpList _ _ _ (Oper.mk (some 6) (Op.alloc 52) _ _ _ _ :: _) _ _); refine RfB.alloc52 rfl rfl ?_; intro w1 hB1 hb1 hn1
       have y1 := Lib.hid (x1.out.below hb1 x1.out.lt)
       have y2 := Lib.hid (x2.out.below hb1 x2.out.lt)
       have y3 : Hid (Mem.Blk w1 (w.heap.size + 2) 52 z52) := Lib.hid (by rw [xs.out] at hB1; exact hB1)
       have yD := Lib.hid (xD.out.trans (hb1.mono xD.out.size))
       have ys : Hid (w1.heap.size = w.heap.size + 3) := Lib.hid (by rw [hn1, xs.out])
       clear hB1 hb1 hn1)
    | ((with_reducible show wpList _ _ _ (Oper.mk (some 7) (Op.alloc 53) _ _ _ _ :: _) _ _); refine RfB.alloc53' rfl rfl ?_; intro w2 hB2 hb2 hn2
       have F0 : Hid (F w w2 s RV (first l 0)) := Lib.hid ⟨by rw [← hHV.out]; exact y1.out.below hb2 y1.out.lt, y2.out.below hb2 y2.out.lt, y3.out.below hb2 y3.out.lt, by rw [H0.out]; rw [ys.out] at hB2; exact hB2, yD.out.trans (hb2.mono yD.out.size)⟩
       clear hB2 hb2 hn2))
  rw [ys.out, show w.heap.size + 1 + 1 = w.heap.size + 2 from rfl]
  clear y1 y2 y3 yD ys x1 x2 xD xs
  go_loopw [8] (fun i wr => ∃ k : Nat, k ≤ 16 ∧ i = .int .i64 (k : Int) ∧ F w wr s RV (first l k)) (fun i _ => 16 - (intOf i).toNat)
  case atStart => exact ⟨0, by omega, rfl, F0.out⟩
  case round =>
    clear F0
    obtain ⟨k, hk, rfl, f⟩ := hrel
    by_cases hlt : k < 16
    · have hlt' : (k : Int) < 16 := by omega
      have hk64 : (k : Int) < 64 := by omega
      go_wp2_with fail
      have hlen := HFL.out k
      have hF := HF.out k
      have hWD := HWD.out k
      obtain ⟨q0', q1', q2', q3', ⟨hq0, hq1, hq2, hq3⟩, m0, m1, m2, m3, l0, l1, l2, l3⟩ := ar k hlt
      have c0 := HSRC.out wr.drew q0' (by omega) f.b.drew
      have c1 := HSRC.out wr.drew q1' (by omega) f.b.drew
      have c2 := HSRC.out wr.drew q2' (by omega) f.b.drew
      have c3 := HSRC.out wr.drew q3' (by omega) f.b.drew
      rw [← hq3, ← hq2, ← hq1, ← hq0] at hWD
      obtain ⟨V, hV⟩ : ∃ V, V = word l k := ⟨_, rfl⟩
      rw [← hV] at hWD hF
      obtain ⟨⟨u0, u1, u2, u3⟩, y0, y1, y2, s1, s2, v0, v1, v2, o1, o2, o3⟩ := wd _ _ _ _ (V.toNat : Int) (by rw [hWD])
      generalize ((l.getD q0' 0).toNat : Int) = x0 at c0 u0 v0
      generalize ((l.getD q1' 0).toNat : Int) = x1 at c1 u1 v1
      generalize ((l.getD q2' 0).toNat : Int) = x2 at c2 u2 v2
      generalize ((l.getD q3' 0).toNat : Int) = x3 at c3 u3 o3
      have had := f.w.drew
      have hold := (had.cell k).trans (HWA.out _ k (by omega))
      have hfr := had.frozen k
      obtain ⟨OV, hOV⟩ : ∃ OV, OV = (((first l k).getD k 0).toNat : Int) := ⟨_, rfl⟩
      rw [← hOV] at hold
      have hP : Hid (F w (wr.drew.setCell ⟨w.heap.size + 3, k, none⟩ (.int .u32 (V.toNat : Int))) s RV (first l (k + 1))) := Lib.hid (by
        have h := f.drew.put V (by omega)
        rw [hlen] at h
        rw [hF]; exact h)
      obtain ⟨VV, hVV⟩ : ∃ VV, VV = (V.toNat : Int) := ⟨_, rfl⟩
      rw [← hVV] at hP o3
      replace hVV := Lib.hid hVV
      replace hV := Lib.hid hV
      replace hOV := Lib.hid hOV
      clear had hWD hF hlen hq0 hq1 hq2 hq3 f
      refine wp_region_still_tail 35 (by kernel_rfl) (by kernel_rfl) ?_
      simp only [List.take_succ_cons, List.take_zero, List.drop_succ_cons, List.drop_zero]
      change wpStill _ _ (World.drew _) (fun a' => wpList _ _ _ _ a' (World.drew _)) _ _
      repeat still_step
      try refine wpStill_nil ?_
      change wpList _ _ _ _ _ (World.drew _)
      go_wp2
      go_roundw
      case rel => exact ⟨k + 1, by omega, by go_num, hP.out⟩
      case measure => simp [intOf]; omega
    · obtain rfl : k = 16 := by omega
      have hlt' : ¬ ((16 : Nat) : Int) < 16 := by omega
      have f0 := Lib.hid f
      clear f
      go_wp2_with fail
      generalize hFW : first l 16 = FW at *
      have HLN : Hid (∀ j, (more j FW).length = 16 + j) := Lib.hid fun j => by rw [more_len, ← hFW, first_len]
      have HMS : Hid (∀ j, more (j + 1) FW = more j FW ++ [nextW (more j FW)]) := Lib.hid fun j => more_snoc j FW
      have HSP : Hid (spread l = more 48 FW) := Lib.hid (by unfold ShM.spread; rw [hFW])
      have H00 : Hid (more 0 FW = FW) := Lib.hid rfl
      replace hFW := Lib.hid hFW
      clear HF HFL HWD H0 HSRC
      go_loopw [9, 10, 11] (fun i _ _ wr => ∃ (n j : Nat), j ≤ 48 ∧ n = 16 + j ∧ i = .int .i64 (n : Int) ∧ F w wr s RV (more j FW)) (fun i _ _ _ => 64 - (intOf i).toNat)
      case atStart => exact ⟨16, 0, by omega, rfl, rfl, by rw [H00.out]; exact f0.out⟩
      case round =>
        clear f0
        obtain ⟨n, j, hj, hn, rfl, f⟩ := hrel
        by_cases hlt : n < 64
        · have hlt' : (n : Int) < 64 := by omega
          have hlen := HLN.out j
          have hms := HMS.out j
          obtain ⟨L, hL⟩ : ∃ L, L = more j FW := ⟨_, rfl⟩
          rw [← hL] at hlen hms f
          rw [← hn] at hlen
          obtain ⟨i15, h15⟩ : ∃ i : Nat, i = n - 15 := ⟨_, rfl⟩
          obtain ⟨i2, h2⟩ : ∃ i : Nat, i = n - 2 := ⟨_, rfl⟩
          obtain ⟨i16, h16⟩ : ∃ i : Nat, i = n - 16 := ⟨_, rfl⟩
          obtain ⟨i7, h7⟩ : ∃ i : Nat, i = n - 7 := ⟨_, rfl⟩
          have w15 : IntKind.i64.wrap ((n : Int) - 15) = (i15 : Int) := by rw [IntKind.wrap_i64]; omega
          have w2' : IntKind.i64.wrap ((n : Int) - 2) = (i2 : Int) := by rw [IntKind.wrap_i64]; omega
          have w16 : IntKind.i64.wrap ((n : Int) - 16) = (i16 : Int) := by rw [IntKind.wrap_i64]; omega
          have w7 : IntKind.i64.wrap ((n : Int) - 7) = (i7 : Int) := by rw [IntKind.wrap_i64]; omega
          have l15 : (i15 : Int) < 64 := by omega
          have l2 : (i2 : Int) < 64 := by omega
          have l16 : (i16 : Int) < 64 := by omega
          have l7 : (i7 : Int) < 64 := by omega
          have c15 := (f.w.cell i15).trans (HWA.out L i15 (by omega))
          have c2 := (f.w.cell i2).trans (HWA.out L i2 (by omega))
          have c16 := (f.w.cell i16).trans (HWA.out L i16 (by omega))
          have c7 := (f.w.cell i7).trans (HWA.out L i7 (by omega))
          have hN : nextW L = L.getD i16 0 + (rr (L.getD i15 0) 7 ^^^ rr (L.getD i15 0) 18 ^^^ (L.getD i15 0 >>> 3)) + L.getD i7 0 + (rr (L.getD i2 0) 17 ^^^ rr (L.getD i2 0) 19 ^^^ (L.getD i2 0 >>> 10)) := by
            unfold nextW; rw [hlen, ← h16, ← h15, ← h7, ← h2]
          generalize L.getD i15 0 = x at c15 hN
          generalize L.getD i2 0 = y at c2 hN
          generalize L.getD i16 0 = za at c16 hN
          generalize L.getD i7 0 = zb at c7 hN
          have T7 : Hid (∀ (w : World) m, Calls Tryd.prog 29 #[.int .u32 (x.toNat : Int), .int .u64 7] (w.drewN m) fun e w'' => e = .returned (.int .u32 ((rr x 7).toNat : Int)) ∧ ∃ m', w'' = w.drewN m') := Lib.hid fun w m => turnedQ x 7 (by unfold Tn; omega) w m
          have T18 : Hid (∀ (w : World) m, Calls Tryd.prog 29 #[.int .u32 (x.toNat : Int), .int .u64 18] (w.drewN m) fun e w'' => e = .returned (.int .u32 ((rr x 18).toNat : Int)) ∧ ∃ m', w'' = w.drewN m') := Lib.hid fun w m => turnedQ x 18 (by unfold Tn; omega) w m
          have T17 : Hid (∀ (w : World) m, Calls Tryd.prog 29 #[.int .u32 (y.toNat : Int), .int .u64 17] (w.drewN m) fun e w'' => e = .returned (.int .u32 ((rr y 17).toNat : Int)) ∧ ∃ m', w'' = w.drewN m') := Lib.hid fun w m => turnedQ y 17 (by unfold Tn; omega) w m
          have T19 : Hid (∀ (w : World) m, Calls Tryd.prog 29 #[.int .u32 (y.toNat : Int), .int .u64 19] (w.drewN m) fun e w'' => e = .returned (.int .u32 ((rr y 19).toNat : Int)) ∧ ∃ m', w'' = w.drewN m') := Lib.hid fun w m => turnedQ y 19 (by unfold Tn; omega) w m
          have hx1 := x32 (rr x 7) (rr x 18)
          have hx2 := sr32 x 3 8 (by decide)
          have hx3 := x32 (rr x 7 ^^^ rr x 18) (x >>> 3)
          have hy1 := x32 (rr y 17) (rr y 19)
          have hy2 := sr32 y 10 1024 (by decide)
          have hy3 := x32 (rr y 17 ^^^ rr y 19) (y >>> 10)
          have ha1 := ad32 za (rr x 7 ^^^ rr x 18 ^^^ (x >>> 3))
          have ha2 := ad32 (za + (rr x 7 ^^^ rr x 18 ^^^ (x >>> 3))) zb
          have ha3 := ad32 (za + (rr x 7 ^^^ rr x 18 ^^^ (x >>> 3)) + zb) (rr y 17 ^^^ rr y 19 ^^^ (y >>> 10))
          rw [← hN] at ha3
          have hNW := Lib.hid hN
          clear hN
          generalize hNX : ((nextW L).toNat : Int) = NX at ha3
          generalize ((za + (rr x 7 ^^^ rr x 18 ^^^ (x >>> 3)) + zb).toNat : Int) = A2 at ha2 ha3
          generalize ((za + (rr x 7 ^^^ rr x 18 ^^^ (x >>> 3))).toNat : Int) = A1 at ha1 ha2
          generalize ((rr y 17 ^^^ rr y 19 ^^^ (y >>> 10)).toNat : Int) = Y3 at hy3 ha3
          generalize ((rr x 7 ^^^ rr x 18 ^^^ (x >>> 3)).toNat : Int) = X3 at hx3 ha1
          generalize ((rr y 17 ^^^ rr y 19).toNat : Int) = Y1 at hy1 hy3
          generalize ((rr x 7 ^^^ rr x 18).toNat : Int) = X1 at hx1 hx3
          generalize ((y >>> 10).toNat : Int) = Y2 at hy2 hy3
          generalize ((x >>> 3).toNat : Int) = X2 at hx2 hx3
          generalize ((rr x 7).toNat : Int) = R7 at T7 hx1
          generalize ((rr x 18).toNat : Int) = R18 at T18 hx1
          generalize ((rr y 17).toNat : Int) = R17 at T17 hy1
          generalize ((rr y 19).toNat : Int) = R19 at T19 hy1
          generalize (x.toNat : Int) = XX at *
          generalize (y.toNat : Int) = YY at *
          generalize (za.toNat : Int) = ZA at *
          generalize (zb.toNat : Int) = ZB at *
          replace hn := Lib.hid hn
          replace h15 := Lib.hid h15
          replace h2 := Lib.hid h2
          replace h16 := Lib.hid h16
          replace h7 := Lib.hid h7
          replace hL := Lib.hid hL
          replace hms := Lib.hid hms
          replace hlen := Lib.hid hlen
          replace hNX := Lib.hid hNX
          replace hNW := Lib.hid hNW
          replace f := Lib.hid f
          go_wp2_with (go_quiet ((go_at_call 29; first | (with_reducible exact T7.out _ _) | (with_reducible exact T18.out _ _) | (with_reducible exact T17.out _ _) | (with_reducible exact T19.out _ _))))
          have p := Lib.hid (f.out.drewN nq)
          have g2 := (p.out.w.cell i2).trans ((f.out.w.cell i2).symm.trans c2)
          have g16 := (p.out.w.cell i16).trans ((f.out.w.cell i16).symm.trans c16)
          have g7 := (p.out.w.cell i7).trans ((f.out.w.cell i7).symm.trans c7)
          clear c2 c16 c7 c15 f
          generalize wr.drewN nq = wp at p g2 g16 g7 ⊢
          go_wp2_with (go_quiet ((go_at_call 29; first | (with_reducible exact T7.out _ _) | (with_reducible exact T18.out _ _) | (with_reducible exact T17.out _ _) | (with_reducible exact T19.out _ _))))
          have f := p.out.drewN nq
          have c16 := (f.w.drew.cell i16).trans ((p.out.w.cell i16).symm.trans g16)
          have c7 := (f.w.drew.cell i7).trans ((p.out.w.cell i7).symm.trans g7)
          clear g2 g16 g7 p
          generalize wp.drewN nq = wq at f c16 c7 ⊢
          have had := f.w.drew
          have hnn := hlen.out
          have hnn2 : n < 64 := hlt
          have hold := (had.cell n).trans (HWA.out L n hnn2)
          have hfr := had.frozen n
          obtain ⟨OV, hOV⟩ : ∃ OV, OV = ((L.getD n 0).toNat : Int) := ⟨_, rfl⟩
          rw [← hOV] at hold
          have hP : Hid (F w (wq.drew.setCell ⟨w.heap.size + 3, n, none⟩ (.int .u32 NX)) s RV (more (j + 1) FW)) := Lib.hid (by
            have h := f.drew.put (nextW L) (by omega)
            rw [hnn, hNX.out] at h
            rw [hms.out]; exact h)
          replace hOV := Lib.hid hOV
          replace hnn := Lib.hid hnn
          clear had f
          refine wp_region_still_tail 15 (by kernel_rfl) (by kernel_rfl) ?_
          simp only [List.take_succ_cons, List.take_zero, List.drop_succ_cons, List.drop_zero]
          change wpStill _ _ (World.drew _) (fun a' => wpList _ _ _ _ a' (World.drew _)) _ _
          repeat still_step
          try refine wpStill_nil ?_
          change wpList _ _ _ _ _ (World.drew _)
          go_wp2
          go_roundw
          case rel => exact ⟨n + 1, j + 1, by have := hn.out; omega, by have := hn.out; omega, by go_num, hP.out⟩
          case measure => simp [intOf]; omega
        · obtain rfl : j = 48 := by omega
          have hlt' : ¬ (n : Int) < 64 := by omega
          obtain ⟨Wd, hWd⟩ : ∃ Wd, Wd = spread l := ⟨_, rfl⟩
          rw [← HSP.out, ← hWd] at f
          replace hWd := Lib.hid hWd
          have f0 := Lib.hid f
          clear f HLN HMS HSP H00
          have iV : Hid ((Tryd.prog.info? 52).map (·.size) = some HV.size) := Lib.hid (by rw [hHV.out]; exact i52)
          have sV : Hid (z52.size = HV.size) := Lib.hid (by rw [hHV.out]; rfl)
          have oV : Hid (HV.all (·.oneCell') = true) := Lib.hid (by rw [hHV.out]; exact s8c_one _)
          have fh : Hid (Mem.Blk wr w.heap.size 52 HV) := Lib.hid (by rw [hHV.out]; exact f0.out.h)
          have hG : Hid (w.heap.size + 4 ≤ wr.heap.size) := Lib.hid (by have := f0.out.w.lt; omega)
          go_wp2_with (first
            | ((with_reducible show wpList _ _ _ (Oper.mk _ (Op.load 52 (.tmp 3)) _ _ _ _ :: _) _ _); refine Mem.loadBlk 52 (.tmp 3) rfl w.heap.size rfl HV 52 fh.out _ Tryd.underlying52 rfl iV.out rfl ?_)
            | ((with_reducible show wpList _ _ _ (Oper.mk (some 12) (Op.alloc 52) _ _ _ _ :: _) _ _); refine RfB.alloc52 rfl rfl ?_; intro w5 hB5 hb5 hn5; clear hn5)
            | ((with_reducible show wpList _ _ _ (Oper.mk _ (Op.store 52 (.tmp 12) (.tmp 113)) _ _ _ _ :: _) _ _); refine Mem.storeBlk 52 (.tmp 12) (.tmp 113) rfl wr.heap.size rfl z52 HV rfl 52 hB5 iV.out sV.out oV.out wr.heap.size wr hb5 (Nat.le_refl _) rfl ?_; intro w6 hB6 hb6))
          have f6 := Lib.hid (f0.out.far hG.out hb6)
          have q6 : Hid (Mem.Blk w6 wr.heap.size 52 (s8c (go Wd s 0))) := Lib.hid (by rw [hHV.out] at hB6; exact hB6)
          clear hB5 hb5 hB6 hb6 f0 fh iV sV oV
          generalize wr.heap.size = G at hG q6 ⊢
          have HGO : Hid (∀ k, go Wd s (k + 1) = ShM.round (go Wd s k) (kk k) (Wd.getD k 0)) := Lib.hid fun _ => rfl
          go_loopw [13, 14, 15, 16, 17, 18, 19] (fun i _ _ _ _ _ _ wr => ∃ k : Nat, k ≤ 64 ∧ i = .int .i64 (k : Int) ∧ F w wr s RV Wd ∧ Mem.Blk wr G 52 (s8c (go Wd s k))) (fun i _ _ _ _ _ _ _ => 64 - (intOf i).toNat)
          case atStart => exact ⟨0, by omega, rfl, f6.out, q6.out⟩
          case round =>
            clear f6 q6
            obtain ⟨k, hk, rfl, f, q⟩ := hrel
            by_cases hlt : k < 64
            · have hlt' : (k : Int) < 64 := by omega
              have ck := (f.k.cell k).trans (hRV1.out k hlt)
              have cw := (f.w.cell k).trans (HWA.out Wd k hlt)
              have hgo := HGO.out k
              obtain ⟨S, hS⟩ : ∃ S, S = go Wd s k := ⟨_, rfl⟩
              rw [← hS] at q hgo
              obtain ⟨KK, hKK⟩ : ∃ KK, KK = kk k := ⟨_, rfl⟩
              obtain ⟨VV, hVV⟩ : ∃ VV, VV = Wd.getD k 0 := ⟨_, rfl⟩
              rw [← hKK] at ck hgo
              rw [← hVV] at cw hgo
              replace hS := Lib.hid hS
              replace hKK := Lib.hid hKK
              replace hVV := Lib.hid hVV
              obtain ⟨va, vb, vc, vd, ve, vf, vg, vh⟩ := S
              obtain ⟨R6, R11, R25, R2, R13, R22, X1, B1, EF, NE, NG, CH, H1, H2, H3, T1, Y1, B0, AB, AC, BC, M1, MO, Z1, Z, D1, ⟨hR6, hR11, hR25, hR2, hR13, hR22⟩, ⟨q0, q1, q2, q3, q4, q5, q6, q7, q8, q9, q10, q11, q12, q13, q14, q15, q16, q17, q18, q19⟩, hround⟩ := alg va vb vc vd ve vf vg vh KK VV
              rw [hround] at hgo
              obtain ⟨YY, y1, y2⟩ := two32 _ _ _ _ _ q17 q18
              have hsg : (if IntKind.u32.signed = true then (-1 : Int) else IntKind.u32.max) = IntKind.u32.max := rfl
              have qm : ((H1.toNat : Int) + (CH.toNat : Int) + (KK.toNat : Int) + (VV.toNat : Int)) % 4294967296 = (T1.toNat : Int) := by
                have a7 := q7
                have a8 := q8
                have a9 := q9
                rw [IntKind.wrap_u32] at a7 a8 a9
                omega
              have qz : ((T1.toNat : Int) + ((B0.toNat : Int) + (MO.toNat : Int))) % 4294967296 = (Z.toNat : Int) := by
                have a7 := q17
                have a8 := q18
                rw [IntKind.wrap_u32] at a7 a8
                omega
              have R6c : Hid (∀ (w : World) m, Calls Tryd.prog 29 #[.int .u32 (ve.toNat : Int), .int .u64 6] (w.drewN m) fun e w'' => e = .returned (.int .u32 (R6.toNat : Int)) ∧ ∃ m', w'' = w.drewN m') := Lib.hid fun w m => by rw [hR6]; exact turnedQ ve 6 (by unfold Tn; omega) w m
              have R11c : Hid (∀ (w : World) m, Calls Tryd.prog 29 #[.int .u32 (ve.toNat : Int), .int .u64 11] (w.drewN m) fun e w'' => e = .returned (.int .u32 (R11.toNat : Int)) ∧ ∃ m', w'' = w.drewN m') := Lib.hid fun w m => by rw [hR11]; exact turnedQ ve 11 (by unfold Tn; omega) w m
              have R25c : Hid (∀ (w : World) m, Calls Tryd.prog 29 #[.int .u32 (ve.toNat : Int), .int .u64 25] (w.drewN m) fun e w'' => e = .returned (.int .u32 (R25.toNat : Int)) ∧ ∃ m', w'' = w.drewN m') := Lib.hid fun w m => by rw [hR25]; exact turnedQ ve 25 (by unfold Tn; omega) w m
              have R2c : Hid (∀ (w : World) m, Calls Tryd.prog 29 #[.int .u32 (va.toNat : Int), .int .u64 2] (w.drewN m) fun e w'' => e = .returned (.int .u32 (R2.toNat : Int)) ∧ ∃ m', w'' = w.drewN m') := Lib.hid fun w m => by rw [hR2]; exact turnedQ va 2 (by unfold Tn; omega) w m
              have R13c : Hid (∀ (w : World) m, Calls Tryd.prog 29 #[.int .u32 (va.toNat : Int), .int .u64 13] (w.drewN m) fun e w'' => e = .returned (.int .u32 (R13.toNat : Int)) ∧ ∃ m', w'' = w.drewN m') := Lib.hid fun w m => by rw [hR13]; exact turnedQ va 13 (by unfold Tn; omega) w m
              have R22c : Hid (∀ (w : World) m, Calls Tryd.prog 29 #[.int .u32 (va.toNat : Int), .int .u64 22] (w.drewN m) fun e w'' => e = .returned (.int .u32 (R22.toNat : Int)) ∧ ∃ m', w'' = w.drewN m') := Lib.hid fun w m => by rw [hR22]; exact turnedQ va 22 (by unfold Tn; omega) w m
              obtain ⟨c0, c1, c2, c3, c4, c5, c6, c7⟩ := eight q
              replace q := Lib.hid q
              replace f := Lib.hid f
              replace hgo := Lib.hid hgo
              clear hround hR6 hR11 hR25 hR2 hR13 hR22
              go_upto_region 17 with (go_quiet ((go_at_call 29; first | (with_reducible exact R6c.out _ _) | (with_reducible exact R11c.out _ _) | (with_reducible exact R25c.out _ _))))
              have p := Lib.hid (q.out.drewN nq)
              have g := Lib.hid (f.out.drewN nq)
              have ck2 := (g.out.k.cell k).trans ((f.out.k.cell k).symm.trans ck)
              have cw2 := (g.out.w.cell k).trans ((f.out.w.cell k).symm.trans cw)
              clear c0 c1 c2 c3 c4 c5 c6 c7 q f ck cw
              generalize wr.drewN nq = wp at p g ck2 cw2 ⊢
              obtain ⟨c0, c1, c2, c3, c4, c5, c6, c7⟩ := eight p.out
              go_upto_region 19 with (go_quiet (fail))
              have q := Lib.hid (p.out.drewN nq)
              have f := Lib.hid (g.out.drewN nq)
              clear c0 c1 c2 c3 c4 c5 c6 c7 p g ck2 cw2
              generalize wp.drewN nq = wq at q f ⊢
              obtain ⟨c0, c1, c2, c3, c4, c5, c6, c7⟩ := eight q.out
              go_upto_region 20 with (go_quiet ((go_at_call 29; first | (with_reducible exact R2c.out _ _) | (with_reducible exact R13c.out _ _) | (with_reducible exact R22c.out _ _))))
              have p := Lib.hid (q.out.drewN nq)
              have g := Lib.hid (f.out.drewN nq)
              clear c0 c1 c2 c3 c4 c5 c6 c7 q f
              generalize wq.drewN nq = wt at p g ⊢
              obtain ⟨c0, c1, c2, c3, c4, c5, c6, c7⟩ := eight p.out
              have f0 := p.out.frozen 0
              have f1 := p.out.frozen 1
              have f2 := p.out.frozen 2
              have f3 := p.out.frozen 3
              have f4 := p.out.frozen 4
              have f5 := p.out.frozen 5
              have f6 := p.out.frozen 6
              have f7 := p.out.frozen 7
              go_upto_region 15 with fail
              have hP := Lib.hid (blk8 p.out (.int .u32 (Z.toNat : Int)) (.int .u32 (va.toNat : Int)) (.int .u32 (vb.toNat : Int)) (.int .u32 (vc.toNat : Int)) (.int .u32 (D1.toNat : Int)) (.int .u32 (ve.toNat : Int)) (.int .u32 (vf.toNat : Int)) (.int .u32 (vg.toNat : Int)))
              have hB := Lib.hid (below8 (Nat.le_refl G) (Below.refl G wt) (.int .u32 (Z.toNat : Int)) (.int .u32 (va.toNat : Int)) (.int .u32 (vb.toNat : Int)) (.int .u32 (vc.toNat : Int)) (.int .u32 (D1.toNat : Int)) (.int .u32 (ve.toNat : Int)) (.int .u32 (vf.toNat : Int)) (.int .u32 (vg.toNat : Int)))
              unfold n8 at hP hB
              have hF2 := Lib.hid (g.out.far hG.out hB.out)
              generalize ((((((((wt.setCell ⟨G, 0, none⟩ (.int .u32 (Z.toNat : Int))).setCell ⟨G, 1, none⟩ (.int .u32 (va.toNat : Int))).setCell ⟨G, 2, none⟩ (.int .u32 (vb.toNat : Int))).setCell ⟨G, 3, none⟩ (.int .u32 (vc.toNat : Int))).setCell ⟨G, 4, none⟩ (.int .u32 (D1.toNat : Int))).setCell ⟨G, 5, none⟩ (.int .u32 (ve.toNat : Int))).setCell ⟨G, 6, none⟩ (.int .u32 (vf.toNat : Int))).setCell ⟨G, 7, none⟩ (.int .u32 (vg.toNat : Int))) = wv at hP hB hF2 ⊢
              clear c0 c1 c2 c3 c4 c5 c6 c7 f0 f1 f2 f3 f4 f5 f6 f7 p g hB
              go_wp2_with fail
              go_roundw
              case rel => exact ⟨k + 1, by omega, by go_num, hF2.out, by rw [hgo.out]; exact hP.out⟩
              case measure => simp [intOf]; omega
            · obtain rfl : k = 64 := by omega
              have hlt' : ¬ ((64 : Nat) : Int) < 64 := by omega
              obtain ⟨FF, hFF⟩ : ∃ FF, FF = go Wd s 64 := ⟨_, rfl⟩
              rw [← hFF] at q
              have hmix : Hid (mix s l = plus s FF) := Lib.hid (by unfold ShM.mix; rw [hFF, hWd.out])
              replace hFF := Lib.hid hFF
              have f0 := Lib.hid f
              have q0 := Lib.hid q
              clear f q HGO
              go_wp2_with fail
              go_loopw [20] (fun i wr => ∃ j : Nat, j ≤ 8 ∧ i = .int .i64 (j : Int) ∧ Mem.Blk wr w.heap.size 52 (m8 (plus s FF) s j).toArray ∧ Mem.Blk wr (w.heap.size + 2) 52 z52 ∧ Mem.Blk wr G 52 (s8c FF) ∧ Below w.heap.size w wr) (fun i _ => 8 - (intOf i).toNat)
              case atStart => exact ⟨0, by omega, rfl, by rw [m8_zero]; exact f0.out.h, f0.out.o, q0.out, f0.out.b⟩
              case round =>
                clear f0 q0
                obtain ⟨j, hj, rfl, hM, hO, hQ, hBB⟩ := hrel
                by_cases hlt : j < 8
                · have hlt8 : (j : Int) < 8 := by omega
                  have hm := m8_at (plus s FF) s j j hlt
                  rw [if_neg (by omega)] at hm
                  have c1 : wr.drew.cell? ⟨w.heap.size, j, none⟩ = some (.int .u32 (((sl s).getD j 0).toNat : Int)) := (hM.drew.cell j).trans (by rw [List.getElem?_toArray]; exact hm)
                  have c2 : wr.drew.cell? ⟨G, j, none⟩ = some (.int .u32 (((sl FF).getD j 0).toNat : Int)) := (hQ.drew.cell j).trans (s8c_at FF j hlt)
                  have hfr := hM.drew.frozen j
                  have hsum : IntKind.u32.wrap ((((sl s).getD j 0).toNat : Int) + (((sl FF).getD j 0).toNat : Int)) = (((sl (plus s FF)).getD j 0).toNat : Int) := by rw [ad32, plus_at s FF j hlt]
                  have M2 : Hid (Mem.Blk (wr.drew.setCell ⟨w.heap.size, j, none⟩ (.int .u32 (((sl (plus s FF)).getD j 0).toNat : Int))) w.heap.size 52 (m8 (plus s FF) s (j + 1)).toArray) := Lib.hid (by
                    have := hM.drew.put j (.int .u32 (((sl (plus s FF)).getD j 0).toNat : Int))
                    rw [List.setIfInBounds_toArray, m8_set _ _ j hlt] at this
                    exact this)
                  have O2 : Hid (Mem.Blk (wr.drew.setCell ⟨w.heap.size, j, none⟩ (.int .u32 (((sl (plus s FF)).getD j 0).toNat : Int))) (w.heap.size + 2) 52 z52) := Lib.hid (hO.drew.far (by show w.heap.size + 2 ≠ w.heap.size; omega) _)
                  have Q2 : Hid (Mem.Blk (wr.drew.setCell ⟨w.heap.size, j, none⟩ (.int .u32 (((sl (plus s FF)).getD j 0).toNat : Int))) G 52 (s8c FF)) := Lib.hid (hQ.drew.far (by have := hG.out; show G ≠ w.heap.size; omega) _)
                  have D2 := Lib.hid (hBB.drew.setCell (p := ⟨w.heap.size, j, none⟩) (Nat.le_refl _) (.int .u32 (((sl (plus s FF)).getD j 0).toNat : Int)))
                  generalize (((sl (plus s FF)).getD j 0).toNat : Int) = XJ at hsum M2 O2 Q2 D2
                  generalize (((sl s).getD j 0).toNat : Int) = YJ at c1 hsum
                  generalize (((sl FF).getD j 0).toNat : Int) = FJ at c2 hsum
                  clear hM hO hQ hBB hm
                  go_wp2_with fail
                  refine wp_region_still_tail 9 (by kernel_rfl) (by kernel_rfl) ?_
                  simp only [List.take_succ_cons, List.take_zero, List.drop_succ_cons, List.drop_zero]
                  change wpStill _ _ (World.drew _) (fun a' => wpList _ _ _ _ a' (World.drew _)) _ _
                  repeat still_step
                  try refine wpStill_nil ?_
                  change wpList _ _ _ _ _ (World.drew _)
                  go_wp2
                  go_roundw
                  case rel => exact ⟨j + 1, by omega, by go_num, M2.out, O2.out, Q2.out, D2.out⟩
                  case measure => simp [intOf]; omega
                · obtain rfl : j = 8 := by omega
                  have hlt8 : ¬ ((8 : Nat) : Int) < 8 := by omega
                  obtain ⟨RS, hRS⟩ : ∃ RS, RS = s8c (plus s FF) := ⟨_, rfl⟩
                  have M2 : Hid (Mem.Blk wr w.heap.size 52 RS) := Lib.hid (by rw [hRS]; rw [m8_all] at hM; exact hM)
                  have O2 := Lib.hid hO
                  have D2 := Lib.hid hBB
                  have iR : Hid ((Tryd.prog.info? 52).map (·.size) = some RS.size) := Lib.hid (by rw [hRS]; exact i52)
                  have sR : Hid (z52.size = RS.size) := Lib.hid (by rw [hRS]; rfl)
                  have oR : Hid (RS.all (·.oneCell') = true) := Lib.hid (by rw [hRS]; exact s8c_one _)
                  have hfin : Hid (RS = s8c (mix s l)) := Lib.hid (by rw [hRS, hmix.out])
                  clear hM hO hQ hBB hRS
                  go_wp2_with (first
                    | ((with_reducible show wpList _ _ _ (Oper.mk _ (Op.load 52 (.tmp 3)) _ _ _ _ :: _) _ _); refine Mem.loadBlk 52 (.tmp 3) rfl w.heap.size rfl RS 52 M2.out _ Tryd.underlying52 rfl iR.out rfl ?_)
                    | ((with_reducible show wpList _ _ _ (Oper.mk _ (Op.store 52 (.tmp 6) (.tmp 219)) _ _ _ _ :: _) _ _); refine Mem.storeBlk 52 (.tmp 6) (.tmp 219) rfl (w.heap.size + 2) rfl z52 RS rfl 52 O2.out iR.out sR.out oR.out w.heap.size w D2.out (by omega) rfl ?_; intro w9 hB9 hb9))
                  exact bodyPost_ret (results_cell_row Tryd.results22 _ _ (w.heap.size + 2) 52 _ (0, 0) _ rfl hB9 Tryd.underlying52 rfl iR.out) rfl ⟨by rw [hfin.out], hb9⟩
end Go.Proofs.YtlfohiejlajmaaaDoor.RfB
