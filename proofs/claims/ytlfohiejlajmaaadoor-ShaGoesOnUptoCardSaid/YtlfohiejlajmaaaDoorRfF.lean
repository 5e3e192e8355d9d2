/- The document's digests: of a row of bytes. -/
import Derived.Test.YtlfohiejlajmaaaDoorRfB
import Derived.Test.YtlfohiejlajmaaaDoorRfE
namespace Go.Proofs.YtlfohiejlajmaaaDoor.RfF
open Go.ChangeShapes Go.WideShapes Go.ChangeAt Go.RowKit
open ShM ShA ShB ShC ShD ShE ShF ShG ShH ShI ShJ ShK ShL ShN RfM Mem
open ShT (Rd vals vals_length vals_one)
set_option linter.unusedVariables false
set_option maxHeartbeats 4000000

def z27 : Array Value := #[.int .u8 0, .int .u8 0, .int .u8 0, .int .u8 0, .int .u8 0, .int .u8 0, .int .u8 0, .int .u8 0, .int .u8 0, .int .u8 0, .int .u8 0, .int .u8 0, .int .u8 0, .int .u8 0, .int .u8 0, .int .u8 0, .int .u8 0, .int .u8 0, .int .u8 0, .int .u8 0, .int .u8 0, .int .u8 0, .int .u8 0, .int .u8 0, .int .u8 0, .int .u8 0, .int .u8 0, .int .u8 0, .int .u8 0, .int .u8 0, .int .u8 0, .int .u8 0]
theorem z27_b : z27 = b32 [] := by kernel_rfl
theorem run_alloc27 (w : World) : (Instr.alloc 27 true (.tuple #[])).run Tryd.prog w = .ok (.pointer (some ⟨w.heap.size, 0, none⟩)) (w.alloc (.cells z27 27)) := by kernel_rfl
theorem alloc27 {ops : Array Oper} {rest : List Oper} {op : Oper} {a : Act} {w : World} {Q : Exit → Act → World → Prop} (ho : op.op = .alloc 27) (hgd : Region.wanted op (yielded ops a.tmps) = true) (Z : Array Value) (hZ : Z = b32 [])
    (h : ∀ w', Mem.Blk w' w.heap.size 27 Z → Below w.heap.size w w' → w'.heap.size = w.heap.size + 1 → wpList Tryd.prog ops Q rest (a.put op.dst (.pointer (some ⟨w.heap.size, 0, none⟩))) w') : wpList Tryd.prog ops Q (op :: rest) a w :=
  BigFrame.wpList_want hgd fun _ hK => by
    subst hZ
    unfold Oper.wp execOp
    simp only [ho, Sem.run_bind, Sem.run_pure, run_alloc27, Result.andThen_ok]
    exact hK _ _ (h _ (by rw [← z27_b]; exact Mem.Blk.new w 27 _) ((Below.refl _ _).alloc (Nat.le_refl _) _) (by simp))
theorem i27 : (Tryd.prog.info? 27).map (·.size) = some 32 := by kernel_rfl
def kl : List W := (List.range 64).map kk
theorem kl_len : kl.length = 64 := by simp [kl]
theorem kl_at (i : Nat) (h : i < 64) : kl.getD i 0 = kk i := by simp [kl, List.getD, h]
theorem kl_take (i : Nat) (h : i < 64) : kl.take i ++ [kk i] = kl.take (i + 1) := by
  rw [← kl_at i h]
  exact take_snocW kl i (by rw [kl_len]; exact h)
where
  take_snocW (l : List W) (q : Nat) (h : q < l.length) : l.take q ++ [l.getD q 0] = l.take (q + 1) := by
    rw [List.take_add_one]
    congr 1
    simp [List.getD, h]
theorem wc_kl : wc kl = rndV := by kernel_rfl
def z8 : S8 := ⟨0, 0, 0, 0, 0, 0, 0, 0⟩
theorem z8_z : RfB.z52 = s8c z8 := by kernel_rfl
theorem map_at (f : Nat → Nat) (L : List Nat) (n i : Nat) (h : (List.range n).map f = L) (hi : i < n) : f i = L.getD i 0 := by
  subst h
  simp [List.getD, hi]
theorem sl_nums : ∀ i : Fin 8, ([ShM.start.a.toNat, ShM.start.b.toNat, ShM.start.c.toNat, ShM.start.d.toNat, ShM.start.e.toNat, ShM.start.f.toNat, ShM.start.g.toNat, ShM.start.h.toNat] : List Nat).getD i.val 0 = ((sl ShM.start).getD i.val 0).toNat := by decide +kernel
theorem sl_at (i : Nat) (h : i < 8) : rt ((pr 310).getD i 0) 2 37 % 4294967296 = ((sl ShM.start).getD i 0).toNat :=
  (map_at (fun i => rt ((pr 310).getD i 0) 2 37 % 4294967296) _ 8 i roots2 h).trans (sl_nums ⟨i, h⟩)
theorem kk_at (i : Nat) (h : i < 64) : rt ((pr 310).getD i 0) 3 37 % 4294967296 = (kk i).toNat := roots3 ⟨i, h⟩
theorem p_lt (i : Nat) (h : i < 64) : (pr 310).getD i 0 < 4294967296 := by
  have hl := pr_310
  have := pr_pos 310 ((pr 310).getD i 0) (by
    rw [List.getD_eq_getElem?_getD, List.getElem?_eq_getElem (by omega)]
    exact List.getElem_mem _)
  omega

/-- The memory of the first loop. -/
structure G1 (w0 wr : World) (gp h4 i : Nat) : Prop where
  r : Mem.Blk wr w0.heap.size 27 (b32 [])
  p : ∀ q, q < 64 → wr.cell? ⟨gp, q, none⟩ = some (.int .u64 (((pr 310).getD q 0 : Nat) : Int))
  pl : w0.heap.size < gp ∧ gp < h4
  h : Mem.Blk wr h4 52 (m8 ShM.start z8 (min i 8)).toArray
  k : Mem.Blk wr (h4 + 1) 53 (wc (kl.take i))
  b : Below w0.heap.size w0 wr
theorem G1.below {w0 wr w' : World} {gp h4 i : Nat} (g : G1 w0 wr gp h4 i) (hb : Below wr.heap.size wr w') : G1 w0 w' gp h4 i := by
  have h1 := g.h.lt
  have h2 := g.r.lt
  exact ⟨g.r.below hb h2, fun q hq => (hb.cell (p := ⟨gp, q, none⟩) (by have := g.pl; show gp < _; omega)).trans (g.p q hq), g.pl, g.h.below hb h1, g.k.below hb g.k.lt, g.b.trans (hb.mono g.b.size)⟩
theorem G1.putH {w0 wr : World} {gp h4 i : Nat} (g : G1 w0 wr gp h4 i) (hi : i < 8) : Mem.Blk (wr.setCell ⟨h4, i, none⟩ (.int .u32 (((sl ShM.start).getD i 0).toNat : Int))) h4 52 (m8 ShM.start z8 (min (i + 1) 8)).toArray := by
  have := g.h.put i (.int .u32 (((sl ShM.start).getD i 0).toNat : Int))
  rw [Nat.min_eq_left (by omega), List.setIfInBounds_toArray, m8_set _ _ i hi] at this
  rw [Nat.min_eq_left (by omega)]
  exact this

/-- The memory of the later loops. -/
structure G2 (w0 wr : World) (h4 : Nat) (s : S8) : Prop where
  r : Mem.Blk wr w0.heap.size 27 (b32 [])
  h : Mem.Blk wr h4 52 (s8c s)
  k : Mem.Blk wr (h4 + 1) 53 rndV
  pl : w0.heap.size < h4
  b : Below w0.heap.size w0 wr
theorem G2.below {w0 wr w' : World} {h4 : Nat} {s : S8} (g : G2 w0 wr h4 s) (hb : Below wr.heap.size wr w') : G2 w0 w' h4 s :=
  ⟨g.r.below hb g.r.lt, g.h.below hb g.h.lt, g.k.below hb g.k.lt, g.pl, g.b.trans (hb.mono g.b.size)⟩
theorem G2.grown {w0 wr w' : World} {h4 : Nat} {s : S8} (g : G2 w0 wr h4 s) {row : Option Nat} (hg : wr.grownBy w' row) (hr : ∀ q, row = some q → h4 + 2 ≤ q) : G2 w0 w' h4 s :=
  ⟨ShU.blkOwn g.r hg (fun e => by have := hr _ e; have := g.pl; omega), ShU.blkOwn g.h hg (fun e => by have := hr _ e; omega), ShU.blkOwn g.k hg (fun e => by have := hr _ e; omega), g.pl, g.b.grown hg g.b.size (fun q e => by have := hr q e; have := g.pl; omega)⟩
theorem G2.alloc {w0 wr : World} {h4 : Nat} {s : S8} (g : G2 w0 wr h4 s) (o : Obj) : G2 w0 (wr.alloc o) h4 s := g.below ((Below.refl _ _).alloc (Nat.le_refl _) _)
theorem oneRd (w : World) (x : ShM.B8) (n : Int) (hn : n = (x.toNat : Int)) : Rd (w.alloc (.cells #[.int .u8 n] 5)) (some ⟨w.heap.size, 0, none⟩) [x] := ShT.one w x n _ rfl hn
theorem pad_len (m : List ShM.B8) : (pad m).length = m.length + 9 + zeros m.length := by
  unfold pad
  simp only [List.length_append, List.length_replicate, List.length_cons, List.length_nil, tail8_length]
  omega
theorem stepStore52 {ops : Array Oper} {o : Oper} {a : Act} {w : World} {K : Act → World → Prop} {Q : Exit → Act → World → Prop} {E : Prop} (x y : Operand) (ho : o.op = .store 52 x y) (hgd : o.guard = none)
    (g : Nat) (hx : a.eval x = .pointer (some ⟨g, 0, none⟩)) (old cs : Array Value) (hy : a.eval y = .agg cs) (hg : Mem.Blk w g 52 old) (hi : (Tryd.prog.info? 52).map (·.size) = some cs.size) (ho' : old.size = cs.size) (h1 : cs.all (·.oneCell') = true)
    (h : ∀ w', Mem.Blk w' g 52 cs → w.grownBy w' (some g) → K (a.put o.dst undef) w') : if Region.wanted o (yielded ops a.tmps) = true then o.wp Tryd.prog a w K Q else E := by
  have hw : Region.wanted o (yielded ops a.tmps) = true := by simp [Region.wanted, hgd]
  rw [if_pos hw]
  unfold Oper.wp execOp
  simp only [ho, hx, hy, Instr.storeAt, Instr.sureAddr, Sem.run_bind, Sem.run_pure, Result.andThen_ok, run_storeVar_row w g 52 52 old cs hg hi ho' h1]
  exact h _ (setRow_heap w g _ _ 52 _ hg) ⟨rfl, rfl, rfl, by simp [World.setRow], fun q hq hne => setRow_other w g q cs (fun e => hne (by rw [e]))⟩

theorem stepLoad {ops : Array Oper} {o : Oper} {a : Act} {w : World} {K : Act → World → Prop} {Q : Exit → Act → World → Prop} {E : Prop} (T : TypeId) (x : Operand) (ho : o.op = .load T x) (hgd : o.guard = none) (p : Addr) (hx : a.eval x = .pointer (some p)) (v : Value) (hl : (loadVar T p).run Tryd.prog w = .ok v w)
    (h : K (a.put o.dst v) w) : if Region.wanted o (yielded ops a.tmps) = true then o.wp Tryd.prog a w K Q else E := by
  have hw : Region.wanted o (yielded ops a.tmps) = true := by simp [Region.wanted, hgd]
  rw [if_pos hw]
  unfold Oper.wp execOp
  simp only [ho, hx, Instr.loadAt, Instr.sureAddr, Sem.run_bind, Sem.run_pure, Result.andThen_ok, hl]
  exact h

theorem out_step (S : S8) (i : Nat) (hi : i < 32) : (b32 ((ShM.bytes S).take i)).setIfInBounds i (.int .u8 (((((sl S).getD (i / 4) 0) >>> (24 - 8 * (i % 4))).setWidth 8 : ShM.B8).toNat : Int)) = b32 ((ShM.bytes S).take (i + 1)) := by
  have hl : ((ShM.bytes S).take i).length = i := by rw [List.length_take, bytes_len]; omega
  obtain ⟨q, hq⟩ : ∃ q, q = i / 4 := ⟨_, rfl⟩
  obtain ⟨k, hk⟩ : ∃ k, k = i % 4 := ⟨_, rfl⟩
  have hb := bytes_at S q k (by omega) (by omega)
  have he : 4 * q + k = i := by omega
  rw [he] at hb
  rw [← hq, ← hk, ← hb]
  have hs := b32_snoc ((ShM.bytes S).take i) ((ShM.bytes S).getD i 0) (by omega)
  rw [hl, take_snoc _ _ (by rw [bytes_len]; omega)] at hs
  exact hs

set_option maxRecDepth 100000 in
theorem refSum (m : List ShM.B8) (a : Option Addr) (n c : Nat) (w : World) (hm : m.length = n) (hs : ShN.One w (.slice a n c) m) (hmax : n ≤ 900000) :
    Calls Tryd.prog 10 #[.slice a n c] w fun e w' => e = .returned (.agg (b32 (ShM.sum m))) ∧ Below w.heap.size w w' := by
  obtain ⟨Z, hZ⟩ : ∃ Z, Z = b32 [] := ⟨_, rfl⟩
  have HPR := Lib.hid (fun w => RfE.primesW w)
  have HRT := Lib.hid (fun i k w (hi : i < 64) (hk : k ≤ 3) => RfE.rootW ((pr 310).getD i 0) k w hk (p_lt i hi))
  have HONE := Lib.hid (fun w' (hb : Below w.heap.size w w') => hs.below hb)
  have HN := Lib.hid hm
  replace hZ := Lib.hid hZ
  clear hs hm
  go_enter Tryd.func10, Tryd.ntmps10
  go_wp2_with ((with_reducible show wpList _ _ _ (Oper.mk (some 2) (Op.alloc 27) _ _ _ _ :: _) _ _); refine RfF.alloc27 rfl rfl Z hZ.out ?_; intro w1 hB1 hb1 hn1)
  refine (HPR.out _).mono ?_
  rintro e w2 ⟨gp, cp, rfl, hcp, hgp, b2⟩
  have x1 : Hid (Mem.Blk w2 w.heap.size 27 (b32 [])) := Lib.hid (by rw [← hZ.out]; exact hB1.below b2 hB1.lt)
  have x2 := Lib.hid hcp
  have x3 : Hid (w.heap.size < gp) := Lib.hid (by omega)
  have x4 : Hid (gp < w2.heap.size) := Lib.hid (World.block_lt_of_cell? w2 _ (hcp 0 (by omega)))
  have xD := Lib.hid (hb1.trans (b2.mono hb1.size))
  clear hB1 hb1 hn1 hcp hgp b2
  go_wp2_with (first
    | ((with_reducible show wpList _ _ _ (Oper.mk (some 4) (Op.alloc 52) _ _ _ _ :: _) _ _); refine RfB.alloc52 rfl rfl ?_; intro w3 hB3 hb3 hn3
       have y1 := Lib.hid (x1.out.below hb3 x1.out.lt)
       have y2 : Hid (∀ q, q < 64 → w3.cell? ⟨gp, q, none⟩ = some (.int .u64 (((pr 310).getD q 0 : Nat) : Int))) := Lib.hid fun q hq => (hb3.cell (p := ⟨gp, q, none⟩) x4.out).trans (x2.out q hq)
       have y3 := Lib.hid hB3
       have yD := Lib.hid (xD.out.trans (hb3.mono xD.out.size))
       have ys := Lib.hid hn3
       clear hB3 hb3 hn3)
    | ((with_reducible show wpList _ _ _ (Oper.mk (some 5) (Op.alloc 53) _ _ _ _ :: _) _ _); refine RfB.alloc53' rfl rfl ?_; intro w4 hB4 hb4 hn4
       have G0 : Hid (G1 w w4 gp w2.heap.size 0) := Lib.hid ⟨y1.out.below hb4 y1.out.lt, fun q hq => (hb4.cell (p := ⟨gp, q, none⟩) (by have := ys.out; have := x4.out; show gp < _; omega)).trans (y2.out q hq), ⟨x3.out, x4.out⟩, by have := y3.out.below hb4 y3.out.lt; rw [z8_z] at this; exact this, by rw [ys.out] at hB4; exact hB4, yD.out.trans (hb4.mono yD.out.size)⟩
       clear hB4 hb4 hn4))
  rw [ys.out]
  clear x1 x2 x3 y1 y2 y3 yD ys xD
  generalize w2.heap.size = h4 at G0 x4 ⊢
  clear x4
  go_loopw [6] (fun v wr => ∃ i : Nat, i ≤ 64 ∧ v = .int .i64 (i : Int) ∧ G1 w wr gp h4 i) (fun v _ => 64 - (intOf v).toNat)
  case atStart => exact ⟨0, by omega, rfl, G0.out⟩
  case round =>
    clear G0
    obtain ⟨i, hi, rfl, g⟩ := hrel
    by_cases hlt : i < 64
    · have hlt' : (i : Int) < 64 := by omega
      have G := Lib.hid g
      have cp1 := g.p i hlt
      clear g
      obtain ⟨PI, hPI⟩ : ∃ PI, PI = (pr 310).getD i 0 := ⟨_, rfl⟩
      rw [← hPI] at cp1
      obtain ⟨KV, hKV⟩ : ∃ KV : Int, KV = ((kk i).toNat : Int) := ⟨_, rfl⟩
      have R3 : Hid (∀ w, Calls Tryd.prog 21 #[.int .u64 (PI : Int), .int .i64 3] w fun e w' => e = .returned (.int .u32 KV) ∧ Below w.heap.size w w') := Lib.hid fun w => by
        have := HRT.out i 3 w hlt (by omega)
        rw [kk_at i hlt, ← hKV, ← hPI] at this
        exact this
      replace hKV := Lib.hid hKV
      by_cases h8 : i < 8
      · have h8' : (i : Int) < 8 := by omega
        obtain ⟨SV, hSV⟩ : ∃ SV : Int, SV = (((sl ShM.start).getD i 0).toNat : Int) := ⟨_, rfl⟩
        have R2 : Hid (∀ w, Calls Tryd.prog 21 #[.int .u64 (PI : Int), .int .i64 2] w fun e w' => e = .returned (.int .u32 SV) ∧ Below w.heap.size w w') := Lib.hid fun w => by
          have := HRT.out i 2 w hlt (by omega)
          rw [sl_at i h8, ← hSV, ← hPI] at this
          exact this
        have hbz : Hid (∀ j, j < 8 → (m8 ShM.start z8 (min i 8)).toArray[j]? = some (.int .u32 ((if j < min i 8 then (sl ShM.start).getD j 0 else (sl z8).getD j 0).toNat : Int))) := Lib.hid fun j hj => by rw [List.getElem?_toArray]; exact m8_at ShM.start z8 (min i 8) j hj
        replace hSV := Lib.hid hSV
        replace hPI := Lib.hid hPI
        go_wp2_with fail
        refine (R2.out _).mono ?_
        rintro e w5 ⟨rfl, b5⟩
        have G5 := Lib.hid (G.out.below b5)
        have z5 := G5.out.h.frozen i
        have c5 := (G5.out.h.cell i).trans (hbz.out i h8)
        generalize ((if i < min i 8 then (sl ShM.start).getD i 0 else (sl z8).getD i 0).toNat : Int) = OV at c5
        clear b5 cp1
        have H6 : Hid (Mem.Blk (w5.setCell ⟨h4, i, none⟩ (.int .u32 SV)) h4 52 (m8 ShM.start z8 (min (i + 1) 8)).toArray) := Lib.hid (by rw [hSV.out]; exact G5.out.putH h8)
        have G6 : Hid (Mem.Blk (w5.setCell ⟨h4, i, none⟩ (.int .u32 SV)) w.heap.size 27 (b32 []) ∧ (∀ q, q < 64 → (w5.setCell ⟨h4, i, none⟩ (.int .u32 SV)).cell? ⟨gp, q, none⟩ = some (.int .u64 (((pr 310).getD q 0 : Nat) : Int))) ∧ Mem.Blk (w5.setCell ⟨h4, i, none⟩ (.int .u32 SV)) (h4 + 1) 53 (wc (kl.take i)) ∧ Below w.heap.size w (w5.setCell ⟨h4, i, none⟩ (.int .u32 SV))) := Lib.hid ⟨G5.out.r.far (by have := G5.out.pl; show w.heap.size ≠ h4; omega) _, fun q hq => (World.cell?_setCell_other _ _ _ _ (by intro e; have e1 : h4 = gp := congrArg Addr.block e; have := G5.out.pl; omega)).trans (G5.out.p q hq), G5.out.k.far (by show h4 + 1 ≠ h4; omega) _, G5.out.b.setCell (p := ⟨h4, i, none⟩) (by have := G5.out.pl; show w.heap.size ≤ h4; omega) _⟩
        have hpl := Lib.hid G5.out.pl
        have cp5 : w5.cell? ⟨gp, i, none⟩ = some (.int .u64 (PI : Int)) := by rw [hPI.out]; exact G5.out.p i hlt
        have cp6 : (w5.setCell ⟨h4, i, none⟩ (.int .u32 SV)).cell? ⟨gp, i, none⟩ = some (.int .u64 (PI : Int)) := by rw [hPI.out]; exact G6.out.2.1 i hlt
        go_wp2_with fail
        refine (R3.out _).mono ?_
        rintro e w7 ⟨rfl, b7⟩
        generalize w5.setCell ⟨h4, i, none⟩ (.int .u32 SV) = w6 at H6 G6 b7 cp6
        clear c5 z5 cp5
        have H7 := Lib.hid (H6.out.below b7 H6.out.lt)
        have r7 := Lib.hid (G6.out.1.below b7 G6.out.1.lt)
        have k7 := Lib.hid (G6.out.2.2.1.below b7 G6.out.2.2.1.lt)
        have p7 : Hid (∀ q, q < 64 → w7.cell? ⟨gp, q, none⟩ = some (.int .u64 (((pr 310).getD q 0 : Nat) : Int))) := Lib.hid fun q hq => (b7.cell (p := ⟨gp, q, none⟩) (by have := H6.out.lt; have := hpl.out; show gp < _; omega)).trans (G6.out.2.1 q hq)
        have D7 := Lib.hid (G6.out.2.2.2.trans (b7.mono G6.out.2.2.2.size))
        have c7 := (k7.out.cell i).trans (wc_at _ i hlt)
        have z7 := k7.out.frozen i
        generalize (((kl.take i).getD i 0).toNat : Int) = OV2 at c7
        have G8 : Hid (G1 w (w7.setCell ⟨h4 + 1, i, none⟩ (.int .u32 KV)) gp h4 (i + 1)) := Lib.hid (by
          have hk := k7.out.put i (.int .u32 KV)
          have hl : (kl.take i).length = i := by rw [List.length_take, kl_len]; omega
          have hsn := wc_snoc (kl.take i) (kk i) (by omega)
          rw [hl, ← hKV.out, kl_take i hlt] at hsn
          rw [hsn] at hk
          have pl := hpl.out
          exact ⟨r7.out.far (by show w.heap.size ≠ h4 + 1; omega) _, fun q hq => (World.cell?_setCell_other _ _ _ _ (by intro e; have e1 : h4 + 1 = gp := congrArg Addr.block e; omega)).trans (p7.out q hq), pl, H7.out.far (by show h4 ≠ h4 + 1; omega) _, hk, D7.out.setCell (p := ⟨h4 + 1, i, none⟩) (by show w.heap.size ≤ h4 + 1; omega) _⟩)
        clear cp6 b7
        go_wp2_with fail
        go_roundw
        case rel => exact ⟨i + 1, by omega, by go_num, G8.out⟩
        case measure => simp [intOf]; omega
      · have h8' : ¬ (i : Int) < 8 := by omega
        have hmin : min (i + 1) 8 = min i 8 := by omega
        replace hmin := Lib.hid hmin
        replace hPI := Lib.hid hPI
        go_wp2_with fail
        refine (R3.out _).mono ?_
        rintro e w7 ⟨rfl, b7⟩
        have G7 := Lib.hid (G.out.below b7)
        have c7 := (G7.out.k.cell i).trans (wc_at _ i hlt)
        have z7 := G7.out.k.frozen i
        generalize (((kl.take i).getD i 0).toNat : Int) = OV2 at c7
        have G8 : Hid (G1 w (w7.setCell ⟨h4 + 1, i, none⟩ (.int .u32 KV)) gp h4 (i + 1)) := Lib.hid (by
          have hk := G7.out.k.put i (.int .u32 KV)
          have hl : (kl.take i).length = i := by rw [List.length_take, kl_len]; omega
          have hsn := wc_snoc (kl.take i) (kk i) (by omega)
          rw [hl, ← hKV.out, kl_take i hlt] at hsn
          rw [hsn] at hk
          have pl := G7.out.pl
          exact ⟨G7.out.r.far (by show w.heap.size ≠ h4 + 1; omega) _, fun q hq => (World.cell?_setCell_other _ _ _ _ (by intro e; have e1 : h4 + 1 = gp := congrArg Addr.block e; omega)).trans (G7.out.p q hq), pl, by rw [hmin.out]; exact G7.out.h.far (by show h4 ≠ h4 + 1; omega) _, hk, G7.out.b.setCell (p := ⟨h4 + 1, i, none⟩) (by show w.heap.size ≤ h4 + 1; omega) _⟩)
        clear cp1 b7
        go_wp2_with fail
        go_roundw
        case rel => exact ⟨i + 1, by omega, by go_num, G8.out⟩
        case measure => simp [intOf]; omega
    · obtain rfl : i = 64 := by omega
      have hlt' : ¬ ((64 : Nat) : Int) < 64 := by omega
      have r1 := Lib.hid g.r
      have h1 : Hid (Mem.Blk wr h4 52 (s8c ShM.start)) := Lib.hid (by have := g.h; rw [show min 64 8 = 8 from rfl, m8_all] at this; exact this)
      have k1 : Hid (Mem.Blk wr (h4 + 1) 53 rndV) := Lib.hid (by have := g.k; rw [List.take_of_length_le (by rw [kl_len]; omega), wc_kl] at this; exact this)
      have D1 := Lib.hid g.b
      have hpl : Hid (w.heap.size < h4) := Lib.hid (by have := g.pl; omega)
      clear g HPR HRT
      obtain ⟨Bs, hBs⟩ : ∃ Bs, Bs = wr.heap.size := ⟨_, rfl⟩
      have hB4 : Hid (h4 + 2 ≤ Bs) := Lib.hid (by have := k1.out.lt; omega)
      have G0 : Hid (G2 w wr h4 ShM.start) := Lib.hid ⟨r1.out, h1.out, k1.out, hpl.out, D1.out⟩
      have o1 : Hid (ShT.Own (wr.alloc (.cells #[] 5)) Bs (.slice (some ⟨wr.heap.size, 0, none⟩) 0 0) []) := Lib.hid (by rw [hBs]; exact ShT.Own.made wr wr.heap.size (Nat.le_refl _) #[] 0 [] rfl (Nat.zero_le _) rfl)
      have G1' := Lib.hid (G0.out.alloc (.cells #[] 5))
      have s1 : Hid (Bs ≤ (wr.alloc (.cells #[] 5)).heap.size) := Lib.hid (by simp; omega)
      obtain ⟨ka, kc, ke, kr, _⟩ := HONE.out _ G1'.out.b
      injection ke with ke1 ke2 ke3
      subst ke1 ke3
      clear ke2 r1 h1 k1 D1
      have hn0 : Hid ([] ++ m = m) := Lib.hid rfl
      have hn1m : Hid (n ≤ 1000000) := Lib.hid (by omega)
      go_wp2_with (first
        | (at_builtin
           refine ShT.wpList_app rfl (.tmp 34) (.tmp 35) rfl Bs (.slice (some ⟨wr.heap.size, 0, none⟩) 0 0) [] rfl o1.out a m n c rfl HN.out kr m n hn0.out HN.out hn1m.out s1.out ?_
           intro a2 c2 w2 hO2 hR2 hg2 hl2
           have hne2 : ∀ q, (Value.slice (some ⟨wr.heap.size, 0, none⟩) 0 0).ownBlock = some q → h4 + 2 ≤ q := fun q e => by have := (o1.out.blocks q e).1; have := hB4.out; omega
           have O2 := Lib.hid hO2
           have G2' := Lib.hid (G1'.out.grown hg2 hne2)
           have s2 := Lib.hid (Nat.le_trans s1.out hg2.size)
           have O3 := Lib.hid (O2.out.alloc (.cells #[.int .u8 128] 5))
           have G3 := Lib.hid (G2'.out.alloc (.cells #[.int .u8 128] 5))
           have s3 : Hid (Bs ≤ (w2.alloc (.cells #[.int .u8 128] 5)).heap.size) := Lib.hid (by have := s2.out; simp; omega)
           have r3 := Lib.hid (oneRd w2 0x80#8 128 rfl)
           have l3 : Hid ((m ++ [0x80#8]).length = n + 1 ∧ n + 1 ≤ 1000000) := Lib.hid ⟨by rw [List.length_append, HN.out]; rfl, by omega⟩
           clear hO2 hR2 hg2 hl2 hne2)
        | (at_builtin; refine ShT.wpList_app rfl (.tmp 37) (.tmp 38) rfl Bs (.slice a2 n c2) m rfl O3.out (some ⟨w2.heap.size, 0, none⟩) [0x80#8] 1 1 rfl rfl r3.out (m ++ [0x80#8]) (n + 1) rfl l3.out.1 l3.out.2 s3.out ?_; intro a4 c4 w4' hO4 hR4 hg4 hl4))
      have hne4 : ∀ q, (Value.slice a2 n c2).ownBlock = some q → h4 + 2 ≤ q := fun q e => by have := (O3.out.blocks q e).1; have := hB4.out; omega
      have G4 := Lib.hid (G3.out.grown hg4 hne4)
      have s4 := Lib.hid (Nat.le_trans s3.out hg4.size)
      have O4 : Hid (ShT.Own w4' Bs (.slice a4 (n + 1 + 0) c4) (m ++ [0x80#8] ++ List.replicate 0 0)) := Lib.hid (by rw [List.replicate_zero, List.append_nil]; exact hO4)
      clear hO4 hR4 hg4 hl4 hne4 o1 G1' s1 O2 G2' s2 O3 G3 s3 r3 l3 kr G0
      have HZA := Lib.hid (fun j => zero_row (m ++ [0x80#8]) j)
      have hzl : Hid (zeros n < 64) := Lib.hid (by unfold zeros; omega)
      have hzf := Lib.hid (zeros_fill n)
      have hz56 := Lib.hid (fun j h => not56 n j h)
      go_wp2_with fail
      go_loopw [7] (fun v7 wr => ∃ (j : Nat) (a' : Option Addr) (c' : Nat), j ≤ zeros n ∧ v7 = .slice a' (n + 1 + j) c' ∧ ShT.Own wr Bs (.slice a' (n + 1 + j) c') (m ++ [0x80#8] ++ List.replicate j 0) ∧ G2 w wr h4 ShM.start ∧ Bs ≤ wr.heap.size) (fun v7 _ => match v7 with | .slice _ x _ => 1000000 - x | _ => 0)
      case atStart => exact ⟨0, _, _, by omega, rfl, O4.out, G4.out, s4.out⟩
      case round =>
        clear O4 G4 s4
        obtain ⟨j, a', c', hj, rfl, hO, hG, hsz⟩ := hrel
        have hzl2 := hzl.out
        obtain ⟨ln, hln⟩ : ∃ ln, ln = n + 1 + j := ⟨_, rfl⟩
        rw [← hln] at hO ⊢
        have hlni : (ln : Int) ≤ 1000000 := by omega
        have htm : (ln : Int).tmod 64 = ((ln % 64 : Nat) : Int) := by rw [Int.tmod_eq_emod_of_nonneg (by omega)]; omega
        have htm2 : (ln : Int) % 64 = ((ln % 64 : Nat) : Int) := by omega
        obtain ⟨md, hmd⟩ : ∃ md, md = ln % 64 := ⟨_, rfl⟩
        rw [← hmd] at htm htm2
        by_cases hlt : j < zeros n
        · have hne56 : ¬ (md : Int) = 56 := by have := hz56.out j hlt; omega
          have O5 := Lib.hid (hO.alloc (.cells #[.int .u8 0] 5))
          have G5 := Lib.hid (hG.alloc (.cells #[.int .u8 0] 5))
          have s5 : Hid (Bs ≤ (wr.alloc (.cells #[.int .u8 0] 5)).heap.size) := Lib.hid (by simp; omega)
          have r5 := Lib.hid (oneRd wr 0#8 0 rfl)
          have l5 : Hid ((m ++ [0x80#8] ++ List.replicate (j + 1) (0 : ShM.B8)).length = ln + 1 ∧ ln + 1 ≤ 1000000) := Lib.hid ⟨by have := HN.out; simp; omega, by omega⟩
          have e5 := Lib.hid (HZA.out j)
          replace hmd := Lib.hid hmd
          have hln1 : Hid (ln + 1 = n + 1 + (j + 1) ∧ ln < 1000000) := Lib.hid (by omega)
          replace hln := Lib.hid hln
          clear hO hG hsz hzl2
          go_wp2_with (at_builtin; refine ShT.wpList_app rfl (.tmp 44) (.tmp 45) rfl Bs (.slice a' ln c') _ rfl O5.out (some ⟨wr.heap.size, 0, none⟩) [0#8] 1 1 rfl rfl r5.out _ (ln + 1) e5.out l5.out.1 l5.out.2 s5.out ?_; intro a6 c6 w6 hO6 hR6 hg6 hl6)
          have hne6 : ∀ q, (Value.slice a' ln c').ownBlock = some q → h4 + 2 ≤ q := fun q e => by have := (O5.out.blocks q e).1; have := hB4.out; omega
          have G6 := Lib.hid (G5.out.grown hg6 hne6)
          have s6 := Lib.hid (Nat.le_trans s5.out hg6.size)
          have O6 := Lib.hid hO6
          clear hO6 hR6 hg6 hl6 hne6
          go_wp2_with fail
          go_roundw
          case rel => exact ⟨j + 1, _, _, hlt, by rw [hln1.out.1], by rw [← hln1.out.1]; exact O6.out, G6.out, s6.out⟩
          case measure => have := hln1.out.2; simp; omega
        · obtain rfl : j = zeros n := by omega
          have he56 : (md : Int) = 56 := by have := hzf.out; omega
          have O5 := Lib.hid hO
          have G5 := Lib.hid hG
          have s5 := Lib.hid hsz
          obtain ⟨N, hN⟩ : ∃ N, N = n * 8 := ⟨_, rfl⟩
          have hNw : IntKind.u64.wrap ((n : Int) * 8) = (N : Int) := by rw [IntKind.wrap_u64]; omega
          have hNw2 : ((n : Int) * 8) % 18446744073709551616 = (N : Int) := by omega
          have hNb : (N : Int) < 18446744073709551616 := by omega
          obtain ⟨M1, hM1⟩ : ∃ M1, M1 = m ++ [0x80#8] ++ List.replicate (zeros n) 0 := ⟨_, rfl⟩
          rw [← hM1] at O5
          have hM1l : Hid (M1.length = ln) := Lib.hid (by rw [hM1, hln]; have := HN.out; simp; omega)
          have HTT := Lib.hid (fun j h => tail_take N j h)
          have HT8 : Hid (M1 ++ (tail8 N).take 8 = pad m) := Lib.hid (by
            rw [hM1, hN]
            unfold pad
            rw [HN.out, Nat.mod_eq_of_lt (show n * 8 < 2 ^ 64 by omega), show (tail8 (n * 8)).take 8 = tail8 (n * 8) from rfl]
            simp only [List.append_assoc]
            rfl)
          have hPL : Hid ((pad m).length = ln + 8 ∧ (ln + 8) % 64 = 0 ∧ ln + 8 ≤ 1000000) := Lib.hid (by
            have h1 := pad_len m
            have h2 := pad_length m
            rw [HN.out] at h1
            rw [h1] at h2 ⊢
            omega)
          have O6 : Hid (ShT.Own wr Bs (.slice a' (ln + 0) c') (M1 ++ (tail8 N).take 0)) := Lib.hid (by rw [List.take_zero, List.append_nil]; exact O5.out)
          replace hM1 := Lib.hid hM1
          replace hN := Lib.hid hN
          replace hmd := Lib.hid hmd
          replace hln := Lib.hid hln
          clear hO hG hsz O5 HZA hz56 hzf hzl hzl2 hj
          go_wp2_with fail
          go_loopw [7, 9] (fun v7 v9 wr => ∃ (j : Nat) (a' : Option Addr) (c' : Nat), j ≤ 8 ∧ v7 = .slice a' (ln + j) c' ∧ v9 = .int .i64 (7 - (j : Int)) ∧ ShT.Own wr Bs (.slice a' (ln + j) c') (M1 ++ (tail8 N).take j) ∧ G2 w wr h4 ShM.start ∧ Bs ≤ wr.heap.size) (fun _ v9 _ => ((intOf v9) + 1).toNat)
          case atStart => exact ⟨0, _, _, by omega, rfl, rfl, O6.out, G5.out, s5.out⟩
          case round =>
            clear O6 G5 s5
            obtain ⟨j, a', c', hj, rfl, rfl, hO, hG, hsz⟩ := hrel
            by_cases hlt : j < 8
            · obtain ⟨q, hq⟩ : ∃ q, q = 7 - j := ⟨_, rfl⟩
              have hqi : 7 - (j : Int) = (q : Int) := by omega
              have hq7 : q ≤ 7 := by omega
              rw [hqi]
              have hb := HTT.out j hlt
              rw [← hq] at hb
              have hbv : (N : Int) / 2 ^ (8 * q) % 256 = (((BitVec.ofNat 8 (N / 2 ^ (8 * q)) : ShM.B8).toNat : Nat) : Int) := by
                rw [BitVec.toNat_ofNat, Int.natCast_emod, Int.natCast_ediv, Int.natCast_pow]
                rfl
              obtain ⟨BY, hBY⟩ : ∃ BY : Int, BY = (((BitVec.ofNat 8 (N / 2 ^ (8 * q)) : ShM.B8).toNat : Nat) : Int) := ⟨_, rfl⟩
              rw [← hBY] at hbv
              obtain ⟨l1, hl1⟩ : ∃ l1, l1 = ln + j := ⟨_, rfl⟩
              rw [← hl1] at hO ⊢
              have O7 := Lib.hid (hO.alloc (.cells #[.int .u8 BY] 5))
              have G7 := Lib.hid (hG.alloc (.cells #[.int .u8 BY] 5))
              have s7 : Hid (Bs ≤ (wr.alloc (.cells #[.int .u8 BY] 5)).heap.size) := Lib.hid (by simp; omega)
              have r7 := Lib.hid (oneRd wr _ BY hBY)
              have e7 : Hid (M1 ++ (tail8 N).take j ++ [BitVec.ofNat 8 (N / 2 ^ (8 * q))] = M1 ++ (tail8 N).take (j + 1)) := Lib.hid (by rw [List.append_assoc, hb])
              have l7 : Hid ((M1 ++ (tail8 N).take (j + 1)).length = l1 + 1 ∧ l1 + 1 ≤ 1000000) := Lib.hid ⟨by rw [List.length_append, hM1l.out, List.length_take, tail8_length]; omega, by have := hPL.out.2.2; omega⟩
              have hl2 : Hid (l1 + 1 = ln + (j + 1)) := Lib.hid (by omega)
              have hqj := Lib.hid hqi
              replace hq := Lib.hid hq
              replace hl1 := Lib.hid hl1
              replace hBY := Lib.hid hBY
              clear hO hG hsz hqi hb
              go_wp2_with (at_builtin; refine ShT.wpList_app rfl (.tmp 55) (.tmp 62) rfl Bs (.slice a' l1 c') _ rfl O7.out (some ⟨wr.heap.size, 0, none⟩) [BitVec.ofNat 8 (N / 2 ^ (8 * q))] 1 1 rfl rfl r7.out _ (l1 + 1) e7.out l7.out.1 l7.out.2 s7.out ?_; intro a8 c8 w8 hO8 hR8 hg8 hl8)
              have hne8 : ∀ q, (Value.slice a' l1 c').ownBlock = some q → h4 + 2 ≤ q := fun q e => by have := (O7.out.blocks q e).1; have := hB4.out; omega
              have G8 := Lib.hid (G7.out.grown hg8 hne8)
              have s8 := Lib.hid (Nat.le_trans s7.out hg8.size)
              have O8 := Lib.hid hO8
              clear hO8 hR8 hg8 hl8 hne8
              go_wp2_with fail
              go_roundw
              case rel => exact ⟨j + 1, _, _, by omega, by rw [hl2.out], by have := hqj.out; go_num, by rw [← hl2.out]; exact O8.out, G8.out, s8.out⟩
              case measure => simp [intOf]
            · obtain rfl : j = 8 := by omega
              rw [show (7 : Int) - ((8 : Nat) : Int) = -1 from rfl]
              rw [HT8.out] at hO
              have hP1 := hPL.out
              obtain ⟨T, hT⟩ : ∃ T, T = ln + 8 := ⟨_, rfl⟩
              rw [← hT] at hO ⊢
              obtain ⟨L, hL⟩ : ∃ L, T = 64 * L := ⟨T / 64, by omega⟩
              have hTl : Hid ((pad m).length = T ∧ T = 64 * L ∧ T ≤ 1000000) := Lib.hid (by omega)
              have hTi : (T : Int) ≤ 1000000 := by omega
              have hPM := Lib.hid hO
              have G9 : Hid (G2 w wr h4 (absN (pad m) 0)) := Lib.hid hG
              have s9 := Lib.hid hsz
              have r0 := Lib.hid (ShT.Own.rd hO)
              have ob := Lib.hid hO.blocks
              replace hT := Lib.hid hT
              replace hL := Lib.hid hL
              clear hO hG hsz hP1
              have hT0 := pad_len m
              obtain ⟨gB, hgB⟩ : ∃ gB, a' = some ⟨gB, 0, none⟩ := by
                obtain ⟨b', o', e', _⟩ := r0.out.1.2 0 (by omega)
                obtain ⟨_, _, e2, _, _, _, h0, _⟩ := hPM.out.shape
                injection e2 with e3
                subst e3
                have := h0 _ e'
                rw [e', this]
                exact ⟨b', rfl⟩
              subst hgB
              have hTc : (T : Int) ≤ (c' : Int) := by have := r0.out.2.2.1; omega
              have hrow : Hid (Rd wr (some ⟨gB, 0, none⟩) (pad m) ∧ h4 + 2 ≤ gB ∧ gB < wr.heap.size) := Lib.hid ⟨r0.out.1, by have := (ob.out gB rfl).1; have := hB4.out; omega, (ob.out gB rfl).2⟩
              have hTp : Hid (T = (pad m).length) := Lib.hid hTl.out.1.symm
              clear hT0 ob hPM
              obtain ⟨RV, hRV⟩ : ∃ RV, RV = rndV := ⟨_, rfl⟩
              have zR : Hid (RV.size = 64) := Lib.hid (by rw [hRV, rnd_size])
              have HLR : Hid (∀ wz, Mem.Blk wz (h4 + 1) 53 rndV → (loadVar 53 ⟨h4 + 1, 0, none⟩).run Tryd.prog wz = .ok (.agg RV) wz) := Lib.hid fun wz h => by
                rw [hRV]
                exact run_loadVar_row wz (h4 + 1) 53 53 rndV (0, 0) _ h Tryd.underlying53 rfl (by rw [rnd_size]; exact i53)
              have HLH : Hid (∀ wz (S : S8), Mem.Blk wz h4 52 (s8c S) → (loadVar 52 ⟨h4, 0, none⟩).run Tryd.prog wz = .ok (.agg (s8c S)) wz) := Lib.hid fun wz S h => run_loadVar_row wz h4 52 52 (s8c S) (0, 0) _ h Tryd.underlying52 rfl i52
              have HBK : Hid (∀ (S : S8) j p E wz, p = 64 * j → E = p + 64 → E ≤ T → Rd wz (some ⟨gB, 0, none⟩) (pad m) → gB < wz.heap.size → Calls Tryd.prog 22 #[.agg (s8c S), .agg RV, .slice (some ⟨gB, p, none⟩) (E - p) (c' - p)] wz fun e w' => e = .returned (.agg (s8c (mix S (((pad m).drop (64 * j)).take 64)))) ∧ Below wz.heap.size wz w') := Lib.hid fun S j p E wz hp hE hET hr hb => by
                have hl : (((pad m).drop p).take 64).length = 64 := by rw [List.length_take, List.length_drop]; have := hTp.out; omega
                have hr2 : Rd wz (some ⟨gB, p, none⟩) (((pad m).drop p).take 64) := ⟨by rw [hl]; simp [maxLen], fun i hi => ⟨gB, p, rfl, by
                  rw [hl] at hi
                  obtain ⟨b', o', e', hc⟩ := hr.2 (p + i) (by have := hTp.out; omega)
                  injection e' with e'
                  injection e' with e1 e2
                  subst e1 e2
                  rw [Nat.zero_add] at hc
                  rw [hc]
                  simp [List.getD_eq_getElem?_getD, hi]⟩⟩
                have := RfB.blockW S (((pad m).drop p).take 64) gB p (c' - p) wz hl hr2 hb
                rw [hRV, show E - p = 64 by omega, ← hp]
                exact this
              replace hRV := Lib.hid hRV
              go_wp2_with fail
              try simp only [Nat.cast_ofNat, Int.reduceSub]
              go_loopw [10] (fun v10 wr => ∃ (j p : Nat), j ≤ L ∧ p = 64 * j ∧ v10 = .int .i64 (p : Int) ∧ G2 w wr h4 (absN (pad m) j) ∧ Rd wr (some ⟨gB, 0, none⟩) (pad m) ∧ gB < wr.heap.size) (fun v10 _ => 1000100 - (intOf v10).toNat)
              case atStart => exact ⟨0, 0, by omega, rfl, rfl, G9.out, hrow.out.1, hrow.out.2.2⟩
              case round =>
                clear G9 s9
                obtain ⟨j, p, hj, hp, rfl, hG, hR, hgl⟩ := hrel
                by_cases hlt : p < T
                · have hlt' : (p : Int) < (T : Int) := by omega
                  obtain ⟨E, hE⟩ : ∃ E, E = p + 64 := ⟨_, rfl⟩
                  have hEi : (p : Int) + 64 = (E : Int) := by omega
                  have hEl : E ≤ T := by have := hL.out; omega
                  have hEw : IntKind.i64.wrap (E : Int) = (E : Int) := by rw [IntKind.wrap_i64]; omega
                  have he1 : (p : Int) ≤ (E : Int) := by omega
                  have he2 : (E : Int) ≤ (c' : Int) := by omega
                  have he3 : (0 : Int) ≤ (p : Int) := by omega
                  have he4 : ¬ c' = p := by omega
                  obtain ⟨S, hS⟩ : ∃ S, S = absN (pad m) j := ⟨_, rfl⟩
                  rw [← hS] at hG
                  have hbk := Lib.hid (fun wz => HBK.out S j p E wz hp hE hEl)
                  have hnx : Hid (absN (pad m) (j + 1) = mix S (((pad m).drop (64 * j)).take 64)) := Lib.hid (by rw [hS]; rfl)
                  replace hS := Lib.hid hS
                  obtain ⟨S2, hS2⟩ : ∃ S2, S2 = mix S (((pad m).drop (64 * j)).take 64) := ⟨_, rfl⟩
                  rw [← hS2] at hnx hbk
                  replace hS2 := Lib.hid hS2
                  obtain ⟨HV, hHV⟩ : ∃ HV, HV = s8c S := ⟨_, rfl⟩
                  obtain ⟨HV2, hHV2⟩ : ∃ HV2, HV2 = s8c S2 := ⟨_, rfl⟩
                  have hbk2 : Hid (∀ wz, Rd wz (some ⟨gB, 0, none⟩) (pad m) → gB < wz.heap.size → Calls Tryd.prog 22 #[.agg HV, .agg RV, .slice (some ⟨gB, p, none⟩) (E - p) (c' - p)] wz fun e w' => e = .returned (.agg HV2) ∧ Below wz.heap.size wz w') := Lib.hid fun wz h1 h2 => by rw [hHV, hHV2]; exact hbk.out wz h1 h2
                  have hLH : Hid (∀ wz, Mem.Blk wz h4 52 (s8c S) → (loadVar 52 ⟨h4, 0, none⟩).run Tryd.prog wz = .ok (.agg HV) wz) := Lib.hid fun wz h => by rw [hHV]; exact HLH.out wz S h
                  have i2 : Hid ((Tryd.prog.info? 52).map (·.size) = some HV2.size) := Lib.hid (by rw [hHV2]; exact i52)
                  have z2 : Hid ((s8c S).size = HV2.size) := Lib.hid (by rw [hHV2]; rfl)
                  have o2 : Hid (HV2.all (·.oneCell') = true) := Lib.hid (by rw [hHV2]; exact RfB.s8c_one _)
                  replace hHV := Lib.hid hHV
                  replace hHV2 := Lib.hid hHV2
                  have gD : Hid (G2 w wr.drew h4 S) := Lib.hid ⟨hG.r.drew, hG.h.drew, hG.k.drew, hG.pl, hG.b.drew⟩
                  have rD : Hid (Rd wr.drew (some ⟨gB, 0, none⟩) (pad m)) := Lib.hid hR
                  have lD : Hid (gB < wr.drew.heap.size) := Lib.hid hgl
                  have hgh : Hid (h4 + 2 ≤ gB) := Lib.hid hrow.out.2.1
                  replace hE := Lib.hid hE
                  replace hp := Lib.hid hp
                  clear hG hR hgl hbk
                  go_wp2_with fail
                  refine wp_region_held_drew (S := fun _ => True) (by kernel_rfl) trivial (fun hS => ?_)
                  try simp only [List.size_toArray, List.length_cons, List.length_nil, Nat.reduceAdd]
                  refine wpAnyH_take (i := 2) (v := ?_) (by simp only [List.getElem?_toArray, List.getElem?_cons_succ, List.getElem?_cons_zero]; rfl) (by kernel_rfl) (by kernel_rfl) (by kernel_rfl) (by exact fun _ _ _ h => h) (Or.inl ⟨by rfl, ?_⟩) hS ?_
                  rotate_left
                  · intro w hSw
                    go_simp
                    try with_reducible rfl
                  try simp only [Act.put, List.setIfInBounds_toArray, List.set_cons_zero, List.set_cons_succ]
                  refine wpAnyH_take (i := 3) (v := ?_) (by simp only [List.getElem?_toArray, List.getElem?_cons_succ, List.getElem?_cons_zero]; rfl) (by kernel_rfl) (by kernel_rfl) (by kernel_rfl) (by exact fun _ _ _ h => h) (Or.inl ⟨by rfl, ?_⟩) hS ?_
                  rotate_left
                  · intro w hSw
                    go_simp
                    try with_reducible rfl
                  try simp only [Act.put, List.setIfInBounds_toArray, List.set_cons_zero, List.set_cons_succ]
                  refine wpAnyH_take (i := 4) (v := ?_) (by simp only [List.getElem?_toArray, List.getElem?_cons_succ, List.getElem?_cons_zero]; rfl) (by kernel_rfl) (by kernel_rfl) (by kernel_rfl) (by exact fun _ _ _ h => h) (Or.inl ⟨by rfl, ?_⟩) hS ?_
                  rotate_left
                  · intro w hSw
                    go_simp
                    try with_reducible rfl
                  try simp only [Act.put, List.setIfInBounds_toArray, List.set_cons_zero, List.set_cons_succ]
                  refine wpAnyH_take (i := 5) (v := ?_) (by simp only [List.getElem?_toArray, List.getElem?_cons_succ, List.getElem?_cons_zero]; rfl) (by kernel_rfl) (by kernel_rfl) (by kernel_rfl) (by exact fun _ _ _ h => h) (Or.inl ⟨by rfl, ?_⟩) hS ?_
                  rotate_left
                  · intro w hSw
                    go_simp
                    try with_reducible rfl
                  try simp only [Act.put, List.setIfInBounds_toArray, List.set_cons_zero, List.set_cons_succ]
                  refine wpAnyH_take (i := 6) (v := ?_) (by simp only [List.getElem?_toArray, List.getElem?_cons_succ, List.getElem?_cons_zero]; rfl) (by kernel_rfl) (by kernel_rfl) (by kernel_rfl) (by exact fun _ _ _ h => h) (Or.inl ⟨by rfl, ?_⟩) hS ?_
                  rotate_left
                  · intro w hSw
                    go_simp
                    try with_reducible rfl
                  try simp only [Act.put, List.setIfInBounds_toArray, List.set_cons_zero, List.set_cons_succ]
                  refine wpAnyH_ready (rs := [0, 1]) (by kernel_rfl) (by simp) ?_
                  refine AllReadyH.cons (by simp only [List.getElem?_toArray, List.getElem?_cons_zero]; rfl) (fun K hK => ?_) (AllReadyH.cons (by simp only [List.getElem?_toArray, List.getElem?_cons_succ, List.getElem?_cons_zero]; rfl) (fun K hK => ?_) AllReadyH.nil)
                  · refine RfF.stepLoad 52 (.tmp 4) rfl rfl ⟨h4, 0, none⟩ rfl (.agg HV) (hLH.out _ gD.out.h) ?_
                    refine hK.out _ _ trivial (fun hS => ?_)
                    clear hK K
                    try simp only [Act.put, List.setIfInBounds_toArray, List.set_cons_zero, List.set_cons_succ]
                    refine wpAnyH_ready (rs := [1]) (by kernel_rfl) (by simp) ?_
                    refine AllReadyH.cons (by simp only [List.getElem?_toArray, List.getElem?_cons_succ, List.getElem?_cons_zero]; rfl) (fun K hK => ?_) AllReadyH.nil
                    refine RfF.stepLoad 53 (.tmp 5) rfl rfl ⟨h4 + 1, 0, none⟩ rfl (.agg RV) (HLR.out _ gD.out.k) ?_
                    refine hK.out _ _ trivial (fun hS => ?_)
                    clear hK K
                    try simp only [Act.put, List.setIfInBounds_toArray, List.set_cons_zero, List.set_cons_succ]
                    refine wpAnyH_ready (rs := [7]) (by kernel_rfl) (by simp) ?_
                    refine AllReadyH.cons (by simp only [List.getElem?_toArray, List.getElem?_cons_succ, List.getElem?_cons_zero]; rfl) (fun K hK => ?_) AllReadyH.nil
                    go_simp
                    go_at_call 22
                    refine (hbk2.out _ rD.out lD.out).mono ?_
                    rintro e w5 ⟨rfl, b5⟩
                    have gE := Lib.hid (gD.out.below b5)
                    have rE := Lib.hid (ShT.Rd.below rD.out b5 (fun x _ e => by injection e with e; subst e; exact lD.out))
                    have lE := Lib.hid (Nat.lt_of_lt_of_le lD.out b5.size)
                    clear b5
                    refine hK.out _ _ trivial (fun hS => ?_)
                    clear hK K
                    try simp only [Act.put, List.setIfInBounds_toArray, List.set_cons_zero, List.set_cons_succ]
                    refine wpAnyH_ready (rs := [8]) (by kernel_rfl) (by simp) ?_
                    refine AllReadyH.cons (by simp only [List.getElem?_toArray, List.getElem?_cons_succ, List.getElem?_cons_zero]; rfl) (fun K hK => ?_) AllReadyH.nil
                    refine RfF.stepStore52 (.tmp 4) (.tmp 77) rfl rfl h4 rfl (s8c S) HV2 rfl gE.out.h i2.out z2.out o2.out ?_
                    intro w6 hB6 hg6
                    have k6 : Hid (Mem.Blk w6 (h4 + 1) 53 rndV) := Lib.hid (ShU.blkOwn gE.out.k hg6 (by intro e; injection e with e; omega))
                    have g6 : Hid (G2 w w6 h4 (absN (pad m) (j + 1))) := Lib.hid ⟨ShU.blkOwn gE.out.r hg6 (by intro e; injection e with e; have := gE.out.pl; omega), by rw [hnx.out, ← hHV2.out]; exact hB6, k6.out, gE.out.pl, RfC.below_gb gE.out.b hg6 (by have := gE.out.pl; omega) gE.out.b.size⟩
                    have R6 : Hid (Rd w6 (some ⟨gB, 0, none⟩) (pad m)) := Lib.hid ⟨rE.out.1, fun i hi => by
                      obtain ⟨b', o', e', hc⟩ := rE.out.2 i hi
                      refine ⟨b', o', e', ?_⟩
                      injection e' with e'
                      injection e' with e1 e2
                      exact hg6.cell hc (by intro e; injection e with e; have e3 : b' = h4 := e; have := hgh.out; omega)⟩
                    have L6 := Lib.hid (Nat.lt_of_lt_of_le lE.out hg6.size)
                    clear hB6 hg6
                    refine hK.out _ _ trivial (fun hS => ?_)
                    clear hK K
                    try simp only [Act.put]
                    refine wpAnyH_done (by kernel_rfl) ?_ _
                    go_wp2_with fail
                    go_roundw
                    case rel => exact ⟨j + 1, E, by have := hL.out; have := hp.out; have := hE.out; omega, by have := hp.out; have := hE.out; omega, by go_num, g6.out, R6.out, L6.out⟩
                    case measure => have := hE.out; simp [intOf]; omega
                  · refine RfF.stepLoad 53 (.tmp 5) rfl rfl ⟨h4 + 1, 0, none⟩ rfl (.agg RV) (HLR.out _ gD.out.k) ?_
                    refine hK.out _ _ trivial (fun hS => ?_)
                    clear hK K
                    try simp only [Act.put, List.setIfInBounds_toArray, List.set_cons_zero, List.set_cons_succ]
                    refine wpAnyH_ready (rs := [0]) (by kernel_rfl) (by simp) ?_
                    refine AllReadyH.cons (by simp only [List.getElem?_toArray, List.getElem?_cons_zero]; rfl) (fun K hK => ?_) AllReadyH.nil
                    refine RfF.stepLoad 52 (.tmp 4) rfl rfl ⟨h4, 0, none⟩ rfl (.agg HV) (hLH.out _ gD.out.h) ?_
                    refine hK.out _ _ trivial (fun hS => ?_)
                    clear hK K
                    try simp only [Act.put, List.setIfInBounds_toArray, List.set_cons_zero, List.set_cons_succ]
                    refine wpAnyH_ready (rs := [7]) (by kernel_rfl) (by simp) ?_
                    refine AllReadyH.cons (by simp only [List.getElem?_toArray, List.getElem?_cons_succ, List.getElem?_cons_zero]; rfl) (fun K hK => ?_) AllReadyH.nil
                    go_simp
                    go_at_call 22
                    refine (hbk2.out _ rD.out lD.out).mono ?_
                    rintro e w5 ⟨rfl, b5⟩
                    have gE := Lib.hid (gD.out.below b5)
                    have rE := Lib.hid (ShT.Rd.below rD.out b5 (fun x _ e => by injection e with e; subst e; exact lD.out))
                    have lE := Lib.hid (Nat.lt_of_lt_of_le lD.out b5.size)
                    clear b5
                    refine hK.out _ _ trivial (fun hS => ?_)
                    clear hK K
                    try simp only [Act.put, List.setIfInBounds_toArray, List.set_cons_zero, List.set_cons_succ]
                    refine wpAnyH_ready (rs := [8]) (by kernel_rfl) (by simp) ?_
                    refine AllReadyH.cons (by simp only [List.getElem?_toArray, List.getElem?_cons_succ, List.getElem?_cons_zero]; rfl) (fun K hK => ?_) AllReadyH.nil
                    refine RfF.stepStore52 (.tmp 4) (.tmp 77) rfl rfl h4 rfl (s8c S) HV2 rfl gE.out.h i2.out z2.out o2.out ?_
                    intro w6 hB6 hg6
                    have k6 : Hid (Mem.Blk w6 (h4 + 1) 53 rndV) := Lib.hid (ShU.blkOwn gE.out.k hg6 (by intro e; injection e with e; omega))
                    have g6 : Hid (G2 w w6 h4 (absN (pad m) (j + 1))) := Lib.hid ⟨ShU.blkOwn gE.out.r hg6 (by intro e; injection e with e; have := gE.out.pl; omega), by rw [hnx.out, ← hHV2.out]; exact hB6, k6.out, gE.out.pl, RfC.below_gb gE.out.b hg6 (by have := gE.out.pl; omega) gE.out.b.size⟩
                    have R6 : Hid (Rd w6 (some ⟨gB, 0, none⟩) (pad m)) := Lib.hid ⟨rE.out.1, fun i hi => by
                      obtain ⟨b', o', e', hc⟩ := rE.out.2 i hi
                      refine ⟨b', o', e', ?_⟩
                      injection e' with e'
                      injection e' with e1 e2
                      exact hg6.cell hc (by intro e; injection e with e; have e3 : b' = h4 := e; have := hgh.out; omega)⟩
                    have L6 := Lib.hid (Nat.lt_of_lt_of_le lE.out hg6.size)
                    clear hB6 hg6
                    refine hK.out _ _ trivial (fun hS => ?_)
                    clear hK K
                    try simp only [Act.put]
                    refine wpAnyH_done (by kernel_rfl) ?_ _
                    go_wp2_with fail
                    go_roundw
                    case rel => exact ⟨j + 1, E, by have := hL.out; have := hp.out; have := hE.out; omega, by have := hp.out; have := hE.out; omega, by go_num, g6.out, R6.out, L6.out⟩
                    case measure => have := hE.out; simp [intOf]; omega
                · obtain rfl : j = L := by have := hL.out; omega
                  have hlt' : ¬ (p : Int) < (T : Int) := by omega
                  obtain ⟨S, hS⟩ : ∃ S, S = absN (pad m) j := ⟨_, rfl⟩
                  rw [← hS] at hG
                  have hbyt : Hid (ShM.bytes S = ShM.sum m) := Lib.hid (by
                    unfold ShM.sum
                    rw [hS, hTl.out.1, hL.out, Nat.mul_div_cancel_left _ (by omega)])
                  have g0 := Lib.hid hG
                  replace hS := Lib.hid hS
                  have HBY := Lib.hid (fun i hi => out_step S i hi)
                  clear hG hR hgl HBK HLH HLR hNb hNw hNw2
                  go_wp2_with ((with_reducible show wpList _ _ _ (Oper.mk (some 11) (Op.alloc 27) _ _ _ _ :: _) _ _); refine RfF.alloc27 rfl rfl Z hZ.out ?_; intro w5 hB5 hb5 hn5)
                  have g1 := Lib.hid (g0.out.below hb5)
                  have f1 : Hid (Mem.Blk w5 wr.heap.size 27 (b32 ((ShM.bytes S).take 0))) := Lib.hid (by rw [hZ.out] at hB5; exact hB5)
                  have hGo : Hid (h4 + 2 ≤ wr.heap.size) := Lib.hid (by have := g0.out.k.lt; omega)
                  clear hB5 hb5 hn5 g0
                  generalize wr.heap.size = GO at f1 hGo ⊢
                  go_wp2_with fail
                  go_loopw [12] (fun v12 wr => ∃ i : Nat, i ≤ 32 ∧ v12 = .int .i64 (i : Int) ∧ G2 w wr h4 S ∧ Mem.Blk wr GO 27 (b32 ((ShM.bytes S).take i))) (fun v12 _ => 100 - (intOf v12).toNat)
                  case atStart => exact ⟨0, by omega, rfl, g1.out, f1.out⟩
                  case round =>
                    clear g1 f1
                    obtain ⟨i, hi, rfl, hG, hF⟩ := hrel
                    by_cases hlt : i < 32
                    · have hlt' : (i : Int) < 32 := by omega
                      obtain ⟨q, hq⟩ : ∃ q, q = i / 4 := ⟨_, rfl⟩
                      obtain ⟨k, hk⟩ : ∃ k, k = i % 4 := ⟨_, rfl⟩
                      have hq8 : q < 8 := by omega
                      have hk4 : k < 4 := by omega
                      have t1 : (i : Int).tdiv 4 = (q : Int) := by rw [Int.tdiv_eq_ediv_of_nonneg (by omega)]; omega
                      have t2 : (i : Int).tmod 4 = (k : Int) := by rw [Int.tmod_eq_emod_of_nonneg (by omega)]; omega
                      have t3 : (i : Int) / 4 = (q : Int) := by omega
                      have t4 : (i : Int) % 4 = (k : Int) := by omega
                      obtain ⟨d, hd⟩ : ∃ d, d = 24 - 8 * k := ⟨_, rfl⟩
                      have t5 : (24 : Int) - 8 * (k : Int) = (d : Int) := by omega
                      have hby := HBY.out i hlt
                      rw [← hq, ← hk, ← hd] at hby
                      have ch := (hG.h.cell q).trans (s8c_at S q hq8)
                      have co := (hF.cell i).trans (b32_at _ i hlt)
                      have zo := hF.frozen i
                      obtain ⟨X, hX⟩ : ∃ X, X = (sl S).getD q 0 := ⟨_, rfl⟩
                      rw [← hX] at hby ch
                      have hsv : (X.toNat : Int) / 2 ^ d % 256 = ((((X >>> d).setWidth 8 : ShM.B8)).toNat : Int) := by
                        rw [BitVec.toNat_setWidth, BitVec.toNat_ushiftRight, Nat.shiftRight_eq_div_pow, Int.natCast_emod, Int.natCast_ediv, Int.natCast_pow]
                        rfl
                      have F2 : Hid (Mem.Blk (wr.setCell ⟨GO, i, none⟩ (.int .u8 ((((X >>> d).setWidth 8 : ShM.B8)).toNat : Int))) GO 27 (b32 ((ShM.bytes S).take (i + 1)))) := Lib.hid (by rw [← hby]; exact hF.put _ _)
                      have GG2 : Hid (G2 w (wr.setCell ⟨GO, i, none⟩ (.int .u8 ((((X >>> d).setWidth 8 : ShM.B8)).toNat : Int))) h4 S) := Lib.hid ⟨hG.r.far (by have := hGo.out; have := hG.pl; show w.heap.size ≠ GO; omega) _, hG.h.far (by have := hGo.out; show h4 ≠ GO; omega) _, hG.k.far (by have := hGo.out; show h4 + 1 ≠ GO; omega) _, hG.pl, hG.b.setCell (p := ⟨GO, i, none⟩) (by have := hGo.out; have := hG.pl; show w.heap.size ≤ GO; omega) _⟩
                      generalize ((((X >>> d).setWidth 8 : ShM.B8)).toNat : Int) = Y at hsv F2 GG2
                      generalize ((((ShM.bytes S).take i).getD i 0).toNat : Int) = OV at co
                      replace hq := Lib.hid hq
                      replace hk := Lib.hid hk
                      have hd24 : d ≤ 24 := by omega
                      replace hd := Lib.hid hd
                      replace hX := Lib.hid hX
                      clear hG hF hby
                      go_wp2_with fail
                      go_roundw
                      case rel => exact ⟨i + 1, by omega, by go_num, GG2.out, F2.out⟩
                      case measure => simp [intOf]; omega
                    · obtain rfl : i = 32 := by omega
                      have hlt' : ¬ ((32 : Nat) : Int) < 32 := by omega
                      obtain ⟨OV, hOV⟩ : ∃ OV, OV = b32 (ShM.sum m) := ⟨_, rfl⟩
                      have F2 : Hid (Mem.Blk wr GO 27 OV) := Lib.hid (by rw [hOV, ← hbyt.out]; exact hF)
                      have R2 : Hid (Mem.Blk wr w.heap.size 27 Z) := Lib.hid (by rw [hZ.out]; exact hG.r)
                      have DD := Lib.hid hG.b
                      have iO : Hid ((Tryd.prog.info? 27).map (·.size) = some OV.size) := Lib.hid (by rw [hOV, b32_size]; exact i27)
                      have sO : Hid (Z.size = OV.size) := Lib.hid (by rw [hOV, hZ.out, b32_size, b32_size])
                      have oO : Hid (OV.all (·.oneCell') = true) := Lib.hid (by rw [hOV]; exact b32_one _)
                      replace hOV := Lib.hid hOV
                      clear hG hF HBY
                      go_wp2_with (first
                        | ((with_reducible show wpList _ _ _ (Oper.mk _ (Op.load 27 (.tmp 11)) _ _ _ _ :: _) _ _); refine Mem.loadBlk 27 (.tmp 11) rfl GO rfl OV 27 F2.out _ Tryd.underlying27 rfl iO.out rfl ?_)
                        | ((with_reducible show wpList _ _ _ (Oper.mk _ (Op.store 27 (.tmp 2) (.tmp 95)) _ _ _ _ :: _) _ _); refine Mem.storeBlk 27 (.tmp 2) (.tmp 95) rfl w.heap.size rfl Z OV rfl 27 R2.out iO.out sO.out oO.out w.heap.size w DD.out (Nat.le_refl _) rfl ?_; intro w9 hB9 hb9))
                      exact bodyPost_ret (results_cell_row Tryd.results10 _ _ w.heap.size 27 _ (0, 0) _ rfl hB9 Tryd.underlying27 rfl iO.out) rfl ⟨by rw [hOV.out], hb9⟩
end Go.Proofs.YtlfohiejlajmaaaDoor.RfF
