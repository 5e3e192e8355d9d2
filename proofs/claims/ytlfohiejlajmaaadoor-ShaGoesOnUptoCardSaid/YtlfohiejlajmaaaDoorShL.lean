/- Digests: the sum of one in memory. -/
import Derived.Test.YtlfohiejlajmaaaDoorShK
namespace Go.Proofs.YtlfohiejlajmaaaDoor.ShL
open Go.ChangeShapes Go.WideShapes Go.ChangeAt Go.RowKit
open ShM ShA ShB ShC ShD ShE ShF ShG ShH ShI ShJ ShK Mem
open ShT (Rd vals vals_length vals_one)
set_option linter.unusedVariables false
set_option maxHeartbeats 2000000

def z28 : Array Value := #[.int .u8 0, .int .u8 0, .int .u8 0, .int .u8 0, .int .u8 0, .int .u8 0, .int .u8 0, .int .u8 0, .int .u8 0, .int .u8 0, .int .u8 0, .int .u8 0, .int .u8 0, .int .u8 0, .int .u8 0, .int .u8 0, .int .u8 0, .int .u8 0, .int .u8 0, .int .u8 0, .int .u8 0, .int .u8 0, .int .u8 0, .int .u8 0, .int .u8 0, .int .u8 0, .int .u8 0, .int .u8 0, .int .u8 0, .int .u8 0, .int .u8 0, .int .u8 0]
theorem z28_size : z28.size = 32 := by kernel_rfl
theorem run_alloc28 (w : World) : (Instr.alloc 28 true (.tuple #[])).run Tryd.prog w = .ok (.pointer (some ⟨w.heap.size, 0, none⟩)) (w.alloc (.cells z28 28)) := by kernel_rfl
theorem alloc28 {ops : Array Oper} {rest : List Oper} {op : Oper} {a : Act} {w : World} {Q : Exit → Act → World → Prop} (ho : op.op = .alloc 28) (hgd : Region.wanted op (yielded ops a.tmps) = true) (Z : Array Value) (hZ : Z = z28)
    (h : ∀ w', Mem.Blk w' w.heap.size 28 Z → Below w.heap.size w w' → w'.heap.size = w.heap.size + 1 → wpList Tryd.prog ops Q rest (a.put op.dst (.pointer (some ⟨w.heap.size, 0, none⟩))) w') : wpList Tryd.prog ops Q (op :: rest) a w :=
  BigFrame.wpList_want hgd fun _ hK => by
    subst hZ
    unfold Oper.wp execOp
    simp only [ho, Sem.run_bind, Sem.run_pure, run_alloc28, Result.andThen_ok]
    exact hK _ _ (h _ (Mem.Blk.new w 28 _) ((Below.refl _ _).alloc (Nat.le_refl _) _) (by simp))
def z58 : Array Value := #[.int .u8 0, .int .u8 0, .int .u8 0, .int .u8 0, .int .u8 0, .int .u8 0, .int .u8 0, .int .u8 0, .int .u8 0, .int .u8 0, .int .u8 0, .int .u8 0, .int .u8 0, .int .u8 0, .int .u8 0, .int .u8 0, .int .u8 0, .int .u8 0, .int .u8 0, .int .u8 0, .int .u8 0, .int .u8 0, .int .u8 0, .int .u8 0, .int .u8 0, .int .u8 0, .int .u8 0, .int .u8 0, .int .u8 0, .int .u8 0, .int .u8 0, .int .u8 0, .int .u8 0, .int .u8 0, .int .u8 0, .int .u8 0, .int .u8 0, .int .u8 0, .int .u8 0, .int .u8 0, .int .u8 0, .int .u8 0, .int .u8 0, .int .u8 0, .int .u8 0, .int .u8 0, .int .u8 0, .int .u8 0, .int .u8 0, .int .u8 0, .int .u8 0, .int .u8 0, .int .u8 0, .int .u8 0, .int .u8 0, .int .u8 0, .int .u8 0, .int .u8 0, .int .u8 0, .int .u8 0, .int .u8 0, .int .u8 0, .int .u8 0, .int .u8 0]
theorem z58_size : z58.size = 64 := by kernel_rfl
theorem run_alloc58 (w : World) : (Instr.alloc 58 true (.tuple #[])).run Tryd.prog w = .ok (.pointer (some ⟨w.heap.size, 0, none⟩)) (w.alloc (.cells z58 58)) := by kernel_rfl
theorem alloc58 {ops : Array Oper} {rest : List Oper} {op : Oper} {a : Act} {w : World} {Q : Exit → Act → World → Prop} (ho : op.op = .alloc 58) (hgd : Region.wanted op (yielded ops a.tmps) = true) (Z : Array Value) (hZ : Z = z58)
    (h : ∀ w', Mem.Blk w' w.heap.size 58 Z → Below w.heap.size w w' → w'.heap.size = w.heap.size + 1 → wpList Tryd.prog ops Q rest (a.put op.dst (.pointer (some ⟨w.heap.size, 0, none⟩))) w') : wpList Tryd.prog ops Q (op :: rest) a w :=
  BigFrame.wpList_want hgd fun _ hK => by
    subst hZ
    unfold Oper.wp execOp
    simp only [ho, Sem.run_bind, Sem.run_pure, run_alloc58, Result.andThen_ok]
    exact hK _ _ (h _ (Mem.Blk.new w 58 _) ((Below.refl _ _).alloc (Nat.le_refl _) _) (by simp))
def z60 : Array Value := #[.int .u32 0, .int .u32 0, .int .u32 0, .int .u32 0, .int .u32 0, .int .u32 0, .int .u32 0, .int .u32 0, .int .u8 0, .int .u8 0, .int .u8 0, .int .u8 0, .int .u8 0, .int .u8 0, .int .u8 0, .int .u8 0, .int .u8 0, .int .u8 0, .int .u8 0, .int .u8 0, .int .u8 0, .int .u8 0, .int .u8 0, .int .u8 0, .int .u8 0, .int .u8 0, .int .u8 0, .int .u8 0, .int .u8 0, .int .u8 0, .int .u8 0, .int .u8 0, .int .u8 0, .int .u8 0, .int .u8 0, .int .u8 0, .int .u8 0, .int .u8 0, .int .u8 0, .int .u8 0, .int .u8 0, .int .u8 0, .int .u8 0, .int .u8 0, .int .u8 0, .int .u8 0, .int .u8 0, .int .u8 0, .int .u8 0, .int .u8 0, .int .u8 0, .int .u8 0, .int .u8 0, .int .u8 0, .int .u8 0, .int .u8 0, .int .u8 0, .int .u8 0, .int .u8 0, .int .u8 0, .int .u8 0, .int .u8 0, .int .u8 0, .int .u8 0, .int .u8 0, .int .u8 0, .int .u8 0, .int .u8 0, .int .u8 0, .int .u8 0, .int .u8 0, .int .u8 0, .int .i64 0, .int .u64 0]
theorem z60_size : z60.size = 74 := by kernel_rfl
theorem run_alloc60 (w : World) : (Instr.alloc 60 true (.tuple #[])).run Tryd.prog w = .ok (.pointer (some ⟨w.heap.size, 0, none⟩)) (w.alloc (.cells z60 60)) := by kernel_rfl
theorem alloc60 {ops : Array Oper} {rest : List Oper} {op : Oper} {a : Act} {w : World} {Q : Exit → Act → World → Prop} (ho : op.op = .alloc 60) (hgd : Region.wanted op (yielded ops a.tmps) = true) (Z : Array Value) (hZ : Z = z60)
    (h : ∀ w', Mem.Blk w' w.heap.size 60 Z → Below w.heap.size w w' → w'.heap.size = w.heap.size + 1 → wpList Tryd.prog ops Q rest (a.put op.dst (.pointer (some ⟨w.heap.size, 0, none⟩))) w') : wpList Tryd.prog ops Q (op :: rest) a w :=
  BigFrame.wpList_want hgd fun _ hK => by
    subst hZ
    unfold Oper.wp execOp
    simp only [ho, Sem.run_bind, Sem.run_pure, run_alloc60, Result.andThen_ok]
    exact hK _ _ (h _ (Mem.Blk.new w 60 _) ((Below.refl _ _).alloc (Nat.le_refl _) _) (by simp))

/-- What a key does: the bytes ahead, those of the second turn. -/
def ipad (k : List ShM.B8) : List ShM.B8 := k.map (· ^^^ 0x36#8)
def opad (k : List ShM.B8) : List ShM.B8 := k.map (· ^^^ 0x5C#8)
def pre : Option (List ShM.B8) → List ShM.B8
  | none => []
  | some k => ipad k
/-- The digest of bytes, plain or with a key of 64 bytes. -/
def dig (K : Option (List ShM.B8)) (m : List ShM.B8) : List ShM.B8 := match K with
  | none => ShM.sum m
  | some k => ShM.sum (opad k ++ ShM.sum (ipad k ++ m))
/-- A digest in memory, and what was written to it. -/
def Dd (w : World) (g : Nat) (K : Option (List ShM.B8)) (m : List ShM.B8) : Prop := ∃ t f o, Dg w g t f o K.isSome ∧ Is t (pre K ++ m) ∧ Is f (pre K) ∧ ∀ k, K = some k → Is o (opad k)
theorem Dd.below {w w' : World} {g B : Nat} {K : Option (List ShM.B8)} {m : List ShM.B8} (h : Dd w g K m) (hb : Below B w w') (hg : g < B) : Dd w' g K m := by
  obtain ⟨t, f, o, h1, h2⟩ := h
  exact ⟨t, f, o, h1.below hb hg, h2⟩
theorem Dd.lt {w : World} {g : Nat} {K : Option (List ShM.B8)} {m : List ShM.B8} (h : Dd w g K m) : g < w.heap.size := by
  obtain ⟨t, f, o, h1, h2⟩ := h
  exact h1.lt
theorem bytes_vals (l : List ShM.B8) (h : l.length = 32) : (b32 l).toList = vals l := by
  apply List.ext_getElem?
  intro i
  rw [Array.getElem?_toList]
  by_cases hi : i < 32
  · rw [b32_at l i hi]
    simp [vals, List.getD_eq_getElem?_getD, show i < l.length by omega]
  · rw [Array.getElem?_eq_none (by rw [b32_size]; omega), List.getElem?_eq_none (by rw [vals_length]; omega)]
theorem sum_len (m : List ShM.B8) : (ShM.sum m).length = 32 := bytes_len _
/-- A sum in memory is a row of bytes. -/
theorem sumSr {w : World} {g q : Nat} {l : List ShM.B8} (hl : l.length = 32) (h : Mem.Blk w q 28 (b32 l)) (hne : q ≠ g) : Sr w g (some ⟨q, 0, none⟩) l := by
  refine ⟨⟨by rw [hl]; simp [maxLen], fun i hi => ⟨q, 0, rfl, ?_⟩⟩, fun x _ e => ?_⟩
  · rw [Nat.zero_add, h.cell i, b32_at l i (by omega)]
  · injection e with e
    subst e
    exact ⟨h.lt, hne⟩

set_option maxRecDepth 100000 in
theorem sumPlain (g : Nat) (m : List ShM.B8) (w : World) (hl : Laid w) (h : Dd w g none m) : Calls Tryd.prog 17 #[.pointer (some ⟨g, 0, none⟩)] w fun e w' => e = .returned (.agg (b32 (dig none m))) ∧ Below w.heap.size w w' := by
  obtain ⟨t, f, o, hd, ht, _, ho⟩ := h
  obtain ⟨TV, hTV⟩ : ∃ TV, TV = (bkl t).toArray := ⟨_, rfl⟩
  obtain ⟨OV, hOV⟩ : ∃ OV, OV = (bkl o).toArray := ⟨_, rfl⟩
  obtain ⟨Z, hZ⟩ : ∃ Z, Z = z28 := ⟨_, rfl⟩
  obtain ⟨Z6, hZ6⟩ : ∃ Z6, Z6 = z60 := ⟨_, rfl⟩
  have hw2 := Laid.two hl
  have hgl := hd.lt
  have HLD : Hid (∀ w', Below w.heap.size w w' → Laid w') := Lib.hid fun w' hb => hl.below hb
  have HE1 : Hid (∀ w', Below w.heap.size w w' → Calls Tryd.prog 27 #[.agg TV] w' fun e w'' => e = .returned (.agg (b32 (ShM.sum (pre none ++ m)))) ∧ Below w'.heap.size w' w'') := Lib.hid fun w' hb => by rw [hTV]; exact endW t _ w' (hl.below hb) ht
  have HT : Hid (∀ w', Below w.heap.size w w' → w'.rangeAt g 0 TV.toList) := Lib.hid fun w' hb => by rw [hTV]; exact range_below hd.b hb hd.lt
  have HO : Hid (∀ w', Below w.heap.size w w' → w'.rangeAt g 148 OV.toList) := Lib.hid fun w' hb => by rw [hOV]; exact range_below hd.outer hb hd.lt
  have HC : Hid (∀ w', Below w.heap.size w w' → w'.cell? ⟨g, 222, none⟩ = some (.bool false)) := Lib.hid fun w' hb => (hb.cell (p := ⟨g, 222, none⟩) hd.lt).trans hd.keyed
  have iT : Hid ((Tryd.prog.info? 60).map (·.size) = some TV.size) := Lib.hid (by rw [hTV, List.size_toArray, bkl_len]; exact i60)
  have iO : Hid ((Tryd.prog.info? 60).map (·.size) = some OV.size) := Lib.hid (by rw [hOV, List.size_toArray, bkl_len]; exact i60)
  have oO : Hid (OV.all (·.oneCell') = true) := Lib.hid (by rw [hOV]; exact all_oneCell_toArray (bkl_one o))
  have sO : Hid (Z6.size = OV.size) := Lib.hid (by rw [hZ6, hOV, z60_size, List.size_toArray, bkl_len])
  obtain ⟨SV, hSV⟩ : ∃ SV, SV = b32 (ShM.sum (pre none ++ m)) := ⟨_, rfl⟩
  rw [← hSV] at HE1
  have iS : Hid ((Tryd.prog.info? 28).map (·.size) = some SV.size) := Lib.hid (by rw [hSV, b32_size]; exact i28')
  have oS : Hid (SV.all (·.oneCell') = true) := Lib.hid (by rw [hSV]; exact b32_one _)
  have sS : Hid (Z.size = SV.size) := Lib.hid (by rw [hZ, hSV, z28_size, b32_size])
  replace hTV := Lib.hid hTV
  replace hOV := Lib.hid hOV
  replace hZ := Lib.hid hZ
  replace hZ6 := Lib.hid hZ6
  replace hSV := Lib.hid hSV
  have HG : Hid (g < w.heap.size) := Lib.hid hgl
  clear hl hd
  go_enter Tryd.func17, Tryd.ntmps17
  go_wp2_with (first
    | ((with_reducible show wpList _ _ _ (Oper.mk (some 2) (Op.alloc 28) _ _ _ _ :: _) _ _); refine ShL.alloc28 rfl rfl Z hZ.out ?_; intro w1 hB1 hb1 hn1)
    | ((with_reducible show wpList _ _ _ (Oper.mk _ (Op.load 60 (.tmp 7)) _ _ _ _ :: _) _ _); refine Mem.loadMid 60 (.tmp 7) rfl g 0 rfl TV (HT.out _ hb1) _ Tryd.underlying60 rfl iT.out rfl ?_))
  refine (HE1.out _ hb1).mono ?_
  rintro e w2 ⟨rfl, b2⟩
  have D2 := Lib.hid (hb1.trans (b2.mono hb1.size))
  have B2 := Lib.hid (hB1.below b2 hB1.lt)
  clear hB1 b2 hb1
  have hn2 : Hid (w.heap.size < w2.heap.size) := Lib.hid B2.out.lt
  go_wp2_with (first
    | ((with_reducible show wpList _ _ _ (Oper.mk (some 3) (Op.alloc 28) _ _ _ _ :: _) _ _); refine ShL.alloc28 rfl rfl Z hZ.out ?_; intro w3 hB3 hb3 hn3)
    | ((with_reducible show wpList _ _ _ (Oper.mk _ (Op.store 28 (.tmp 3) (.tmp 9)) _ _ _ _ :: _) _ _); refine Mem.storeBlk 28 (.tmp 3) (.tmp 9) rfl w2.heap.size rfl Z SV rfl 28 hB3 iS.out sS.out oS.out w2.heap.size w2 hb3 (Nat.le_refl _) rfl ?_; intro w4 hB4 hb4
       have D4 := Lib.hid (D2.out.trans (hb4.mono D2.out.size))
       have B4 := Lib.hid (B2.out.below hb4 B2.out.lt)
       have c222 := HC.out _ D4.out)
    | ((with_reducible show wpList _ _ _ (Oper.mk _ (Op.load 28 (.tmp 3)) _ _ _ _ :: _) _ _); refine Mem.loadBlk 28 (.tmp 3) rfl w2.heap.size rfl SV 28 hB4 _ Tryd.underlying28 rfl iS.out rfl ?_)
    | ((with_reducible show wpList _ _ _ (Oper.mk _ (Op.store 28 (.tmp 2) (.tmp 15)) _ _ _ _ :: _) _ _); refine Mem.storeBlk 28 (.tmp 2) (.tmp 15) rfl w.heap.size rfl Z SV rfl 28 B4.out iS.out sS.out oS.out w.heap.size w D4.out (Nat.le_refl _) rfl ?_; intro w9 hB9 hb9))
  exact bodyPost_ret (results_cell_row Tryd.results17 _ _ w.heap.size 28 _ (0, 0) _ rfl hB9 Tryd.underlying28 rfl iS.out) rfl ⟨by rw [hSV.out]; rfl, hb9⟩
set_option maxRecDepth 100000 in
theorem sumKeyed (g : Nat) (k m : List ShM.B8) (w : World) (hl : Laid w) (h : Dd w g (some k) m) : Calls Tryd.prog 17 #[.pointer (some ⟨g, 0, none⟩)] w fun e w' => e = .returned (.agg (b32 (dig (some k) m))) ∧ Below w.heap.size w w' := by
  obtain ⟨t, f, o, hd, ht, _, ho⟩ := h
  obtain ⟨TV, hTV⟩ : ∃ TV, TV = (bkl t).toArray := ⟨_, rfl⟩
  obtain ⟨OV, hOV⟩ : ∃ OV, OV = (bkl o).toArray := ⟨_, rfl⟩
  obtain ⟨Z, hZ⟩ : ∃ Z, Z = z28 := ⟨_, rfl⟩
  obtain ⟨Z6, hZ6⟩ : ∃ Z6, Z6 = z60 := ⟨_, rfl⟩
  have hw2 := Laid.two hl
  have hgl := hd.lt
  have HLD : Hid (∀ w', Below w.heap.size w w' → Laid w') := Lib.hid fun w' hb => hl.below hb
  have HE1 : Hid (∀ w', Below w.heap.size w w' → Calls Tryd.prog 27 #[.agg TV] w' fun e w'' => e = .returned (.agg (b32 (ShM.sum (pre (some k) ++ m)))) ∧ Below w'.heap.size w' w'') := Lib.hid fun w' hb => by rw [hTV]; exact endW t _ w' (hl.below hb) ht
  have HT : Hid (∀ w', Below w.heap.size w w' → w'.rangeAt g 0 TV.toList) := Lib.hid fun w' hb => by rw [hTV]; exact range_below hd.b hb hd.lt
  have HO : Hid (∀ w', Below w.heap.size w w' → w'.rangeAt g 148 OV.toList) := Lib.hid fun w' hb => by rw [hOV]; exact range_below hd.outer hb hd.lt
  have HC : Hid (∀ w', Below w.heap.size w w' → w'.cell? ⟨g, 222, none⟩ = some (.bool true)) := Lib.hid fun w' hb => (hb.cell (p := ⟨g, 222, none⟩) hd.lt).trans hd.keyed
  have iT : Hid ((Tryd.prog.info? 60).map (·.size) = some TV.size) := Lib.hid (by rw [hTV, List.size_toArray, bkl_len]; exact i60)
  have iO : Hid ((Tryd.prog.info? 60).map (·.size) = some OV.size) := Lib.hid (by rw [hOV, List.size_toArray, bkl_len]; exact i60)
  have oO : Hid (OV.all (·.oneCell') = true) := Lib.hid (by rw [hOV]; exact all_oneCell_toArray (bkl_one o))
  have sO : Hid (Z6.size = OV.size) := Lib.hid (by rw [hZ6, hOV, z60_size, List.size_toArray, bkl_len])
  obtain ⟨SV, hSV⟩ : ∃ SV, SV = b32 (ShM.sum (pre (some k) ++ m)) := ⟨_, rfl⟩
  rw [← hSV] at HE1
  have iS : Hid ((Tryd.prog.info? 28).map (·.size) = some SV.size) := Lib.hid (by rw [hSV, b32_size]; exact i28')
  have oS : Hid (SV.all (·.oneCell') = true) := Lib.hid (by rw [hSV]; exact b32_one _)
  have sS : Hid (Z.size = SV.size) := Lib.hid (by rw [hZ, hSV, z28_size, b32_size])
  replace hTV := Lib.hid hTV
  replace hOV := Lib.hid hOV
  replace hZ := Lib.hid hZ
  replace hZ6 := Lib.hid hZ6
  replace hSV := Lib.hid hSV
  have HG : Hid (g < w.heap.size) := Lib.hid hgl
  clear hl hd
  go_enter Tryd.func17, Tryd.ntmps17
  go_wp2_with (first
    | ((with_reducible show wpList _ _ _ (Oper.mk (some 2) (Op.alloc 28) _ _ _ _ :: _) _ _); refine ShL.alloc28 rfl rfl Z hZ.out ?_; intro w1 hB1 hb1 hn1)
    | ((with_reducible show wpList _ _ _ (Oper.mk _ (Op.load 60 (.tmp 7)) _ _ _ _ :: _) _ _); refine Mem.loadMid 60 (.tmp 7) rfl g 0 rfl TV (HT.out _ hb1) _ Tryd.underlying60 rfl iT.out rfl ?_))
  refine (HE1.out _ hb1).mono ?_
  rintro e w2 ⟨rfl, b2⟩
  have D2 := Lib.hid (hb1.trans (b2.mono hb1.size))
  have B2 := Lib.hid (hB1.below b2 hB1.lt)
  clear hB1 b2 hb1
  have hn2 : Hid (w.heap.size < w2.heap.size) := Lib.hid B2.out.lt
  go_wp2_with (first
    | ((with_reducible show wpList _ _ _ (Oper.mk (some 3) (Op.alloc 28) _ _ _ _ :: _) _ _); refine ShL.alloc28 rfl rfl Z hZ.out ?_; intro w3 hB3 hb3 hn3)
    | ((with_reducible show wpList _ _ _ (Oper.mk _ (Op.store 28 (.tmp 3) (.tmp 9)) _ _ _ _ :: _) _ _); refine Mem.storeBlk 28 (.tmp 3) (.tmp 9) rfl w2.heap.size rfl Z SV rfl 28 hB3 iS.out sS.out oS.out w2.heap.size w2 hb3 (Nat.le_refl _) rfl ?_; intro w4 hB4 hb4
       have D4 := Lib.hid (D2.out.trans (hb4.mono D2.out.size))
       have B4 := Lib.hid (B2.out.below hb4 B2.out.lt)
       have c222 := HC.out _ D4.out)
    | ((with_reducible show wpList _ _ _ (Oper.mk _ (Op.load 60 (.tmp 18)) _ _ _ _ :: _) _ _); refine Mem.loadMid 60 (.tmp 18) rfl g 148 rfl OV (HO.out _ D4.out) _ Tryd.underlying60 rfl iO.out rfl ?_)
    | ((with_reducible show wpList _ _ _ (Oper.mk (some 4) (Op.alloc 60) _ _ _ _ :: _) _ _); refine ShL.alloc60 rfl rfl Z6 hZ6.out ?_; intro w5 hB5 hb5 hn5)
    | ((with_reducible show wpList _ _ _ (Oper.mk _ (Op.store 60 (.tmp 4) (.tmp 19)) _ _ _ _ :: _) _ _); refine Mem.storeBlk 60 (.tmp 4) (.tmp 19) rfl w4.heap.size rfl Z6 OV rfl 60 hB5 iO.out sO.out oO.out w4.heap.size w4 hb5 (Nat.le_refl _) rfl ?_; intro w6 hB6 hb6))
  have D6 := Lib.hid (D4.out.trans (hb6.mono D4.out.size))
  have K6 : Hid (Bk w6 w4.heap.size o) := Lib.hid (by
    refine Bk_of hB6.lt ?_ ?_
    · have := hB6.range
      rw [hOV.out] at this
      exact this
    · exact hB6.there 74 (by rw [hOV.out, List.size_toArray, bkl_len]; exact Nat.le_refl _))
  have hlt24 : Hid (w2.heap.size < w4.heap.size) := Lib.hid hB4.lt
  have S6 : Hid (Sr w6 w4.heap.size (some ⟨w2.heap.size, 0, none⟩) (ShM.sum (ipad k ++ m))) := Lib.hid (by
    have hB6' := hB4.below hb6 hlt24.out
    rw [hSV.out] at hB6'
    exact sumSr (sum_len _) hB6' (by have := hlt24.out; omega))
  have B6 := Lib.hid (B4.out.below hb6 (by have := hn2.out; have := hlt24.out; omega))
  refine (addW w4.heap.size o (opad k) (ShM.sum (ipad k ++ m)) _ 32 32 w6 (HLD.out _ D6.out) (by have := hn2.out; have := hlt24.out; omega) K6.out (ho k rfl) (sum_len _) S6.out (Nat.le_refl _) (by simp [maxLen])).mono ?_
  rintro e w7 ⟨rfl, ⟨t', hi', hk'⟩, hu'⟩
  obtain ⟨TV2, hTV2⟩ : ∃ TV2, TV2 = (bkl t').toArray := ⟨_, rfl⟩
  have hlt46 : w4.heap.size < w6.heap.size := hB6.lt
  have B7 := Lib.hid (B6.out.up hu' (by have := hn2.out; have := hlt24.out; omega))
  have D7 := Lib.hid (Below.up D6.out hu' (by have := hn2.out; have := hlt24.out; omega) (by have := hn2.out; have := hlt24.out; omega))
  have R7 : Hid (w7.rangeAt w4.heap.size 0 TV2.toList) := Lib.hid (by rw [hTV2]; exact Bk_range hk')
  have i7 : Hid ((Tryd.prog.info? 60).map (·.size) = some TV2.size) := Lib.hid (by rw [hTV2, List.size_toArray, bkl_len]; exact i60)
  have HE7 : Hid (Calls Tryd.prog 27 #[.agg TV2] w7 fun e w'' => e = .returned (.agg (b32 (ShM.sum (opad k ++ ShM.sum (ipad k ++ m))))) ∧ Below w7.heap.size w7 w'') := Lib.hid (by rw [hTV2]; exact endW t' _ w7 (HLD.out _ D7.out) hi')
  clear hk' hu' hi' hTV2 hB4 hB6 hb6 hb4 hB5 hb5 hB3 hb3
  go_wp2_with ((with_reducible show wpList _ _ _ (Oper.mk _ (Op.load 60 (.tmp 4)) _ _ _ _ :: _) _ _); refine Mem.loadMid 60 (.tmp 4) rfl w4.heap.size 0 rfl TV2 R7.out _ Tryd.underlying60 rfl i7.out rfl ?_)
  refine HE7.out.mono ?_
  rintro e w8 ⟨rfl, b8⟩
  have D8 := Lib.hid (D7.out.trans (b8.mono D7.out.size))
  have B8 := Lib.hid (B7.out.below b8 B7.out.lt)
  obtain ⟨RV, hRV⟩ : ∃ RV, RV = b32 (ShM.sum (opad k ++ ShM.sum (ipad k ++ m))) := ⟨_, rfl⟩
  rw [← hRV]
  have iR : Hid ((Tryd.prog.info? 28).map (·.size) = some RV.size) := Lib.hid (by rw [hRV, b32_size]; exact i28')
  have oR : Hid (RV.all (·.oneCell') = true) := Lib.hid (by rw [hRV]; exact b32_one _)
  have sR : Hid (Z.size = RV.size) := Lib.hid (by rw [hZ.out, hRV, z28_size, b32_size])
  have hRV2 : Hid (RV = b32 (dig (some k) m)) := Lib.hid hRV
  clear b8 hRV
  go_wp2_with ((with_reducible show wpList _ _ _ (Oper.mk _ (Op.store 28 (.tmp 2) (.tmp 23)) _ _ _ _ :: _) _ _); refine Mem.storeBlk 28 (.tmp 2) (.tmp 23) rfl w.heap.size rfl Z RV rfl 28 B8.out iR.out sR.out oR.out w.heap.size w D8.out (Nat.le_refl _) rfl ?_; intro w9 hB9 hb9)
  exact bodyPost_ret (results_cell_row Tryd.results17 _ _ w.heap.size 28 _ (0, 0) _ rfl hB9 Tryd.underlying28 rfl iR.out) rfl ⟨by rw [hRV2.out], hb9⟩
theorem sumW (g : Nat) (K : Option (List ShM.B8)) (m : List ShM.B8) (w : World) (hl : Laid w) (h : Dd w g K m) : Calls Tryd.prog 17 #[.pointer (some ⟨g, 0, none⟩)] w fun e w' => e = .returned (.agg (b32 (dig K m))) ∧ Below w.heap.size w w' := by
  cases K with
  | none => exact sumPlain g m w hl h
  | some k => exact sumKeyed g k m w hl h
/-- What was written to a digest is forgotten. -/
theorem resetDd (g : Nat) (K : Option (List ShM.B8)) (m : List ShM.B8) (w : World) (h : Dd w g K m) : Calls Tryd.prog 15 #[.pointer (some ⟨g, 0, none⟩)] w fun e w' => e = .returned (.tuple #[]) ∧ Dd w' g K [] ∧ w.grownBy w' (some g) := by
  obtain ⟨t, f, o, hd, ht, hf, ho⟩ := h
  refine (resetW g t f o _ w hd).mono ?_
  rintro e w' ⟨rfl, h1, h2⟩
  exact ⟨rfl, ⟨f, f, o, h1, by rw [List.append_nil]; exact hf, hf, ho⟩, h2⟩
/-- Bytes are written to a digest. -/
theorem addDd (g : Nat) (K : Option (List ShM.B8)) (m l : List ShM.B8) (a : Option Addr) (n c : Nat) (w : World) (hl : Laid w) (hg : 2 ≤ g) (h : Dd w g K m) (hn : l.length = n) (hs : Sr w g a l) (hnc : n ≤ c) (hcm : c ≤ maxLen) :
    Calls Tryd.prog 25 #[.pointer (some ⟨g, 0, none⟩), .slice a n c] w fun e w' => e = .returned (.tuple #[]) ∧ Dd w' g K (m ++ l) ∧ w.grownBy w' (some g) := by
  obtain ⟨t, f, o, hd, ht, hf, ho⟩ := h
  refine (addW g t _ l a n c w hl hg hd.bk ht hn hs hnc hcm).mono ?_
  rintro e w' ⟨rfl, ⟨t', h1, h2⟩, h3⟩
  exact ⟨rfl, ⟨t', f, o, hd.front h2 h3, by rw [← List.append_assoc]; exact h1, hf, ho⟩, h3.gb⟩
end Go.Proofs.YtlfohiejlajmaaaDoor.ShL
