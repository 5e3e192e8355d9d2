/- Digests: of the parts behind one another; a new one; what is written. -/
import Derived.Test.YtlfohiejlajmaaaDoorShL
namespace Go.Proofs.YtlfohiejlajmaaaDoor.ShN
open Go.ChangeShapes Go.WideShapes Go.ChangeAt Go.RowKit
open ShM ShA ShB ShC ShD ShE ShF ShG ShH ShI ShJ ShK ShL Mem
open ShT (Rd vals vals_length vals_one)
set_option linter.unusedVariables false
set_option maxHeartbeats 2000000

/-- A slice of bytes that came in. -/
def One (w : World) (v : Value) (x : List ShM.B8) : Prop := ∃ a c, v = .slice a x.length c ∧ Rd w a x ∧ x.length ≤ c ∧ c ≤ maxLen ∧ ∀ y, 0 < x.length → a = some y → y.block < w.heap.size
theorem One.below {w w' : World} {v : Value} {x : List ShM.B8} (h : One w v x) (hb : Below w.heap.size w w') : One w' v x := by
  obtain ⟨a, c, e, hr, h1, h2, hl⟩ := h
  exact ⟨a, c, e, ShT.Rd.below hr hb hl, h1, h2, fun y h0 e => Nat.lt_of_lt_of_le (hl y h0 e) hb.size⟩
/-- Rows of bytes that came in. -/
def Arg (w : World) (a : Option Addr) (l : List (List ShM.B8)) : Prop :=
  ∀ i, i < l.length → ∃ b off u, a = some ⟨b, off, none⟩ ∧ w.cell? ⟨b, off + i, none⟩ = some u ∧ b < w.heap.size ∧ One w u (l.getD i [])
theorem Arg.below {w w' : World} {a : Option Addr} {l : List (List ShM.B8)} (h : Arg w a l) (hb : Below w.heap.size w w') : Arg w' a l := fun i hi => by
  obtain ⟨b, off, u, e, hc, hl, hu⟩ := h i hi
  exact ⟨b, off, u, e, (hb.cell (p := ⟨b, off + i, none⟩) hl).trans hc, Nat.lt_of_lt_of_le hl hb.size, hu.below hb⟩
theorem Arg.one {w : World} {g : Nat} {t : TypeId} {u : Value} {x : List ShM.B8} (hB : Mem.Blk w g t #[u]) (h : One w u x) : Arg w (some ⟨g, 0, none⟩) [x] := fun i hi => by
  have : i = 0 := by simp at hi; omega
  subst this
  exact ⟨g, 0, u, rfl, hB.cell 0, hB.lt, h⟩
theorem Below.gb {B : Nat} {w0 w w' : World} {g : Nat} (h : Below B w0 w) (hu : w.grownBy w' (some g)) (hB : B ≤ g) (hs : B ≤ w.heap.size) : Below B w0 w' :=
  ⟨hu.os.trans h.os, hu.tape.trans h.tape, hu.output.trans h.output, Nat.le_trans h.size hu.size, fun q hq => (hu.block q (by omega) (by intro e; injection e; omega)).trans (h.block q hq)⟩
theorem Blk.gb {w w' : World} {g q : Nat} {t : TypeId} {cs : Array Value} (h : Mem.Blk w q t cs) (hu : w.grownBy w' (some g)) (hq : q ≠ g) : Mem.Blk w' q t cs :=
  (hu.block q h.lt (by intro e; injection e with e; exact hq e)).trans h
theorem part_mid {w : World} {g : Nat} (A B C : List Value) (h : w.rangeAt g 0 (A ++ (B ++ C))) : w.rangeAt g A.length B := fun j v hj => by
  have := h (A.length + j) v (by
    have hl := (List.getElem?_eq_some_iff.1 hj).1
    rw [List.getElem?_append_right (by omega), show A.length + j - A.length = j by omega, List.getElem?_append_left hl]; exact hj)
  rwa [Nat.zero_add] at this
/-- A digest from its row of cells. -/
theorem Dg_of {w : World} {g : Nat} {t f o : St} {kd : Bool} (hl : g < w.heap.size) (hr : w.rangeAt g 0 (bkl t ++ (bkl f ++ (bkl o ++ [Value.bool kd])))) (ht : w.there g 0 223) : Dg w g t f o kd := by
  refine ⟨hl, ?_, ?_, ?_, ?_, ht⟩
  · exact fun j v hj => hr j v (by rw [List.getElem?_append_left (List.getElem?_eq_some_iff.1 hj).1]; exact hj)
  · have := part_mid (bkl t) (bkl f) _ hr
    rwa [bkl_len] at this
  · rw [← List.append_assoc] at hr
    have := part_mid (bkl t ++ bkl f) (bkl o) _ hr
    rwa [List.length_append, bkl_len, bkl_len] at this
  · have := hr 222 (.bool kd) (by
      rw [List.getElem?_append_right (by rw [bkl_len]; omega), bkl_len, List.getElem?_append_right (by rw [bkl_len]; omega), bkl_len, List.getElem?_append_right (by rw [bkl_len]; omega), bkl_len]
      rfl)
    rwa [Nat.zero_add] at this
/-- A new digest. -/
theorem newDd (w : World) (hl : Laid w) : Calls Tryd.prog 13 #[] w fun e w' => ∃ g, w.heap.size ≤ g ∧ e = .returned (.pointer (some ⟨g, 0, none⟩)) ∧ Dd w' g none [] ∧ Below w.heap.size w w' := by
  refine (newW w hl).mono ?_
  rintro e w' ⟨g, hg, rfl, hB, hb⟩
  refine ⟨g, hg, rfl, ⟨fresh0, fresh0, ⟨ShM.S8.mk 0 0 0 0 0 0 0 0, List.replicate 64 0, 0, 0⟩, ?_, fresh_is, fresh_is, fun k hk => by cases hk⟩, hb⟩
  have hr := hB.range
  have hz : zb = bkl ⟨ShM.S8.mk 0 0 0 0 0 0 0 0, List.replicate 64 0, 0, 0⟩ := by kernel_rfl
  have hs : newV.toList = bkl fresh0 ++ (bkl fresh0 ++ (bkl ⟨ShM.S8.mk 0 0 0 0 0 0 0 0, List.replicate 64 0, 0, 0⟩ ++ [Value.bool false])) := by
    unfold newV
    rw [fresh_cells, hz]
  rw [hs] at hr
  exact Dg_of hB.lt hr (hB.there 223 (Nat.le_of_eq (by kernel_rfl)))

set_option maxRecDepth 100000 in
theorem writeDd (g : Nat) (K : Option (List ShM.B8)) (m l : List ShM.B8) (a : Option Addr) (n c : Nat) (w : World) (hl : Laid w) (hg : 2 ≤ g) (h : Dd w g K m) (hn : l.length = n) (hs : Sr w g a l) (hnc : n ≤ c) (hcm : c ≤ maxLen) :
    Calls Tryd.prog 16 #[.pointer (some ⟨g, 0, none⟩), .slice a n c] w fun e w' => e = .returned (.tuple #[.int .i64 (n : Int), .nilIface]) ∧ Dd w' g K (m ++ l) ∧ w.grownBy w' (some g) := by
  have HA := Lib.hid (addDd g K m l a n c w hl hg h hn hs hnc hcm)
  clear hl hg h hn hs hnc hcm
  go_enter Tryd.func16, Tryd.ntmps16
  go_wp2_with fail
  refine HA.out.mono ?_
  rintro e w' ⟨rfl, h1, h2⟩
  have H1 := Lib.hid h1
  have H2 := Lib.hid h2
  clear h1 h2
  go_wp2_with fail
  go_ret2
  exact ⟨rfl, H1.out, H2.out⟩

set_option maxRecDepth 100000 in
theorem allW (g : Nat) (K : Option (List ShM.B8)) (m : List ShM.B8) (l : List (List ShM.B8)) (a : Option Addr) (n c : Nat) (w0 w : World) (hl : Laid w0) (hb : Below w0.heap.size w0 w) (hg : w0.heap.size ≤ g) (h : Dd w g K m) (hn : l.length = n) (ha : Arg w0 a l) (hmax : n ≤ 1000000) :
    Calls Tryd.prog 19 #[.pointer (some ⟨g, 0, none⟩), .slice a n c] w fun e w' => e = .returned (.agg (b32 (dig K (m ++ l.flatten)))) ∧ Below w0.heap.size w0 w' := by
  obtain ⟨Z, hZ⟩ : ∃ Z, Z = z28 := ⟨_, rfl⟩
  have hgl := h.lt
  have hw2 := Laid.two hl
  have HD : Hid (∀ w', Below w.heap.size w w' → Dd w' g K m) := Lib.hid fun w' hb => h.below hb hgl
  have HB := Lib.hid hb
  have HLD : Hid (∀ w', Below w0.heap.size w0 w' → Laid w') := Lib.hid fun w' hb => hl.below hb
  have HSM : Hid (∀ M w', Below w0.heap.size w0 w' → Dd w' g K M → Calls Tryd.prog 17 #[.pointer (some ⟨g, 0, none⟩)] w' fun e w'' => e = .returned (.agg (b32 (dig K M))) ∧ Below w'.heap.size w' w'') := Lib.hid fun M w' hb hd => sumW g K M w' (hl.below hb) hd
  have HAR : Hid (∀ i w', i < n → Below w0.heap.size w0 w' → ∃ b off ax nx cx, a = some ⟨b, off, none⟩ ∧ w'.cell? ⟨b, off + i, none⟩ = some (.slice ax nx cx) ∧ ∀ M, Dd w' g K M → Calls Tryd.prog 25 #[.pointer (some ⟨g, 0, none⟩), .slice ax nx cx] w' fun e w'' => e = .returned (.tuple #[]) ∧ Dd w'' g K (M ++ l.getD i []) ∧ w'.grownBy w'' (some g)) := Lib.hid fun i w' hi hb => by
    obtain ⟨b, off, u, e, hc, hl', ax, cx, rfl, hr, h1, h2, h3⟩ := ha i (by omega)
    refine ⟨b, off, ax, _, cx, e, (hb.cell (p := ⟨b, off + i, none⟩) hl').trans hc, fun M hd => ?_⟩
    exact addDd g K M (l.getD i []) ax _ cx w' (hl.below hb) (by omega) hd rfl ⟨ShT.Rd.below hr hb h3, fun x h0 e => ⟨by have := h3 x h0 e; have := hb.size; omega, by have := h3 x h0 e; omega⟩⟩ h1 h2
  have HTS : Hid (∀ i, i < n → (m ++ (l.take i).flatten) ++ l.getD i [] = m ++ (l.take (i + 1)).flatten) := Lib.hid fun i hi => by
    rw [List.take_add_one, List.flatten_append, List.append_assoc]
    congr 2
    simp [List.getD, show i < l.length by omega]
  have HTN : Hid (m ++ (l.take n).flatten = m ++ l.flatten) := Lib.hid (by rw [← hn, List.take_length])
  have hG : Hid (g < w.heap.size) := Lib.hid hgl
  have hG0 : Hid (w0.heap.size ≤ g) := Lib.hid hg
  replace hZ := Lib.hid hZ
  clear hl h ha hb hgl hg
  go_enter Tryd.func19, Tryd.ntmps19
  go_wp2_with ((with_reducible show wpList _ _ _ (Oper.mk (some 4) (Op.alloc 28) _ _ _ _ :: _) _ _); refine ShL.alloc28 rfl rfl Z hZ.out ?_; intro w1 hB1 hb1 hn1)
  have D1 : Hid (Below w0.heap.size w0 w1) := Lib.hid (HB.out.trans (hb1.mono HB.out.size))
  have C1 : Hid (Dd w1 g K (m ++ (l.take 0).flatten)) := Lib.hid (by rw [List.take_zero, List.flatten_nil, List.append_nil]; exact HD.out _ hb1)
  have Z1 := Lib.hid hB1
  clear hB1 hb1 hn1
  go_loopw [6, 9] (fun _ v wr => ∃ i : Nat, i ≤ n ∧ v = .int .i64 (i : Int) ∧ Dd wr g K (m ++ (l.take i).flatten) ∧ Mem.Blk wr w.heap.size 28 Z ∧ Below w0.heap.size w0 wr) (fun _ v _ => n - (intOf v).toNat)
  case atStart => exact ⟨0, by omega, rfl, C1.out, Z1.out, D1.out⟩
  case round =>
    clear C1 Z1 D1
    obtain ⟨i, hi, rfl, hC, hZB, hD⟩ := hrel
    by_cases hlt : i < n
    · have hlt' : (i : Int) < (n : Int) := by omega
      obtain ⟨b, off, ax, nx, cx, rfl, hcell, hcall⟩ := HAR.out i wr hlt hD
      have HC := Lib.hid (hcall _ hC)
      have hts := Lib.hid (HTS.out i hlt)
      have ZB := Lib.hid hZB
      have DB := Lib.hid hD
      clear hcall hC hZB hD
      go_wp2_with fail
      refine HC.out.mono ?_
      rintro e w2 ⟨rfl, hd2, hg2⟩
      have C2 : Hid (Dd w2 g K (m ++ (l.take (i + 1)).flatten)) := Lib.hid (by rw [← hts.out]; exact hd2)
      have Z2 := Lib.hid (Blk.gb ZB.out hg2 (by have := hG.out; omega))
      have D2 := Lib.hid (Below.gb DB.out hg2 hG0.out DB.out.size)
      clear hd2 hg2
      go_wp2_with fail
      go_roundw
      case rel => exact ⟨i + 1, by omega, by go_num, C2.out, Z2.out, D2.out⟩
      case measure => simp [intOf]; omega
    · obtain rfl : n = i := by omega
      have hlt' : ¬ (n : Int) < (n : Int) := by omega
      have HC := Lib.hid (HSM.out _ wr hD hC)
      have ZB := Lib.hid hZB
      have DB := Lib.hid hD
      clear hC hZB hD
      go_wp2_with fail
      refine HC.out.mono ?_
      rintro e w2 ⟨rfl, hb2⟩
      obtain ⟨RV, hRV⟩ : ∃ RV, RV = b32 (dig K (m ++ (l.take n).flatten)) := ⟨_, rfl⟩
      rw [← hRV]
      have D2 := Lib.hid (DB.out.trans (hb2.mono DB.out.size))
      have Z2 := Lib.hid (ZB.out.below hb2 ZB.out.lt)
      have iR : Hid ((Tryd.prog.info? 28).map (·.size) = some RV.size) := Lib.hid (by rw [hRV, b32_size]; exact i28')
      have oR : Hid (RV.all (·.oneCell') = true) := Lib.hid (by rw [hRV]; exact b32_one _)
      have sR : Hid (Z.size = RV.size) := Lib.hid (by rw [hZ.out, hRV, z28_size, b32_size])
      have hRV2 : Hid (RV = b32 (dig K (m ++ l.flatten))) := Lib.hid (by rw [hRV, HTN.out])
      clear hb2 hRV
      go_wp2_with ((with_reducible show wpList _ _ _ (Oper.mk _ (Op.store 28 (.tmp 4) (.tmp 20)) _ _ _ _ :: _) _ _); refine Mem.storeBlk 28 (.tmp 4) (.tmp 20) rfl w.heap.size rfl Z RV rfl 28 Z2.out iR.out sR.out oR.out w0.heap.size w0 D2.out (by have := hG.out; have := hG0.out; omega) rfl ?_; intro w9 hB9 hb9)
      exact bodyPost_ret (results_cell_row Tryd.results19 _ _ w.heap.size 28 _ (0, 0) _ rfl hB9 Tryd.underlying28 rfl iR.out) rfl ⟨by rw [hRV2.out], hb9⟩

set_option maxRecDepth 100000 in
theorem ofW (l : List (List ShM.B8)) (a : Option Addr) (n c : Nat) (w : World) (hl : Laid w) (hn : l.length = n) (ha : Arg w a l) (hmax : n ≤ 1000000) :
    Calls Tryd.prog 9 #[.slice a n c] w fun e w' => e = .returned (.agg (b32 (ShM.sum l.flatten))) ∧ Below w.heap.size w w' := by
  obtain ⟨Z, hZ⟩ : ∃ Z, Z = z28 := ⟨_, rfl⟩
  have HN : Hid (∀ w', Below w.heap.size w w' → Calls Tryd.prog 13 #[] w' fun e w'' => ∃ g, w'.heap.size ≤ g ∧ e = .returned (.pointer (some ⟨g, 0, none⟩)) ∧ Dd w'' g none [] ∧ Below w'.heap.size w' w'') := Lib.hid fun w' hb => newDd w' (hl.below hb)
  have HA : Hid (∀ g w' w1, Below w.heap.size w w1 → Below w1.heap.size w1 w' → w1.heap.size ≤ g → Dd w' g none [] → Calls Tryd.prog 19 #[.pointer (some ⟨g, 0, none⟩), .slice a n c] w' fun e w'' => e = .returned (.agg (b32 (ShM.sum l.flatten))) ∧ Below w1.heap.size w1 w'') := Lib.hid fun g w' w1 hb1 hb hg hd => allW g none [] l a n c w1 w' (hl.below hb1) hb hg hd hn (ha.below hb1) hmax
  replace hZ := Lib.hid hZ
  clear hl hn ha
  go_enter Tryd.func9, Tryd.ntmps9
  go_wp2_with ((with_reducible show wpList _ _ _ (Oper.mk (some 2) (Op.alloc 28) _ _ _ _ :: _) _ _); refine ShL.alloc28 rfl rfl Z hZ.out ?_; intro w1 hB1 hb1 hn1)
  refine (HN.out _ hb1).mono ?_
  rintro e w2 ⟨g, hg, rfl, hd, hb2⟩
  have D1 := Lib.hid hb1
  have Z1 := Lib.hid hB1
  have HC := Lib.hid (HA.out g w2 w1 hb1 hb2 hg hd)
  clear hg hd hb2 hB1 hb1 hn1
  go_wp2_with fail
  refine HC.out.mono ?_
  rintro e w3 ⟨rfl, hb3⟩
  obtain ⟨RV, hRV⟩ : ∃ RV, RV = b32 (ShM.sum l.flatten) := ⟨_, rfl⟩
  rw [← hRV]
  have D2 := Lib.hid (D1.out.trans (hb3.mono D1.out.size))
  have Z2 := Lib.hid (Z1.out.below hb3 Z1.out.lt)
  have iR : Hid ((Tryd.prog.info? 28).map (·.size) = some RV.size) := Lib.hid (by rw [hRV, b32_size]; exact i28')
  have oR : Hid (RV.all (·.oneCell') = true) := Lib.hid (by rw [hRV]; exact b32_one _)
  have sR : Hid (Z.size = RV.size) := Lib.hid (by rw [hZ.out, hRV, z28_size, b32_size])
  replace hRV := Lib.hid hRV
  clear hb3
  go_wp2_with ((with_reducible show wpList _ _ _ (Oper.mk _ (Op.store 28 (.tmp 2) (.tmp 5)) _ _ _ _ :: _) _ _); refine Mem.storeBlk 28 (.tmp 2) (.tmp 5) rfl w.heap.size rfl Z RV rfl 28 Z2.out iR.out sR.out oR.out w.heap.size w D2.out (Nat.le_refl _) rfl ?_; intro w9 hB9 hb9)
  exact bodyPost_ret (results_cell_row Tryd.results9 _ _ w.heap.size 28 _ (0, 0) _ rfl hB9 Tryd.underlying28 rfl iR.out) rfl ⟨by rw [hRV.out], hb9⟩
end Go.Proofs.YtlfohiejlajmaaaDoor.ShN
