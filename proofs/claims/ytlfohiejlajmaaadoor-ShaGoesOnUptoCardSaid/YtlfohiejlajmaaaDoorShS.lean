/- Digests: that of parts with a key; the digest of nothing. -/
import Derived.Test.YtlfohiejlajmaaaDoorShR
namespace Go.Proofs.YtlfohiejlajmaaaDoor.ShS
open Go.ChangeShapes Go.WideShapes Go.ChangeAt Go.RowKit
open ShM ShA ShB ShC ShD ShE ShF ShG ShH ShI ShJ ShK ShL ShN ShO ShP ShQ ShR Mem
open ShT (Rd vals vals_length vals_one)
set_option linter.unusedVariables false
set_option maxHeartbeats 2000000

/-- The digest of bytes with a key. -/
def mac (key m : List ShM.B8) : List ShM.B8 := dig (some (wk key)) m

set_option maxRecDepth 100000 in
theorem macW (key : List ShM.B8) (ak : Option Addr) (nk ck : Nat) (l : List (List ShM.B8)) (a : Option Addr) (n c : Nat) (w : World) (hl : Laid w) (hnk : key.length = nk) (hk : One w (.slice ak nk ck) key) (hn : l.length = n) (ha : Arg w a l) (hmax : n ≤ 1000000) :
    Calls Tryd.prog 11 #[.slice ak nk ck, .slice a n c] w fun e w' => e = .returned (.agg (b32 (mac key l.flatten))) ∧ Below w.heap.size w w' := by
  obtain ⟨Z, hZ⟩ : ∃ Z, Z = z28 := ⟨_, rfl⟩
  have HN : Hid (∀ w', Below w.heap.size w w' → Calls Tryd.prog 14 #[.slice ak nk ck] w' fun e w'' => ∃ g, w'.heap.size ≤ g ∧ e = .returned (.pointer (some ⟨g, 0, none⟩)) ∧ Dd w'' g (some (wk key)) [] ∧ Below w'.heap.size w' w'') := Lib.hid fun w' hb => keyedW key ak nk ck w' (hl.below hb) hnk (hk.below hb)
  have HA : Hid (∀ g w' w1, Below w.heap.size w w1 → Below w1.heap.size w1 w' → w1.heap.size ≤ g → Dd w' g (some (wk key)) [] → Calls Tryd.prog 19 #[.pointer (some ⟨g, 0, none⟩), .slice a n c] w' fun e w'' => e = .returned (.agg (b32 (mac key l.flatten))) ∧ Below w1.heap.size w1 w'') := Lib.hid fun g w' w1 hb1 hb hg hd => allW g (some (wk key)) [] l a n c w1 w' (hl.below hb1) hb hg hd hn (ha.below hb1) hmax
  replace hZ := Lib.hid hZ
  clear hl hn ha hk hnk
  go_enter Tryd.func11, Tryd.ntmps11
  go_wp2_with ((with_reducible show wpList _ _ _ (Oper.mk (some 4) (Op.alloc 28) _ _ _ _ :: _) _ _); refine ShL.alloc28 rfl rfl Z hZ.out ?_; intro w1 hB1 hb1 hn1; clear hn1)
  refine (HN.out _ hb1).mono ?_
  rintro e w2 ⟨g, hg, rfl, hd, hb2⟩
  have D1 := Lib.hid hb1
  have Z1 := Lib.hid hB1
  have HC := Lib.hid (HA.out g w2 w1 hb1 hb2 hg hd)
  clear hg hd hb2 hB1 hb1
  go_wp2_with fail
  refine HC.out.mono ?_
  rintro e w3 ⟨rfl, hb3⟩
  obtain ⟨RV, hRV⟩ : ∃ RV, RV = b32 (mac key l.flatten) := ⟨_, rfl⟩
  rw [← hRV]
  have D2 := Lib.hid (D1.out.trans (hb3.mono D1.out.size))
  have Z2 := Lib.hid (Z1.out.below hb3 Z1.out.lt)
  have iR : Hid ((Tryd.prog.info? 28).map (·.size) = some RV.size) := Lib.hid (by rw [hRV, b32_size]; exact i28')
  have oR : Hid (RV.all (·.oneCell') = true) := Lib.hid (by rw [hRV]; exact b32_one _)
  have sR : Hid (Z.size = RV.size) := Lib.hid (by rw [hZ.out, hRV, z28_size, b32_size])
  replace hRV := Lib.hid hRV
  clear hb3
  go_wp2_with ((with_reducible show wpList _ _ _ (Oper.mk _ (Op.store 28 (.tmp 4) (.tmp 8)) _ _ _ _ :: _) _ _); refine Mem.storeBlk 28 (.tmp 4) (.tmp 8) rfl w.heap.size rfl Z RV rfl 28 Z2.out iR.out sR.out oR.out w.heap.size w D2.out (Nat.le_refl _) rfl ?_; intro w9 hB9 hb9)
  exact bodyPost_ret (results_cell_row Tryd.results11 _ _ w.heap.size 28 _ (0, 0) _ rfl hB9 Tryd.underlying28 rfl iR.out) rfl ⟨by rw [hRV.out], hb9⟩

set_option maxRecDepth 100000 in
theorem knownW (w : World) (hl : Laid w) : Calls Tryd.prog 7 #[] w fun e w' => e = .returned (.bool true) ∧ Below w.heap.size w w' := by
  obtain ⟨Z, hZ⟩ : ∃ Z, Z = z28 := ⟨_, rfl⟩
  have HOF : Hid (Calls Tryd.prog 9 #[.slice none 0 0] w fun e w' => e = .returned (.agg (b32 (ShM.sum []))) ∧ Below w.heap.size w w') := Lib.hid (ofW [] none 0 0 w hl rfl (fun i hi => absurd hi (by simp)) (by omega))
  obtain ⟨RV, hRV⟩ : ∃ RV, RV = b32 (ShM.sum []) := ⟨_, rfl⟩
  rw [← hRV] at HOF
  obtain ⟨e0, e1, e30, e31⟩ := ShM.sum_nil
  have r0 : Hid (RV[0]? = some (.int .u8 227)) := Lib.hid (by rw [hRV, b32_at _ _ (by omega), e0]; rfl)
  have r1 : Hid (RV[1]? = some (.int .u8 176)) := Lib.hid (by rw [hRV, b32_at _ _ (by omega), e1]; rfl)
  have r30 : Hid (RV[30]? = some (.int .u8 184)) := Lib.hid (by rw [hRV, b32_at _ _ (by omega), e30]; rfl)
  have r31 : Hid (RV[31]? = some (.int .u8 85)) := Lib.hid (by rw [hRV, b32_at _ _ (by omega), e31]; rfl)
  have iR : Hid ((Tryd.prog.info? 28).map (·.size) = some RV.size) := Lib.hid (by rw [hRV, b32_size]; exact i28')
  have oR : Hid (RV.all (·.oneCell') = true) := Lib.hid (by rw [hRV]; exact b32_one _)
  have sR : Hid (Z.size = RV.size) := Lib.hid (by rw [hZ, hRV, z28_size, b32_size])
  replace hRV := Lib.hid hRV
  replace hZ := Lib.hid hZ
  clear hl e0 e1 e30 e31
  go_enter Tryd.func7, Tryd.ntmps7
  go_wp2_with fail
  refine HOF.out.mono ?_
  rintro e w1 ⟨rfl, b1⟩
  have D1 := Lib.hid b1
  clear b1
  go_wp2_with (first
    | ((with_reducible show wpList _ _ _ (Oper.mk (some 1) (Op.alloc 28) _ _ _ _ :: _) _ _); refine ShL.alloc28 rfl rfl Z hZ.out ?_; intro w2 hB2 hb2 hn2; clear hn2)
    | ((with_reducible show wpList _ _ _ (Oper.mk _ (Op.store 28 (.tmp 1) (.tmp 2)) _ _ _ _ :: _) _ _); refine Mem.storeBlk 28 (.tmp 1) (.tmp 2) rfl w1.heap.size rfl Z RV rfl 28 hB2 iR.out sR.out oR.out w1.heap.size w1 hb2 (Nat.le_refl _) rfl ?_; intro w3 hB3 hb3
       have c0 := (hB3.cell 0).trans r0.out
       have c1 := (hB3.cell 1).trans r1.out
       have c30 := (hB3.cell 30).trans r30.out
       have c31 := (hB3.cell 31).trans r31.out))
  go_ret
  exact ⟨rfl, D1.out.trans (hb3.mono D1.out.size)⟩
end Go.Proofs.YtlfohiejlajmaaaDoor.ShS
