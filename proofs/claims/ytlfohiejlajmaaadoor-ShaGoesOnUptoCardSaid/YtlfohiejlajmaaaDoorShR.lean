/- Digests: one with a key; that of parts with a key. -/
import Derived.Test.YtlfohiejlajmaaaDoorShQ
namespace Go.Proofs.YtlfohiejlajmaaaDoor.ShR
open Go.ChangeShapes Go.WideShapes Go.ChangeAt Go.RowKit
open ShM ShA ShB ShC ShD ShE ShF ShG ShH ShI ShJ ShK ShL ShN ShO ShP ShQ Mem
open ShT (Rd vals vals_length vals_one)
set_option linter.unusedVariables false
set_option maxHeartbeats 2000000

theorem bcSr {w : World} {g q : Nat} {l : List ShM.B8} (hl : l.length = 64) (h : Mem.Blk w q 5 (bc l)) (hne : q ≠ g) : Sr w g (some ⟨q, 0, none⟩) l := by
  refine ⟨⟨by rw [hl]; simp [maxLen], fun i hi => ⟨q, 0, rfl, ?_⟩⟩, fun x _ e => ?_⟩
  · rw [Nat.zero_add, h.cell i, bc_at l i (by omega)]
  · injection e with e
    subst e
    exact ⟨h.lt, hne⟩

set_option maxRecDepth 100000 in
theorem keyedW (key : List ShM.B8) (a : Option Addr) (n c : Nat) (w : World) (hl : Laid w) (hn : key.length = n) (h : One w (.slice a n c) key) : Calls Tryd.prog 14 #[.slice a n c] w fun e w' => ∃ g, w.heap.size ≤ g ∧ e = .returned (.pointer (some ⟨g, 0, none⟩)) ∧ Dd w' g (some (wk key)) [] ∧ Below w.heap.size w w' := by
  have hw2 := Laid.two hl
  have HLD : Hid (∀ w', Below w.heap.size w w' → Laid w') := Lib.hid fun w' hb => hl.below hb
  obtain ⟨KV, hKV⟩ : ∃ KV, KV = bc (wk key) := ⟨_, rfl⟩
  obtain ⟨FV, hFV⟩ : ∃ FV, FV = freshV := ⟨_, rfl⟩
  obtain ⟨Z, hZ⟩ : ∃ Z, Z = z58 := ⟨_, rfl⟩
  obtain ⟨Z6, hZ6⟩ : ∃ Z6, Z6 = z60 := ⟨_, rfl⟩
  have HWD : Hid (Calls Tryd.prog 24 #[.slice a n c] w fun e w' => e = .returned (.agg KV) ∧ Below w.heap.size w w') := Lib.hid (by rw [hKV]; exact wideW key a n c w hl hn h)
  have HFR : Hid (∀ w', Below w.heap.size w w' → Calls Tryd.prog 23 #[] w' fun e w'' => e = .returned (.agg FV) ∧ Below w'.heap.size w' w'') := Lib.hid fun w' hb => by rw [hFV]; exact freshW w' (hl.below hb)
  have HMX : Hid (∀ (x : ShM.B8) (n : Int) w', n = (x.toNat : Int) → Calls Tryd.prog 26 #[.agg KV, .int .u8 n] w' fun e w'' => ∃ q, e = .returned (.slice (some ⟨q, 0, none⟩) 64 64) ∧ w'.heap.size ≤ q ∧ Mem.Blk w'' q 5 (bc ((wk key).map (· ^^^ x))) ∧ Below w'.heap.size w' w'') := Lib.hid fun x n w' hn => by rw [hKV, hn]; exact mixedW (wk key) x w' (wk_len key)
  have HAD : Hid (∀ (l : List ShM.B8) g q w', Below w.heap.size w w' → w.heap.size ≤ g → Bk w' g fresh0 → l.length = 64 → Mem.Blk w' q 5 (bc l) → q ≠ g → Calls Tryd.prog 25 #[.pointer (some ⟨g, 0, none⟩), .slice (some ⟨q, 0, none⟩) 64 64] w' fun e w'' => e = .returned (.tuple #[]) ∧ (∃ t, Is t l ∧ Bk w'' g t) ∧ Upd w' w'' g) := Lib.hid fun l g q w' hb hg hk hl' hB hne => by
    have := addW g fresh0 [] l (some ⟨q, 0, none⟩) 64 64 w' (hl.below hb) (by omega) hk fresh_is hl' (bcSr hl' hB hne) (Nat.le_refl _) (by simp [maxLen])
    rwa [List.nil_append] at this
  have iK : Hid ((Tryd.prog.info? 58).map (·.size) = some KV.size) := Lib.hid (by rw [hKV, bc_size]; exact i58)
  have oK : Hid (KV.all (·.oneCell') = true) := Lib.hid (by rw [hKV]; exact bc_one _)
  have sK : Hid (Z.size = KV.size) := Lib.hid (by rw [hZ, hKV, z58_size, bc_size])
  have iF : Hid ((Tryd.prog.info? 60).map (·.size) = some FV.size) := Lib.hid (by rw [hFV, fresh_size]; exact i60)
  have oF : Hid (FV.all (·.oneCell') = true) := Lib.hid (by rw [hFV]; exact fresh_one)
  have sF : Hid (Z6.size = FV.size) := Lib.hid (by rw [hZ6, hFV, z60_size, fresh_size])
  have bF : Hid (∀ w' g, Mem.Blk w' g 60 FV → Bk w' g fresh0) := Lib.hid fun w' g hB => by
    refine Bk_of hB.lt ?_ ?_
    · have := hB.range
      rw [hFV, fresh_cells] at this
      exact this
    · exact hB.there 74 (by rw [hFV, fresh_size]; omega)
  have li : Hid ((ipad (wk key)).length = 64) := Lib.hid (by unfold ipad; rw [List.length_map, wk_len])
  have lo : Hid ((opad (wk key)).length = 64) := Lib.hid (by unfold opad; rw [List.length_map, wk_len])
  replace hKV := Lib.hid hKV
  replace hFV := Lib.hid hFV
  replace hZ := Lib.hid hZ
  replace hZ6 := Lib.hid hZ6
  clear hl h
  go_enter Tryd.func14, Tryd.ntmps14
  go_wp2_with fail
  refine HWD.out.mono ?_
  rintro e wa ⟨rfl, ba⟩
  have DA := Lib.hid ba
  clear ba
  go_wp2_with (first
    | ((with_reducible show wpList _ _ _ (Oper.mk (some 3) (Op.alloc 58) _ _ _ _ :: _) _ _); refine ShL.alloc58 rfl rfl Z hZ.out ?_; intro w1 hB1 hb1 hn1; clear hn1)
    | ((with_reducible show wpList _ _ _ (Oper.mk _ (Op.store 58 (.tmp 3) (.tmp 7)) _ _ _ _ :: _) _ _); refine Mem.storeBlk 58 (.tmp 3) (.tmp 7) rfl wa.heap.size rfl Z KV rfl 58 hB1 iK.out sK.out oK.out wa.heap.size wa hb1 (Nat.le_refl _) rfl ?_; intro w2 hB2 hb2))
  have D2 := Lib.hid (DA.out.trans (hb2.mono DA.out.size))
  have B2 := Lib.hid hB2
  have s2 : Hid (wa.heap.size < w2.heap.size) := Lib.hid hB2.lt
  have sA : Hid (w.heap.size ≤ wa.heap.size) := Lib.hid DA.out.size
  clear hB2 hb2 hB1 hb1
  refine (HFR.out _ D2.out).mono ?_
  rintro e wb ⟨rfl, bb⟩
  have DB := Lib.hid (D2.out.trans (bb.mono D2.out.size))
  have BB := Lib.hid (B2.out.below bb B2.out.lt)
  have sB : Hid (w2.heap.size ≤ wb.heap.size) := Lib.hid bb.size
  clear bb
  go_wp2_with fail
  refine (HFR.out _ DB.out).mono ?_
  rintro e wc ⟨rfl, bc'⟩
  have DC := Lib.hid (DB.out.trans (bc'.mono DB.out.size))
  have BC := Lib.hid (BB.out.below bc' BB.out.lt)
  have sC : Hid (wb.heap.size ≤ wc.heap.size) := Lib.hid bc'.size
  clear bc'
  go_wp2_with (first
    | ((with_reducible show wpList _ _ _ (Oper.mk (some 4) (Op.alloc 60) _ _ _ _ :: _) _ _); refine ShL.alloc60 rfl rfl Z6 hZ6.out ?_; intro w3 hB3 hb3 hn3; clear hn3
       have D3 := Lib.hid (DC.out.trans (hb3.mono DC.out.size))
       have s3 : Hid (wc.heap.size < w3.heap.size) := Lib.hid hB3.lt
       have P3 := Lib.hid (BC.out.below hb3 BC.out.lt)
       have Q3 := Lib.hid hB3
       clear hB3 hb3)
    | ((with_reducible show wpList _ _ _ (Oper.mk (some 5) (Op.alloc 60) _ _ _ _ :: _) _ _); refine ShL.alloc60 rfl rfl Z6 hZ6.out ?_; intro w4 hB4 hb4 hn4; clear hn4
       have D4 := Lib.hid (D3.out.trans (hb4.mono D3.out.size))
       have s4 : Hid (w3.heap.size < w4.heap.size) := Lib.hid hB4.lt
       have P4 := Lib.hid (P3.out.below hb4 P3.out.lt)
       have Q4 := Lib.hid (Q3.out.below hb4 Q3.out.lt)
       have R4 := Lib.hid hB4
       clear hB4 hb4)
    | ((with_reducible show wpList _ _ _ (Oper.mk _ (Op.store 60 (.tmp 4) (.tmp 8)) _ _ _ _ :: _) _ _); refine ShQ.storeBlk2 60 (.tmp 4) (.tmp 8) rfl wc.heap.size rfl Z6 FV rfl 60 Q4.out iF.out sF.out oF.out rfl ?_; intro w5 hB5 hg5
       have D5 := Lib.hid (Below.gb D4.out hg5 (by have := sA.out; have := s2.out; have := sB.out; have := sC.out; omega) (by have := sA.out; have := s2.out; have := sB.out; have := sC.out; have := s3.out; have := s4.out; omega))
       have P5 := Lib.hid (Blk.gb P4.out hg5 (by have := s2.out; have := sB.out; have := sC.out; omega))
       have Q5 := Lib.hid hB5
       have R5 := Lib.hid (Blk.gb R4.out hg5 (by have := s3.out; omega))
       clear hB5 hg5)
    | ((with_reducible show wpList _ _ _ (Oper.mk _ (Op.store 60 (.tmp 5) (.tmp 9)) _ _ _ _ :: _) _ _); refine ShQ.storeBlk2 60 (.tmp 5) (.tmp 9) rfl w3.heap.size rfl Z6 FV rfl 60 R5.out iF.out sF.out oF.out rfl ?_; intro w6 hB6 hg6
       have D6 := Lib.hid (Below.gb D5.out hg6 (by have := sA.out; have := s2.out; have := sB.out; have := sC.out; have := s3.out; omega) (by have := D5.out.size; omega))
       have P6 := Lib.hid (Blk.gb P5.out hg6 (by have := s2.out; have := sB.out; have := sC.out; have := s3.out; omega))
       have Q6 := Lib.hid (Blk.gb Q5.out hg6 (by have := s3.out; omega))
       have R6 := Lib.hid hB6
       clear hB6 hg6)
    | ((with_reducible show wpList _ _ _ (Oper.mk _ (Op.load 58 (.tmp 3)) _ _ _ _ :: _) _ _); refine Mem.loadBlk 58 (.tmp 3) rfl wa.heap.size rfl KV 58 P6.out _ Tryd.underlying58 rfl iK.out rfl ?_))
  have hT : Hid (w.heap.size ≤ wc.heap.size) := Lib.hid (by have := sA.out; have := s2.out; have := sB.out; have := sC.out; omega)
  refine (HMX.out 0x36#8 54 w6 rfl).mono ?_
  rintro e w7 ⟨q, rfl, hq, hBq, b7⟩
  have D7 := Lib.hid (D6.out.trans (b7.mono D6.out.size))
  have P7 := Lib.hid (P6.out.below b7 P6.out.lt)
  have Q7 := Lib.hid (Q6.out.below b7 Q6.out.lt)
  have R7 := Lib.hid (R6.out.below b7 R6.out.lt)
  have Bq := Lib.hid hBq
  have hq' : Hid (q ≠ wc.heap.size) := Lib.hid (by have := Q6.out.lt; omega)
  clear hBq b7 hq
  go_wp2_with fail
  refine (HAD.out (ipad (wk key)) wc.heap.size q w7 D7.out hT.out (bF.out _ _ Q7.out) li.out Bq.out hq'.out).mono ?_
  rintro e w8 ⟨rfl, ⟨ti, hti, hki⟩, hu8⟩
  have D8 := Lib.hid (Below.up D7.out hu8 hT.out D7.out.size)
  have P8 := Lib.hid (P7.out.up hu8 (by have := s2.out; have := sB.out; have := sC.out; omega))
  have R8 := Lib.hid (R7.out.up hu8 (by have := s3.out; omega))
  have KI := Lib.hid hki
  have TI := Lib.hid hti
  clear hki hti hu8
  go_wp2_with ((with_reducible show wpList _ _ _ (Oper.mk _ (Op.load 58 (.tmp 3)) _ _ _ _ :: _) _ _); refine Mem.loadBlk 58 (.tmp 3) rfl wa.heap.size rfl KV 58 P8.out _ Tryd.underlying58 rfl iK.out rfl ?_)
  refine (HMX.out 0x5C#8 92 w8 rfl).mono ?_
  rintro e w9 ⟨q2, rfl, hq2, hBq2, b9⟩
  have D9 := Lib.hid (D8.out.trans (b9.mono D8.out.size))
  have R9 := Lib.hid (R8.out.below b9 R8.out.lt)
  have KI9 := Lib.hid (KI.out.below b9 KI.out.lt)
  have Bq2 := Lib.hid hBq2
  have hq2' : Hid (q2 ≠ w3.heap.size) := Lib.hid (by have := R8.out.lt; omega)
  clear hBq2 b9 hq2
  go_wp2_with fail
  refine (HAD.out (opad (wk key)) w3.heap.size q2 w9 D9.out (by have := hT.out; have := s3.out; omega) (bF.out _ _ R9.out) lo.out Bq2.out hq2'.out).mono ?_
  rintro e w10 ⟨rfl, ⟨tu, hto, hko⟩, hu10⟩
  have D10 := Lib.hid (Below.up D9.out hu10 (by have := hT.out; have := s3.out; omega) D9.out.size)
  have hbi : w10.rangeAt wc.heap.size 0 (bkl ti) := fun j v hj => by
    rw [hu10.gb.cell (Bk_range KI9.out j v hj) (by intro e; injection e with e; have e2 : wc.heap.size = w3.heap.size := e; have := s3.out; omega)]
  obtain ⟨IV, hIV⟩ : ∃ IV, IV = (bkl ti).toArray := ⟨_, rfl⟩
  obtain ⟨OV, hOV⟩ : ∃ OV, OV = (bkl tu).toArray := ⟨_, rfl⟩
  have RI : Hid (w10.rangeAt wc.heap.size 0 IV.toList) := Lib.hid (by rw [hIV]; exact hbi)
  have RO : Hid (w10.rangeAt w3.heap.size 0 OV.toList) := Lib.hid (by rw [hOV]; exact Bk_range hko)
  have iI : Hid ((Tryd.prog.info? 60).map (·.size) = some IV.size) := Lib.hid (by rw [hIV, List.size_toArray, bkl_len]; exact i60)
  have iO : Hid ((Tryd.prog.info? 60).map (·.size) = some OV.size) := Lib.hid (by rw [hOV, List.size_toArray, bkl_len]; exact i60)
  obtain ⟨X, hX, hXl⟩ := built63 IV IV OV (by rw [hIV, List.size_toArray, bkl_len]) (by rw [hIV, List.size_toArray, bkl_len]) (by rw [hOV, List.size_toArray, bkl_len])
  have hX2 := Lib.hid hX
  have hXl2 : Hid (X.toList = bkl ti ++ (bkl ti ++ (bkl tu ++ [Value.bool true]))) := Lib.hid (by rw [hXl, hIV, hOV])
  have HTI := Lib.hid TI.out
  have HTO := Lib.hid hto
  clear hko hu10 hbi hIV hOV hX hXl hto
  go_wp2_with (first
    | ((with_reducible show wpList _ _ _ (Oper.mk _ (Op.load 60 (.tmp 4)) _ _ _ _ :: _) _ _); refine Mem.loadMid 60 (.tmp 4) rfl wc.heap.size 0 rfl IV RI.out _ Tryd.underlying60 rfl iI.out rfl ?_)
    | ((with_reducible show wpList _ _ _ (Oper.mk _ (Op.load 60 (.tmp 5)) _ _ _ _ :: _) _ _); refine Mem.loadMid 60 (.tmp 5) rfl w3.heap.size 0 rfl OV RO.out _ Tryd.underlying60 rfl iO.out rfl ?_)
    | ((with_reducible show wpList _ _ _ (Oper.mk _ (Op.build 63 _) _ _ _ _ :: _) _ _); refine ShQ.build63W rfl rfl IV IV OV X hX2.out rfl rfl rfl ?_))
  go_ret
  have hB := Mem.Blk.new w10 63 X
  have hsz : X.size = 223 := by
    rw [← Array.length_toList, hXl2.out]
    simp only [List.length_append, bkl_len, List.length_cons, List.length_nil]
  refine ⟨_, D10.out.size, rfl, ⟨ti, ti, tu, ?_, ?_, ?_, ?_⟩, D10.out.alloc D10.out.size _⟩
  · refine Dg_of hB.lt ?_ (hB.there 223 (by omega))
    have := hB.range
    rw [hXl2.out] at this
    exact this
  · show Is ti (ipad (wk key) ++ [])
    rw [List.append_nil]; exact HTI.out
  · exact HTI.out
  · intro k hk
    injection hk with hk
    subst hk
    exact HTO.out
end Go.Proofs.YtlfohiejlajmaaaDoor.ShR
