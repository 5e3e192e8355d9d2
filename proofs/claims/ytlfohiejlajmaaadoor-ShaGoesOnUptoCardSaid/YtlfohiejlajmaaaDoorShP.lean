/- Digests: keys, made as long as a block. -/
import Derived.Test.YtlfohiejlajmaaaDoorShO
namespace Go.Proofs.YtlfohiejlajmaaaDoor.ShP
open Go.ChangeShapes Go.WideShapes Go.ChangeAt Go.RowKit
open ShM ShA ShB ShC ShD ShE ShF ShG ShH ShI ShJ ShK ShL ShN ShO Mem
open ShT (Rd vals vals_length vals_one)
set_option linter.unusedVariables false
set_option maxHeartbeats 2000000

/-- A key as bytes of a block's length: of a long one its digest; bytes 0 behind. -/
def short (key : List ShM.B8) : List ShM.B8 := if 64 < key.length then ShM.sum key else key
def wk (key : List ShM.B8) : List ShM.B8 := (List.range 64).map fun i => (short key).getD i 0
theorem wk_len (key : List ShM.B8) : (wk key).length = 64 := by simp [wk]
theorem bc_wk (key : List ShM.B8) : bc (wk key) = bc (short key) := by
  apply Array.ext_getElem?
  intro i
  by_cases hi : i < 64
  · rw [bc_at _ _ hi, bc_at _ _ hi]
    congr 3
    simp [wk, List.getD, hi]
  · rw [Array.getElem?_eq_none (by rw [bc_size]; omega), Array.getElem?_eq_none (by rw [bc_size]; omega)]
theorem z58_bc : z58 = bc [] := by kernel_rfl
theorem bc_one (l : List ShM.B8) : (bc l).all (·.oneCell') = true := by
  rw [Array.all_eq_true_iff_forall_mem]
  intro v hv
  unfold bc at hv
  simp at hv
  obtain ⟨i, _, rfl⟩ := hv
  rfl
/-- Bytes laid into 64 zeros. -/
theorem laid64 {w : World} {g : Nat} (h : Mem.Blk w g 58 (bc [])) (q : List ShM.B8) (hq : q.length ≤ 64) : (w.setCells g 0 (vals q)).rangeAt g 0 (bc q).toList := by
  intro j v hj
  have hv := vals_length q
  have h64 : j < 64 := by
    have := (List.getElem?_eq_some_iff.1 hj).1
    rwa [Array.length_toList, bc_size] at this
  rw [Array.getElem?_toList, bc_at _ j h64] at hj
  rw [Nat.zero_add]
  by_cases h1 : j < q.length
  · have hs := World.cell?_setCells_in g (vals q) 0 w (fun i hi => by
      rw [Nat.zero_add, h.cell, bc_at _ i (by rw [hv] at hi; omega)]; rfl) j (by rw [hv]; exact h1)
    rw [Nat.zero_add] at hs
    rw [hs, ← hj]
    simp [vals, List.getD_eq_getElem?_getD, h1]
  · rw [World.cell?_setCells_out g (vals q) 0 w ⟨g, j, none⟩ (fun _ _ => .inr (by show 0 + (vals q).length ≤ j; rw [hv]; omega)), h.cell, bc_at _ j h64, ← hj]
    simp [List.getD_eq_getElem?_getD, show q[j]? = none by simp; omega]
theorem copyAny {ops : Array Oper} {rest : List Oper} {o : Oper} {a : Act} {w : World} {Q : Exit → Act → World → Prop} (hgd : o.guard = none) (d s : Operand)
    (ho : o.op = .call { callee := .builtin .copy, args := #[d, s], argTypes := #[22, 22] }) (b off dLen dCap : Nat) (sp : Option Addr) (sLen sCap : Nat) (hd : a.eval d = .slice (some ⟨b, off, none⟩) dLen dCap) (hs : a.eval s = .slice sp sLen sCap)
    (q : List ShM.B8) (n : Nat) (hqn : q.length = n) (hn : n = Nat.min sLen dLen) (hsrc : 0 < n → ∃ ad, sp = some ad ∧ ∀ j v, (vals q)[j]? = some v → w.cell? (ad.add j) = some v) (ht : w.there b off n)
    (h : wpList Tryd.prog ops Q rest (a.put o.dst (.int .i64 (n : Int))) (w.setCells b off (vals q))) : wpList Tryd.prog ops Q (o :: rest) a w := by
  refine wpList_plain hgd fun K hK => ?_
  have hv := vals_length q
  by_cases h0 : n = 0
  · have hrun := run_copy_none (P := Tryd.prog) w 22 22 o.type 5 (some ⟨b, off, none⟩) sp dLen dCap sLen sCap Tryd.underlying22 s5 (by omega)
    obtain rfl : q = [] := List.eq_nil_of_length_eq_zero (by omega)
    subst h0
    unfold Oper.wp
    simp [execOp, ho, resolve, invoke, builtin, hd, hs, hrun, Result.andThen]
    exact hK _ _ h
  · obtain ⟨ad, rfl, hsrc2⟩ := hsrc (by omega)
    have hrun := run_copy_cells (P := Tryd.prog) w 22 22 o.type 5 b off dLen dCap ad sLen sCap (vals q) Tryd.underlying22 s5 (by rw [hv, hqn, hn]) hsrc2 (fun j hj => (ht j (by omega)).1) (fun j hj => (ht j (by omega)).2) (vals_one q)
    rw [hv, hqn] at hrun
    unfold Oper.wp
    simp [execOp, ho, resolve, invoke, builtin, hd, hs, hrun, Result.andThen]
    exact hK _ _ h

set_option maxRecDepth 100000 in
theorem wideW (key : List ShM.B8) (a : Option Addr) (n c : Nat) (w : World) (hl : Laid w) (hn : key.length = n) (h : One w (.slice a n c) key) : Calls Tryd.prog 24 #[.slice a n c] w fun e w' => e = .returned (.agg (bc (wk key))) ∧ Below w.heap.size w w' := by
  obtain ⟨Z, hZ⟩ : ∃ Z, Z = z58 := ⟨_, rfl⟩
  obtain ⟨Z8, hZ8⟩ : ∃ Z8, Z8 = z28 := ⟨_, rfl⟩
  have hmax : n ≤ 9223372036854775807 := by
    obtain ⟨_, _, _, _, h1, h2, _⟩ := h
    simp only [maxLen] at h2; omega
  have HONE : Hid (∀ w', Below w.heap.size w w' → One w' (.slice a n c) key) := Lib.hid fun w' hb => h.below hb
  have HOF : Hid (∀ w' g, Below w.heap.size w w' → Mem.Blk w' g 22 #[.slice a n c] → Calls Tryd.prog 9 #[.slice (some ⟨g, 0, none⟩) 1 1] w' fun e w'' => e = .returned (.agg (b32 (ShM.sum key))) ∧ Below w'.heap.size w' w'') := Lib.hid fun w' g hb hB => by
    have := ofW [key] (some ⟨g, 0, none⟩) 1 1 w' (hl.below hb) rfl (Arg.one hB (h.below hb)) (by omega)
    rwa [show [key].flatten = key by simp] at this
  have HSR : Hid (∀ w', Below w.heap.size w w' → 0 < n → ∃ ad, a = some ad ∧ ∀ j v, (vals key)[j]? = some v → w'.cell? (ad.add j) = some v) := Lib.hid fun w' hb h0 => by
    obtain ⟨a', c', e, hr, _, _, hx⟩ := h
    injection e with e1 _ _
    subst e1
    obtain ⟨b, off, ha, _⟩ := hr.2 0 (by omega)
    refine ⟨_, ha, fun j v hv => ?_⟩
    have hj : j < key.length := by have := (List.getElem?_eq_some_iff.1 hv).1; rwa [vals_length] at this
    obtain ⟨b', off', ha', hcc⟩ := hr.2 j hj
    rw [ha] at ha'
    injection ha' with ha'
    injection ha' with e1 e2
    subst e1 e2
    rw [Addr.add_lit, hb.cell (p := ⟨b, off + j, none⟩) (hx ⟨b, off, none⟩ (by omega) ha), hcc, ← hv]
    simp [vals, hj]
  have HN := Lib.hid hn
  obtain ⟨RV, hRV⟩ : ∃ RV, RV = bc (short key) := ⟨_, rfl⟩
  have hFIN : Hid (RV = bc (wk key)) := Lib.hid (by rw [hRV, bc_wk])
  have iR : Hid ((Tryd.prog.info? 58).map (·.size) = some RV.size) := Lib.hid (by rw [hRV, bc_size]; exact i58)
  have sR : Hid (Z.size = RV.size) := Lib.hid (by rw [hZ, hRV, z58_size, bc_size])
  have oR : Hid (RV.all (·.oneCell') = true) := Lib.hid (by rw [hRV]; exact bc_one _)
  have HZB : Hid (Z = bc []) := Lib.hid (by rw [hZ, z58_bc])
  replace hZ := Lib.hid hZ
  replace hZ8 := Lib.hid hZ8
  clear hl h hn
  by_cases hlong : 64 < n
  · have hl' : (64 : Int) < (n : Int) := by omega
    have hRS : Hid (RV = bc (ShM.sum key)) := Lib.hid (by rw [hRV]; unfold short; rw [if_pos (by rw [HN.out]; exact hlong)])
    replace hRV := Lib.hid hRV
    obtain ⟨SV, hSV⟩ : ∃ SV, SV = b32 (ShM.sum key) := ⟨_, rfl⟩
    rw [← hSV] at HOF
    have iS : Hid ((Tryd.prog.info? 28).map (·.size) = some SV.size) := Lib.hid (by rw [hSV, b32_size]; exact i28')
    have oS : Hid (SV.all (·.oneCell') = true) := Lib.hid (by rw [hSV]; exact b32_one _)
    have sS : Hid (Z8.size = SV.size) := Lib.hid (by rw [hZ8.out, hSV, z28_size, b32_size])
    replace hSV := Lib.hid hSV
    go_enter Tryd.func24, Tryd.ntmps24
    go_wp2_with (first
      | ((with_reducible show wpList _ _ _ (Oper.mk (some 2) (Op.alloc 58) _ _ _ _ :: _) _ _); refine ShL.alloc58 rfl rfl Z hZ.out ?_; intro w1 hB1 hb1 hn1; clear hn1)
      | ((with_reducible show wpList _ _ _ (Oper.mk (some 3) (Op.alloc 58) _ _ _ _ :: _) _ _); refine ShL.alloc58 rfl rfl Z hZ.out ?_; intro w2 hB2 hb2 hn2; clear hn2))
    have D2 := Lib.hid (hb1.trans (hb2.mono hb1.size))
    have hBs := Mem.Blk.new w2 22 #[.slice a n c]
    have D3 := Lib.hid (D2.out.alloc D2.out.size (.cells #[.slice a n c] 22))
    have B13 := Lib.hid ((hB1.below hb2 hB1.lt).alloc (.cells #[.slice a n c] 22))
    have B23 := Lib.hid (hB2.alloc (.cells #[.slice a n c] 22))
    refine (HOF.out _ _ D3.out hBs).mono ?_
    rintro e w4 ⟨rfl, hb4⟩
    have D4 := Lib.hid (D3.out.trans (hb4.mono D3.out.size))
    have B14 := Lib.hid (B13.out.below hb4 B13.out.lt)
    have B24 := Lib.hid (B23.out.below hb4 B23.out.lt)
    have hs1 : Hid (w.heap.size < w1.heap.size) := Lib.hid hB1.lt
    have hs2 : Hid (w1.heap.size < w4.heap.size) := Lib.hid B24.out.lt
    clear hB1 hb1 hB2 hb2 hBs hb4 B13 B23 D3
    go_wp2_with (first
      | ((with_reducible show wpList _ _ _ (Oper.mk (some 4) (Op.alloc 28) _ _ _ _ :: _) _ _); refine ShL.alloc28 rfl rfl Z8 hZ8.out ?_; intro w5 hB5 hb5 hn5; clear hn5)
      | ((with_reducible show wpList _ _ _ (Oper.mk _ (Op.store 28 (.tmp 4) (.tmp 10)) _ _ _ _ :: _) _ _); refine Mem.storeBlk 28 (.tmp 4) (.tmp 10) rfl w4.heap.size rfl Z8 SV rfl 28 hB5 iS.out sS.out oS.out w4.heap.size w4 hb5 (Nat.le_refl _) rfl ?_; intro w6 hB6 hb6))
    have D6 := Lib.hid ((D4.out.trans (hb6.mono D4.out.size)).drew)
    have B16 := Lib.hid (B14.out.below hb6 B14.out.lt).drew
    have B26 := Lib.hid (B24.out.below hb6 B24.out.lt).drew
    have B66 := Lib.hid hB6.drew
    clear hB5 hb5 hb6 hB6
    refine wp_region_held_drew (S := fun _ => True) (by kernel_rfl) trivial (fun hS => ?_)
    try simp only [List.size_toArray, List.length_cons, List.length_nil, Nat.reduceAdd]
    refine wpAnyH_take (i := 0) (v := ?_) (by simp only [List.getElem?_toArray, List.getElem?_cons_zero]; rfl) (by kernel_rfl) (by kernel_rfl) (by kernel_rfl) (by exact fun _ _ _ h => h) (Or.inl ⟨by rfl, ?_⟩) hS ?_
    rotate_left
    · intro w hSw
      go_simp
      try with_reducible rfl
    try simp only [Act.put, List.setIfInBounds_toArray, List.set_cons_zero, List.set_cons_succ]
    refine wpAnyH_take (i := 1) (v := ?_) (by simp only [List.getElem?_toArray, List.getElem?_cons_succ, List.getElem?_cons_zero]; rfl) (by kernel_rfl) (by kernel_rfl) (by kernel_rfl) (by exact fun _ _ _ h => h) (Or.inl ⟨by rfl, ?_⟩) hS ?_
    rotate_left
    · intro w hSw
      go_simp
      try with_reducible rfl
    try simp only [Act.put, List.setIfInBounds_toArray, List.set_cons_zero, List.set_cons_succ]
    refine wpAnyH_ready (rs := [2]) (by kernel_rfl) (by simp) ?_
    refine AllReadyH.cons (by simp only [List.getElem?_toArray, List.getElem?_cons_succ, List.getElem?_cons_zero]; rfl) (fun K hK => ?_) AllReadyH.nil
    refine stepCopy rfl (.tmp 11) (.tmp 12) rfl w1.heap.size 0 64 64 ⟨w4.heap.size, 0, none⟩ 32 32 rfl rfl (ShM.sum key) 32 (sum_len _) rfl (fun j v hv => by
      have hj : j < 32 := by have := (List.getElem?_eq_some_iff.1 hv).1; rwa [vals_length, sum_len] at this
      rw [Addr.add_lit, Nat.zero_add, B66.out.cell j, hSV.out, b32_at _ j hj, ← hv]
      simp [vals, sum_len, hj, List.getD_eq_getElem?_getD]) (B26.out.there 32 (by rw [hZ.out, z58_size]; omega)) ?_
    have R7 : Hid ((w6.drew.setCells w1.heap.size 0 (vals (ShM.sum key))).rangeAt w1.heap.size 0 RV.toList) := Lib.hid (by
      rw [hRS.out]
      have := B26.out
      rw [HZB.out] at this
      exact laid64 this _ (by rw [sum_len]; omega))
    have D7 : Hid (Below w.heap.size w (w6.drew.setCells w1.heap.size 0 (vals (ShM.sum key)))) := Lib.hid (below_setCells (by have := hs1.out; omega) _ _ _ D6.out)
    have B7 : Hid (Mem.Blk (w6.drew.setCells w1.heap.size 0 (vals (ShM.sum key))) w.heap.size 58 Z) := Lib.hid (B16.out.below (below_setCells (B := w.heap.size + 1) (by have := hs1.out; omega) _ _ _ (Below.refl _ _)) (by omega))
    generalize w6.drew.setCells w1.heap.size 0 (vals (ShM.sum key)) = w7 at R7 D7 B7 ⊢
    refine hK.out _ _ trivial (fun hS => ?_)
    clear hK K
    try simp only [Act.put, List.setIfInBounds_toArray, List.set_cons_zero, List.set_cons_succ]
    refine wpAnyH_done (by kernel_rfl) ?_ _
    go_wp2_with (first
      | ((with_reducible show wpList _ _ _ (Oper.mk _ (Op.load 58 (.tmp 3)) _ _ _ _ :: _) _ _); refine Mem.loadMid 58 (.tmp 3) rfl w1.heap.size 0 rfl RV R7.out _ Tryd.underlying58 rfl iR.out rfl ?_)
      | ((with_reducible show wpList _ _ _ (Oper.mk _ (Op.store 58 (.tmp 2) (.tmp 17)) _ _ _ _ :: _) _ _); refine Mem.storeBlk 58 (.tmp 2) (.tmp 17) rfl w.heap.size rfl Z RV rfl 58 B7.out iR.out sR.out oR.out w.heap.size w D7.out (Nat.le_refl _) rfl ?_; intro w9 hB9 hb9))
    exact bodyPost_ret (results_cell_row Tryd.results24 _ _ w.heap.size 58 _ (0, 0) _ rfl hB9 Tryd.underlying58 rfl iR.out) rfl ⟨by rw [hFIN.out], hb9⟩
  · have hl' : ¬ (64 : Int) < (n : Int) := by omega
    have hRS : Hid (RV = bc key) := Lib.hid (by rw [hRV]; unfold short; rw [if_neg (by rw [HN.out]; exact hlong)])
    replace hRV := Lib.hid hRV
    go_enter Tryd.func24, Tryd.ntmps24
    go_wp2_with (first
      | ((with_reducible show wpList _ _ _ (Oper.mk (some 2) (Op.alloc 58) _ _ _ _ :: _) _ _); refine ShL.alloc58 rfl rfl Z hZ.out ?_; intro w1 hB1 hb1 hn1; clear hn1)
      | ((with_reducible show wpList _ _ _ (Oper.mk (some 3) (Op.alloc 58) _ _ _ _ :: _) _ _); refine ShL.alloc58 rfl rfl Z hZ.out ?_; intro w2 hB2 hb2 hn2; clear hn2
         have D2 := Lib.hid (hb1.trans (hb2.mono hb1.size))
         have B12 := Lib.hid (hB1.below hb2 hB1.lt)
         have B22 := Lib.hid hB2
         have hs1 : Hid (w.heap.size < w1.heap.size) := Lib.hid hB1.lt
         have R7 : Hid ((w2.setCells w1.heap.size 0 (vals key)).rangeAt w1.heap.size 0 RV.toList) := Lib.hid (by
           rw [hRS.out]
           have := hB2
           rw [HZB.out] at this
           exact laid64 this _ (by rw [HN.out]; omega))
         have D7 : Hid (Below w.heap.size w (w2.setCells w1.heap.size 0 (vals key))) := Lib.hid (below_setCells (by have := hs1.out; omega) _ _ _ D2.out)
         have B7 : Hid (Mem.Blk (w2.setCells w1.heap.size 0 (vals key)) w.heap.size 58 Z) := Lib.hid (B12.out.below (below_setCells (B := w.heap.size + 1) (by have := hs1.out; omega) _ _ _ (Below.refl _ _)) (by omega))
         clear hb2 hB1 hb1)
      | ((with_reducible show wpList _ _ _ (Oper.mk _ (Op.call { callee := Callee.builtin Builtin.copy, args := _, argTypes := _ }) _ _ _ _ :: _) _ _)
         refine copyAny rfl (.tmp 14) (.tmp 15) rfl w1.heap.size 0 64 64 a n c rfl rfl key n HN.out (by rw [show Nat.min n 64 = n from Nat.min_eq_left (by omega)]) (fun h0 => HSR.out _ D2.out h0) (B22.out.there n (by rw [hZ.out, z58_size]; omega)) ?_
         generalize w2.setCells w1.heap.size 0 (vals key) = w7 at R7 D7 B7 ⊢)
      | ((with_reducible show wpList _ _ _ (Oper.mk _ (Op.load 58 (.tmp 3)) _ _ _ _ :: _) _ _); refine Mem.loadMid 58 (.tmp 3) rfl w1.heap.size 0 rfl RV R7.out _ Tryd.underlying58 rfl iR.out rfl ?_)
      | ((with_reducible show wpList _ _ _ (Oper.mk _ (Op.store 58 (.tmp 2) (.tmp 17)) _ _ _ _ :: _) _ _); refine Mem.storeBlk 58 (.tmp 2) (.tmp 17) rfl w.heap.size rfl Z RV rfl 58 B7.out iR.out sR.out oR.out w.heap.size w D7.out (Nat.le_refl _) rfl ?_; intro w9 hB9 hb9))
    exact bodyPost_ret (results_cell_row Tryd.results24 _ _ w.heap.size 58 _ (0, 0) _ rfl hB9 Tryd.underlying58 rfl iR.out) rfl ⟨by rw [hFIN.out], hb9⟩
end Go.Proofs.YtlfohiejlajmaaaDoor.ShP
