/- The law of keys. -/
import Derived.Test.YtlfohiejlajmaaaDoorShU
namespace Go.Proofs.YtlfohiejlajmaaaDoor.ShV
open Go.ChangeShapes Go.WideShapes Go.ChangeAt Go.RowKit
open ShM ShA ShB ShC ShD ShE ShF ShG ShH ShI ShJ ShK ShL ShN ShO ShP ShQ ShR ShS ShU Mem
open ShT (Rd vals vals_length vals_one)
set_option linter.unusedVariables false
set_option maxHeartbeats 4000000

theorem early (a ab : Option Addr) (n c nb cb : Nat) (z : Int) (AV : Array Value) (w : World) (hl : Laid w) (hm : n ≤ 9223372036854775807) (hmb : nb ≤ 9223372036854775807) (h : 4096 < n ∨ 4096 < nb) :
    Calls Tryd.prog 5 #[.slice a n c, .slice ab nb cb, .int .i64 z, .agg AV] w fun e w' => e = .returned (.bool true) ∧ Below w.heap.size w w' := by
  have D1 : Hid (Below w.heap.size w (w.alloc (.cells AV 28))) := Lib.hid ((Below.refl _ _).alloc (Nat.le_refl _) _)
  have HK := Lib.hid (knownW (w.alloc (.cells AV 28)) (hl.below D1.out))
  clear hl
  rcases (show 4096 < n ∨ (¬ 4096 < n ∧ 4096 < nb) by omega) with h | ⟨h1, h2⟩
  all_goals
    go_enter Tryd.func5, Tryd.ntmps5
    go_wp2_with fail
    refine HK.out.mono ?_
    rintro e w1 ⟨rfl, b1⟩
    have B1 := Lib.hid (D1.out.trans (b1.mono D1.out.size))
    clear b1
    go_wp2_with fail
    go_ret
    exact ⟨rfl, B1.out⟩

set_option maxRecDepth 100000 in
theorem long (key bl x : List ShM.B8) (a ab : Option Addr) (n c nb cb : Nat) (z : Int) (w : World) (hl : Laid w) (hn : key.length = n) (hk : ShN.One w (.slice a n c) key) (hnb : bl.length = nb) (hb : ShN.One w (.slice ab nb cb) bl) (h1 : n ≤ 4096) (h2 : nb ≤ 4096) (hlong : 64 < n) :
    Calls Tryd.prog 5 #[.slice a n c, .slice ab nb cb, .int .i64 z, .agg (b32 x)] w fun e w' => e = .returned (.bool true) ∧ Below w.heap.size w w' := by
  have hw2 := Laid.two hl
  obtain ⟨AV, hAV⟩ : ∃ AV, AV = b32 x := ⟨_, rfl⟩
  obtain ⟨Z, hZ⟩ : ∃ Z, Z = z28 := ⟨_, rfl⟩
  obtain ⟨MV, hMV⟩ : ∃ MV, MV = b32 (mac key bl) := ⟨_, rfl⟩
  rw [← hAV]
  have D1 : Hid (Below w.heap.size w (w.alloc (.cells AV 28))) := Lib.hid ((Below.refl _ _).alloc (Nat.le_refl _) _)
  have A1 : Hid (Mem.Blk (w.alloc (.cells AV 28)) w.heap.size 28 AV) := Lib.hid (Mem.Blk.new w 28 AV)
  have HK := Lib.hid (knownW (w.alloc (.cells AV 28)) (hl.below D1.out))
  have HMC : Hid (∀ (k' : List ShM.B8) ak nk ck w' g, Below w.heap.size w w' → k'.length = nk → mac k' bl = mac key bl → ShN.One w' (.slice ak nk ck) k' → Mem.Blk w' g 22 #[.slice ab nb cb] → Calls Tryd.prog 11 #[.slice ak nk ck, .slice (some ⟨g, 0, none⟩) 1 1] w' fun e w'' => e = .returned (.agg MV) ∧ Below w'.heap.size w' w'') := Lib.hid fun k' ak nk ck w' g hb' hnk he hk' hB => by
    have := macW k' ak nk ck [bl] (some ⟨g, 0, none⟩) 1 1 w' (hl.below hb') hnk hk' rfl (Arg.one hB (hb.below hb')) (by omega)
    rwa [show [bl].flatten = bl by simp, he, ← hMV] at this
  have HK1 : Hid (∀ w', Below w.heap.size w w' → ShN.One w' (.slice a n c) key) := Lib.hid fun w' hb => hk.below hb
  have HEQ : Hid (∀ w : World, Calls Tryd.prog 18 #[.agg MV, .agg MV] w fun e w' => e = .returned (.bool true) ∧ Below w.heap.size w w') := Lib.hid fun w => by
    rw [hMV]
    refine (equalW (mac key bl) (mac key bl) w).mono ?_
    rintro e w' ⟨rfl, hb⟩
    exact ⟨by simp, hb⟩
  obtain ⟨r, hr⟩ : ∃ r, r = decide (∀ i ∈ List.range 32, (mac key bl).getD i 0 = x.getD i 0) := ⟨_, rfl⟩
  have HEA : Hid (∀ w : World, Calls Tryd.prog 18 #[.agg MV, .agg AV] w fun e w' => e = .returned (.bool r) ∧ Below w.heap.size w w') := Lib.hid fun w => by
    rw [hMV, hAV, hr]
    exact equalW (mac key bl) x w
  have HEB : Hid (∀ w : World, (binOp .eql 28 (.agg MV) (.agg AV)).run Tryd.prog w = .ok (.bool r) w) := Lib.hid fun w => by rw [hMV, hAV, hr]; exact eql28 _ _ w
  have HNM : Hid (∀ w : World, (binOp .neq 28 (.agg MV) (.agg MV)).run Tryd.prog w = .ok (.bool false) w) := Lib.hid fun w => by rw [hMV]; exact neq_same _ w
  have iM : Hid ((Tryd.prog.info? 28).map (·.size) = some MV.size) := Lib.hid (by rw [hMV, b32_size]; exact i28')
  have oM : Hid (MV.all (·.oneCell') = true) := Lib.hid (by rw [hMV]; exact b32_one _)
  have sM : Hid (Z.size = MV.size) := Lib.hid (by rw [hZ, hMV, z28_size, b32_size])
  have zM : Hid (MV.size = 32) := Lib.hid (by rw [hMV, b32_size])
  have zA : Hid (AV.size = 32) := Lib.hid (by rw [hAV, b32_size])
  have HN := Lib.hid hn
  have HSO : Hid (∀ w' g, Below w.heap.size w w' → Mem.Blk w' g 22 #[.slice a n c] → Calls Tryd.prog 9 #[.slice (some ⟨g, 0, none⟩) 1 1] w' fun e w'' => e = .returned (.agg (b32 (ShM.sum key))) ∧ Below w'.heap.size w' w'') := Lib.hid fun w' g hb' hB => by
    have := ofW [key] (some ⟨g, 0, none⟩) 1 1 w' (hl.below hb') rfl (Arg.one hB (hk.below hb')) (by omega)
    rwa [show [key].flatten = key by simp] at this
  have hms : Hid (mac (ShM.sum key) bl = mac key bl) := Lib.hid (mac_sum key bl (by omega))
  have hl64 : (64 : Int) < (n : Int) := by omega
  have hn1 : ¬ (4096 : Int) < (n : Int) := by omega
  have hn2 : ¬ (4096 : Int) < (nb : Int) := by omega
  replace hMV := Lib.hid hMV
  replace hAV := Lib.hid hAV
  replace hZ := Lib.hid hZ
  replace hr := Lib.hid hr
  clear hl hk hb hn hnb h1 h2
  go_enter Tryd.func5, Tryd.ntmps5
  go_wp2_with fail
  refine HK.out.mono ?_
  rintro e w1 ⟨rfl, b1⟩
  have B1 := Lib.hid (D1.out.trans (b1.mono D1.out.size))
  have A2 := Lib.hid (A1.out.below b1 A1.out.lt)
  clear b1
  go_wp2_with fail
  have B2 := Lib.hid (B1.out.alloc B1.out.size (.cells #[.slice ab nb cb] 22))
  have A3 := Lib.hid (A2.out.alloc (.cells #[.slice ab nb cb] 22))
  refine (HMC.out key a n c _ w1.heap.size B2.out HN.out rfl (HK1.out _ B2.out) (Mem.Blk.new w1 22 _)).mono ?_
  rintro e w2 ⟨rfl, b2⟩
  have B3 := Lib.hid (B2.out.trans (b2.mono B2.out.size))
  have A4 := Lib.hid (A3.out.below b2 A3.out.lt)
  clear b2 B2 A3 A2 B1
  go_wp2_with (first
    | ((with_reducible show wpList _ _ _ (Oper.mk (some 9) (Op.alloc 28) _ _ _ _ :: _) _ _); refine ShL.alloc28 rfl rfl Z hZ.out ?_; intro w3 hB3 hb3 hn3; clear hn3)
    | ((with_reducible show wpList _ _ _ (Oper.mk _ (Op.store 28 (.tmp 9) (.tmp 24)) _ _ _ _ :: _) _ _); refine Mem.storeBlk 28 (.tmp 9) (.tmp 24) rfl w2.heap.size rfl Z MV rfl 28 hB3 iM.out sM.out oM.out w2.heap.size w2 hb3 (Nat.le_refl _) rfl ?_; intro w4 hB4 hb4
       have B4 := Lib.hid (B3.out.trans (hb4.mono B3.out.size))
       have A5 := Lib.hid (A4.out.below hb4 A4.out.lt)
       have M4 := Lib.hid hB4
       clear hB3 hb3 hB4 hb4))
  have B5 := Lib.hid (B4.out.alloc B4.out.size (.cells #[.slice a n c] 22))
  have A6 := Lib.hid (A5.out.alloc (.cells #[.slice a n c] 22))
  have M5 := Lib.hid (M4.out.alloc (.cells #[.slice a n c] 22))
  refine (HSO.out _ w4.heap.size B5.out (Mem.Blk.new w4 22 _)).mono ?_
  rintro e w5 ⟨rfl, b5⟩
  have B6 := Lib.hid (B5.out.trans (b5.mono B5.out.size))
  have A7 := Lib.hid (A6.out.below b5 A6.out.lt)
  have M6 := Lib.hid (M5.out.below b5 M5.out.lt)
  clear b5 B5 A6 M5
  obtain ⟨SV, hSV⟩ : ∃ SV, SV = b32 (ShM.sum key) := ⟨_, rfl⟩
  rw [← hSV]
  have iS : Hid ((Tryd.prog.info? 28).map (·.size) = some SV.size) := Lib.hid (by rw [hSV, b32_size]; exact i28')
  have oS : Hid (SV.all (·.oneCell') = true) := Lib.hid (by rw [hSV]; exact b32_one _)
  have sS : Hid (Z.size = SV.size) := Lib.hid (by rw [hZ.out, hSV, z28_size, b32_size])
  replace hSV := Lib.hid hSV
  go_wp2_with (first
    | ((with_reducible show wpList _ _ _ (Oper.mk (some 10) (Op.alloc 28) _ _ _ _ :: _) _ _); refine ShL.alloc28 rfl rfl Z hZ.out ?_; intro w6 hB6 hb6 hn6; clear hn6)
    | ((with_reducible show wpList _ _ _ (Oper.mk _ (Op.store 28 (.tmp 10) (.tmp 30)) _ _ _ _ :: _) _ _); refine Mem.storeBlk 28 (.tmp 10) (.tmp 30) rfl w5.heap.size rfl Z SV rfl 28 hB6 iS.out sS.out oS.out w5.heap.size w5 hb6 (Nat.le_refl _) rfl ?_; intro w7 hB7 hb7
       have B8 := Lib.hid (B6.out.trans (hb7.mono B6.out.size))
       have A9 := Lib.hid (A7.out.below hb7 A7.out.lt)
       have M8 := Lib.hid (M6.out.below hb7 M6.out.lt)
       have S8' := Lib.hid hB7
       clear hB6 hb6 hB7 hb7))
  have M1 := Lib.hid M8.out.drew
  have A1' := Lib.hid A9.out.drew
  have S1 := Lib.hid S8'.out.drew
  have BB1 := Lib.hid B8.out.drew
  clear M8 A9 S8' B8
  refine wp_region_held_drew (S := fun w' => (loadVar 28 ⟨w2.heap.size, 0, none⟩).run Tryd.prog w' = .ok (.agg MV) w') (by kernel_rfl) (loadOf M1.out zM.out) (fun hS => ?_)
  try simp only [List.size_toArray, List.length_cons, List.length_nil, Nat.reduceAdd]
  refine wpAnyH_take (i := 0) (v := .agg MV) (by simp only [List.getElem?_toArray, List.getElem?_cons_zero]; rfl) (by kernel_rfl) (by kernel_rfl) (by kernel_rfl) (by exact fun _ _ _ h => h) (Or.inl ⟨by rfl, ?_⟩) hS ?_
  · intro wz hSw
    exact exec_load 28 (.tmp 9) rfl ⟨w2.heap.size, 0, none⟩ rfl _ wz hSw
  try simp only [Act.put, List.setIfInBounds_toArray, List.set_cons_zero, List.set_cons_succ]
  refine wpAnyH_take (i := 1) (v := ?_) (by simp only [List.getElem?_toArray, List.getElem?_cons_succ, List.getElem?_cons_zero]; rfl) (by kernel_rfl) (by kernel_rfl) (by kernel_rfl) (by exact fun _ _ _ h => h) (Or.inl ⟨by rfl, ?_⟩) hS ?_
  rotate_left
  · intro w hSw
    go_simp
    try with_reducible rfl
  try simp only [Act.put, List.setIfInBounds_toArray, List.set_cons_zero, List.set_cons_succ]
  refine wpAnyH_take (i := 2) (v := ?_) (by simp only [List.getElem?_toArray, List.getElem?_cons_succ, List.getElem?_cons_zero]; rfl) (by kernel_rfl) (by kernel_rfl) (by kernel_rfl) (by exact fun _ _ _ h => h) (Or.inl ⟨by rfl, ?_⟩) hS ?_
  rotate_left
  · intro w hSw
    go_simp
    try with_reducible rfl
  try simp only [Act.put, List.setIfInBounds_toArray, List.set_cons_zero, List.set_cons_succ]
  refine wpAnyH_ready (rs := [3]) (by kernel_rfl) (by simp) ?_
  refine AllReadyH.cons (by simp only [List.getElem?_toArray, List.getElem?_cons_succ, List.getElem?_cons_zero]; rfl) (fun K hK => ?_) AllReadyH.nil
  go_simp
  have M2 := Lib.hid (M1.out.alloc (.cells #[.slice ab nb cb] 22))
  have A2' := Lib.hid (A1'.out.alloc (.cells #[.slice ab nb cb] 22))
  have S2 := Lib.hid (S1.out.alloc (.cells #[.slice ab nb cb] 22))
  have BB2 := Lib.hid (BB1.out.alloc BB1.out.size (.cells #[.slice ab nb cb] 22))
  have N2 := Lib.hid (Mem.Blk.new w7.drew 22 #[.slice ab nb cb])
  refine hK.out _ _ (loadOf M2.out zM.out) (fun hS => ?_)
  clear hK K
  try simp only [Act.put, List.setIfInBounds_toArray, List.set_cons_zero, List.set_cons_succ]
  refine wpAnyH_ready (rs := [4]) (by kernel_rfl) (by simp) ?_
  refine AllReadyH.cons (by simp only [List.getElem?_toArray, List.getElem?_cons_succ, List.getElem?_cons_zero]; rfl) (fun K hK => ?_) AllReadyH.nil
  go_simp
  go_at_call 11
  refine (HMC.out (ShM.sum key) (some ⟨w5.heap.size, 0, none⟩) 32 32 _ w7.drew.heap.size BB2.out (sum_len _) hms.out (One.sum (sum_len _) (by have := S2.out; rwa [hSV.out] at this)) N2.out).mono ?_
  rintro e w8 ⟨rfl, b8⟩
  have M3 := Lib.hid (M2.out.below b8 M2.out.lt)
  have A3' := Lib.hid (A2'.out.below b8 A2'.out.lt)
  have BB3 := Lib.hid (BB2.out.trans (b8.mono BB2.out.size))
  clear b8
  refine hK.out _ _ (loadOf M3.out zM.out) (fun hS => ?_)
  clear hK K
  try simp only [Act.put, List.setIfInBounds_toArray, List.set_cons_zero, List.set_cons_succ]
  refine wpAnyH_take (i := 5) (v := .bool false) (by simp only [List.getElem?_toArray, List.getElem?_cons_succ, List.getElem?_cons_zero]; rfl) (by kernel_rfl) (by kernel_rfl) (by kernel_rfl) (by exact fun _ _ _ h => h) (Or.inl ⟨by rfl, ?_⟩) hS ?_
  · intro wz hSw
    exact exec_neq (.tmp 31) (.tmp 35) rfl MV MV rfl rfl _ wz (HNM.out wz)
  try simp only [Act.put, List.setIfInBounds_toArray, List.set_cons_zero, List.set_cons_succ]
  refine wpAnyH_done (by kernel_rfl) ?_ _
  go_wp2_with fail
  have M7 := Lib.hid M3.out.drew
  have A7 := Lib.hid A3'.out.drew
  have B7 := Lib.hid BB3.out.drew
  refine wp_region_held_drew (S := fun w' => (loadVar 28 ⟨w2.heap.size, 0, none⟩).run Tryd.prog w' = .ok (.agg MV) w' ∧ (loadVar 28 ⟨w.heap.size, 0, none⟩).run Tryd.prog w' = .ok (.agg AV) w') (by kernel_rfl) ⟨loadOf M7.out zM.out, loadOf A7.out zA.out⟩ (fun hS => ?_)
  try simp only [List.size_toArray, List.length_cons, List.length_nil, Nat.reduceAdd]
  refine wpAnyH_take (i := 0) (v := .agg MV) (by simp only [List.getElem?_toArray, List.getElem?_cons_zero]; rfl) (by kernel_rfl) (by kernel_rfl) (by kernel_rfl) (by exact fun _ _ _ h => h) (Or.inl ⟨by rfl, ?_⟩) hS ?_
  · intro wz hSw
    exact exec_load 28 (.tmp 9) rfl ⟨w2.heap.size, 0, none⟩ rfl _ wz hSw.1
  try simp only [Act.put, List.setIfInBounds_toArray, List.set_cons_zero, List.set_cons_succ]
  refine wpAnyH_take (i := 1) (v := .agg MV) (by simp only [List.getElem?_toArray, List.getElem?_cons_succ, List.getElem?_cons_zero]; rfl) (by kernel_rfl) (by kernel_rfl) (by kernel_rfl) (by exact fun _ _ _ h => h) (Or.inl ⟨by rfl, ?_⟩) hS ?_
  · intro wz hSw
    exact exec_load 28 (.tmp 9) rfl ⟨w2.heap.size, 0, none⟩ rfl _ wz hSw.1
  try simp only [Act.put, List.setIfInBounds_toArray, List.set_cons_zero, List.set_cons_succ]
  refine wpAnyH_ready (rs := [2]) (by kernel_rfl) (by simp) ?_
  refine AllReadyH.cons (by simp only [List.getElem?_toArray, List.getElem?_cons_succ, List.getElem?_cons_zero]; rfl) (fun K hK => ?_) AllReadyH.nil
  go_simp
  go_at_call 18
  refine (HEQ.out _).mono ?_
  rintro e wq ⟨rfl, bq⟩
  have M8 := Lib.hid (M7.out.below bq M7.out.lt)
  have A8 := Lib.hid (A7.out.below bq A7.out.lt)
  have B8 := Lib.hid (B7.out.trans (bq.mono B7.out.size))
  clear bq
  refine hK.out _ _ ⟨loadOf M8.out zM.out, loadOf A8.out zA.out⟩ (fun hS => ?_)
  clear hK K
  try simp only [Act.put, List.setIfInBounds_toArray, List.set_cons_zero, List.set_cons_succ]
  refine wpAnyH_take (i := 3) (v := ?_) (by simp only [List.getElem?_toArray, List.getElem?_cons_succ, List.getElem?_cons_zero]; rfl) (by kernel_rfl) (by kernel_rfl) (by kernel_rfl) (by exact fun _ _ _ h => h) (Or.inl ⟨by rfl, ?_⟩) hS ?_
  rotate_left
  · intro w hSw
    go_simp
    try with_reducible rfl
  try simp only [Act.put, List.setIfInBounds_toArray, List.set_cons_zero, List.set_cons_succ]
  refine wpAnyH_take (i := 4) (v := .agg MV) (by simp only [List.getElem?_toArray, List.getElem?_cons_succ, List.getElem?_cons_zero]; rfl) (by kernel_rfl) (by kernel_rfl) (by kernel_rfl) (by exact fun _ _ _ h => h) (Or.inl ⟨by rfl, ?_⟩) hS ?_
  · intro wz hSw
    exact exec_load 28 (.tmp 9) rfl ⟨w2.heap.size, 0, none⟩ rfl _ wz hSw.1
  try simp only [Act.put, List.setIfInBounds_toArray, List.set_cons_zero, List.set_cons_succ]
  refine wpAnyH_take (i := 5) (v := .agg AV) (by simp only [List.getElem?_toArray, List.getElem?_cons_succ, List.getElem?_cons_zero]; rfl) (by kernel_rfl) (by kernel_rfl) (by kernel_rfl) (by exact fun _ _ _ h => h) (Or.inl ⟨by rfl, ?_⟩) hS ?_
  · intro wz hSw
    exact exec_load 28 (.tmp 7) rfl ⟨w.heap.size, 0, none⟩ rfl _ wz hSw.2
  try simp only [Act.put, List.setIfInBounds_toArray, List.set_cons_zero, List.set_cons_succ]
  refine wpAnyH_take (i := 7) (v := .agg MV) (by simp only [List.getElem?_toArray, List.getElem?_cons_succ, List.getElem?_cons_zero]; rfl) (by kernel_rfl) (by kernel_rfl) (by kernel_rfl) (by exact fun _ _ _ h => h) (Or.inl ⟨by rfl, ?_⟩) hS ?_
  · intro wz hSw
    exact exec_load 28 (.tmp 9) rfl ⟨w2.heap.size, 0, none⟩ rfl _ wz hSw.1
  try simp only [Act.put, List.setIfInBounds_toArray, List.set_cons_zero, List.set_cons_succ]
  refine wpAnyH_take (i := 8) (v := .agg AV) (by simp only [List.getElem?_toArray, List.getElem?_cons_succ, List.getElem?_cons_zero]; rfl) (by kernel_rfl) (by kernel_rfl) (by kernel_rfl) (by exact fun _ _ _ h => h) (Or.inl ⟨by rfl, ?_⟩) hS ?_
  · intro wz hSw
    exact exec_load 28 (.tmp 7) rfl ⟨w.heap.size, 0, none⟩ rfl _ wz hSw.2
  try simp only [Act.put, List.setIfInBounds_toArray, List.set_cons_zero, List.set_cons_succ]
  refine wpAnyH_take (i := 9) (v := .bool r) (by simp only [List.getElem?_toArray, List.getElem?_cons_succ, List.getElem?_cons_zero]; rfl) (by kernel_rfl) (by kernel_rfl) (by kernel_rfl) (by exact fun _ _ _ h => h) (Or.inl ⟨by rfl, ?_⟩) hS ?_
  · intro wz hSw
    exact exec_eql (.tmp 63) (.tmp 64) rfl MV AV rfl rfl _ wz (HEB.out wz)
  try simp only [Act.put, List.setIfInBounds_toArray, List.set_cons_zero, List.set_cons_succ]
  refine wpAnyH_ready (rs := [6]) (by kernel_rfl) (by simp) ?_
  refine AllReadyH.cons (by simp only [List.getElem?_toArray, List.getElem?_cons_succ, List.getElem?_cons_zero]; rfl) (fun K hK => ?_) AllReadyH.nil
  go_simp
  go_at_call 18
  refine (HEA.out _).mono ?_
  rintro e wq2 ⟨rfl, bq⟩
  have M9 := Lib.hid (M8.out.below bq M8.out.lt)
  have A9 := Lib.hid (A8.out.below bq A8.out.lt)
  have B9 := Lib.hid (B8.out.trans (bq.mono B8.out.size))
  clear bq
  refine hK.out _ _ ⟨loadOf M9.out zM.out, loadOf A9.out zA.out⟩ (fun hS => ?_)
  clear hK K
  try simp only [Act.put, List.setIfInBounds_toArray, List.set_cons_zero, List.set_cons_succ]
  refine wpAnyH_take (i := 10) (v := ?_) (by simp only [List.getElem?_toArray, List.getElem?_cons_succ, List.getElem?_cons_zero]; rfl) (by kernel_rfl) (by kernel_rfl) (by kernel_rfl) (by exact fun _ _ _ h => h) (Or.inl ⟨by rfl, ?_⟩) hS ?_
  rotate_left
  · intro w hSw
    go_simp
    try with_reducible rfl
  try simp only [Act.put, List.setIfInBounds_toArray, List.set_cons_zero, List.set_cons_succ]
  refine wpAnyH_take (i := 11) (v := ?_) (by simp only [List.getElem?_toArray, List.getElem?_cons_succ, List.getElem?_cons_zero]; rfl) (by kernel_rfl) (by kernel_rfl) (by kernel_rfl) (by exact fun _ _ _ h => h) (Or.inl ⟨by rfl, ?_⟩) hS ?_
  rotate_left
  · intro w hSw
    go_simp
    try with_reducible rfl
  try simp only [Act.put, List.setIfInBounds_toArray, List.set_cons_zero, List.set_cons_succ]
  refine wpAnyH_take (i := 12) (v := ?_) (by simp only [List.getElem?_toArray, List.getElem?_cons_succ, List.getElem?_cons_zero]; rfl) (by kernel_rfl) (by kernel_rfl) (by kernel_rfl) (by exact fun _ _ _ h => h) (Or.inl ⟨by rfl, ?_⟩) hS ?_
  rotate_left
  · intro w hSw
    go_simp
    try with_reducible rfl
  try simp only [Act.put, List.setIfInBounds_toArray, List.set_cons_zero, List.set_cons_succ]
  refine wpAnyH_done (by kernel_rfl) ?_ _
  go_wp2_with fail
  go_ret
  exact ⟨by simp, B9.out⟩

end Go.Proofs.YtlfohiejlajmaaaDoor.ShV
