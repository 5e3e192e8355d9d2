/- The law of keys. -/
import Derived.Test.YtlfohiejlajmaaaDoorShU
namespace Go.Proofs.YtlfohiejlajmaaaDoor.ShV2
open Go.ChangeShapes Go.WideShapes Go.ChangeAt Go.RowKit
open ShM ShA ShB ShC ShD ShE ShF ShG ShH ShI ShJ ShK ShL ShN ShO ShP ShQ ShR ShS ShU Mem
open ShT (Rd vals vals_length vals_one)
set_option linter.unusedVariables false
set_option maxHeartbeats 4000000


set_option maxRecDepth 100000 in
theorem short2 (key bl x : List ShM.B8) (a ab : Option Addr) (n c nb cb : Nat) (z : Int) (w : World) (hl : Laid w) (hn : key.length = n) (hk : ShN.One w (.slice a n c) key) (hnb : bl.length = nb) (hb : ShN.One w (.slice ab nb cb) bl) (h1 : n ≤ 4096) (h2 : nb ≤ 4096) (hlong : n ≤ 64 ∧ ¬ z < 0 ∧ 64 - (n : Int) < z) :
    Calls Tryd.prog 5 #[.slice a n c, .slice ab nb cb, .int .i64 z, .agg (b32 x)] w fun e w' => e = .returned (.bool true) ∧ Below w.heap.size w w' := by
  have hw2 := Laid.two hl
  obtain ⟨AV, hAV⟩ : ∃ AV, AV = b32 x := ⟨_, rfl⟩
  obtain ⟨Z, hZ⟩ : ∃ Z, Z = z28 := ⟨_, rfl⟩
  obtain ⟨MV, hMV⟩ : ∃ MV, MV = b32 (mac key bl) := ⟨_, rfl⟩
  rw [← hAV]
  have D1 : Hid (Below w.heap.size w (w.alloc (.cells AV 28))) := Lib.hid ((Below.refl _ _).alloc (Nat.le_refl _) _)
  have A1 : Hid (Mem.Blk (w.alloc (.cells AV 28)) w.heap.size 28 AV) := Lib.hid (Mem.Blk.new w 28 AV)
  have HK := Lib.hid (knownW (w.alloc (.cells AV 28)) (hl.below D1.out))
  have HMC : Hid (∀ (k' : List ShM.B8) ak nk ck w' g, Below w.heap.size w w' → k'.length = nk → mac k' bl = mac key bl → ShN.One w' (.slice ak nk ck) k' → Mem.Blk w' g 22 #[.slice ab nb cb] → Calls Tryd.prog 11 #[.slice ak nk ck, .slice (some ⟨g, 0, none⟩) 1 1] w' fun e w'' => e = .returned (.agg MV) ∧ Below w'.heap.size w' w'') := Lib.hid fun k' ak nk ck w' g hb' hnk he hk' hB => by
    have := macW k' ak nk ck [bl] (some ⟨g, 0, none⟩) 1 1 w' (hl.below hb') hnk hk' rfl (Arg.one hB (hb.below hb')) (by omega)
    rwa [show [bl].flatten = bl by simp, he, ← hMV] at this
  have HK1 : Hid (∀ w', Below w.heap.size w w' → ShN.One w' (.slice a n c) key) := Lib.hid fun w' hb => hk.below hb
  have HEQ : Hid (∀ w : World, Calls Tryd.prog 18 #[.agg MV, .agg MV] w fun e w' => e = .returned (.bool true) ∧ Below w.heap.size w w') := Lib.hid fun w => by
    rw [hMV]
    refine (equalW (mac key bl) (mac key bl) w).mono ?_
    rintro e w' ⟨rfl, hb⟩
    exact ⟨by simp, hb⟩
  obtain ⟨r, hr⟩ : ∃ r, r = decide (∀ i ∈ List.range 32, (mac key bl).getD i 0 = x.getD i 0) := ⟨_, rfl⟩
  have HEA : Hid (∀ w : World, Calls Tryd.prog 18 #[.agg MV, .agg AV] w fun e w' => e = .returned (.bool r) ∧ Below w.heap.size w w') := Lib.hid fun w => by
    rw [hMV, hAV, hr]
    exact equalW (mac key bl) x w
  have HEB : Hid (∀ w : World, (binOp .eql 28 (.agg MV) (.agg AV)).run Tryd.prog w = .ok (.bool r) w) := Lib.hid fun w => by rw [hMV, hAV, hr]; exact eql28 _ _ w
  have HNM : Hid (∀ w : World, (binOp .neq 28 (.agg MV) (.agg MV)).run Tryd.prog w = .ok (.bool false) w) := Lib.hid fun w => by rw [hMV]; exact neq_same _ w
  have iM : Hid ((Tryd.prog.info? 28).map (·.size) = some MV.size) := Lib.hid (by rw [hMV, b32_size]; exact i28')
  have oM : Hid (MV.all (·.oneCell') = true) := Lib.hid (by rw [hMV]; exact b32_one _)
  have sM : Hid (Z.size = MV.size) := Lib.hid (by rw [hZ, hMV, z28_size, b32_size])
  have zM : Hid (MV.size = 32) := Lib.hid (by rw [hMV, b32_size])
  have zA : Hid (AV.size = 32) := Lib.hid (by rw [hAV, b32_size])
  have HN := Lib.hid hn
  obtain ⟨q, hq⟩ : ∃ q : Nat, q = 0 := ⟨_, rfl⟩
  have hqz : Hid ((0 : Int) = (q : Int)) := Lib.hid (by omega)
  have hqn : Hid ((key ++ List.replicate q 0#8).length = n + q) := Lib.hid (by simp <;> omega)
  have hmz : Hid (mac (key ++ List.replicate q 0#8) bl = mac key bl) := Lib.hid (mac_zeros key bl q (by omega))
  have hn1m : Hid (n ≤ 1000000) := Lib.hid (by omega)
  have hnqm : Hid (n + q ≤ 1000000) := Lib.hid (by omega)
  have hl64 : ¬ (64 : Int) < (n : Int) := by omega
  have hz1 : ¬ z < 0 := hlong.2.1
  have hz2 : 64 - (n : Int) < z := hlong.2.2
  replace hq := Lib.hid hq
  have hn1 : ¬ (4096 : Int) < (n : Int) := by omega
  have hn2 : ¬ (4096 : Int) < (nb : Int) := by omega
  replace hMV := Lib.hid hMV
  replace hAV := Lib.hid hAV
  replace hZ := Lib.hid hZ
  replace hr := Lib.hid hr
  clear hl hk hb hn hnb h1 h2
  go_enter Tryd.func5, Tryd.ntmps5
  go_wp2_with fail
  refine HK.out.mono ?_
  rintro e w1 ⟨rfl, b1⟩
  have B1 := Lib.hid (D1.out.trans (b1.mono D1.out.size))
  have A2 := Lib.hid (A1.out.below b1 A1.out.lt)
  clear b1
  go_wp2_with fail
  have B2 := Lib.hid (B1.out.alloc B1.out.size (.cells #[.slice ab nb cb] 22))
  have A3 := Lib.hid (A2.out.alloc (.cells #[.slice ab nb cb] 22))
  refine (HMC.out key a n c _ w1.heap.size B2.out HN.out rfl (HK1.out _ B2.out) (Mem.Blk.new w1 22 _)).mono ?_
  rintro e w2 ⟨rfl, b2⟩
  have B3 := Lib.hid (B2.out.trans (b2.mono B2.out.size))
  have A4 := Lib.hid (A3.out.below b2 A3.out.lt)
  clear b2 B2 A3 A2 B1
  go_wp2_with (first
    | ((with_reducible show wpList _ _ _ (Oper.mk (some 9) (Op.alloc 28) _ _ _ _ :: _) _ _); refine ShL.alloc28 rfl rfl Z hZ.out ?_; intro w3 hB3 hb3 hn3; clear hn3)
    | ((with_reducible show wpList _ _ _ (Oper.mk _ (Op.store 28 (.tmp 9) (.tmp 24)) _ _ _ _ :: _) _ _); refine Mem.storeBlk 28 (.tmp 9) (.tmp 24) rfl w2.heap.size rfl Z MV rfl 28 hB3 iM.out sM.out oM.out w2.heap.size w2 hb3 (Nat.le_refl _) rfl ?_; intro w4 hB4 hb4
       have B4 := Lib.hid (B3.out.trans (hb4.mono B3.out.size))
       have A5 := Lib.hid (A4.out.below hb4 A4.out.lt)
       have M4 := Lib.hid hB4
       clear hB3 hb3 hB4 hb4))
  have HS0 : Hid (w2.heap.size < w4.drew.heap.size ∧ w.heap.size < w4.drew.heap.size) := Lib.hid ⟨M4.out.lt, A5.out.lt⟩
  have M0 := Lib.hid M4.out.drew
  have A0 := Lib.hid A5.out.drew
  have B0 := Lib.hid B4.out.drew
  generalize hV0 : w4.drew = V0 at HS0 M0 A0 B0
  have Z0 := Lib.hid (Nat.le_refl V0.heap.size)
  refine wp_region_held_drew (S := fun w' => (loadVar 28 ⟨w2.heap.size, 0, none⟩).run Tryd.prog w' = .ok (.agg MV) w') (by kernel_rfl) (by rw [hV0]; exact loadOf M0.out zM.out) (fun hS => ?_)
  rw [hV0] at hS ⊢
  clear hV0
  try simp only [List.size_toArray, List.length_cons, List.length_nil, Nat.reduceAdd]
  refine wpAnyH_take (i := 0) (v := .agg MV) (by simp only [List.getElem?_toArray, List.getElem?_cons_zero]; rfl) (by kernel_rfl) (by kernel_rfl) (by kernel_rfl) (by exact fun _ _ _ h => h) (Or.inl ⟨by rfl, ?_⟩) hS ?_
  · intro wz hSw
    exact exec_load 28 (.tmp 9) rfl ⟨w2.heap.size, 0, none⟩ rfl _ wz hSw
  try simp only [Act.put, List.setIfInBounds_toArray, List.set_cons_zero, List.set_cons_succ]
  refine wpAnyH_take (i := 2) (v := ?_) (by simp only [List.getElem?_toArray, List.getElem?_cons_succ, List.getElem?_cons_zero]; rfl) (by kernel_rfl) (by kernel_rfl) (by kernel_rfl) (by exact fun _ _ _ h => h) (Or.inl ⟨by rfl, ?_⟩) hS ?_
  rotate_left
  · intro w hSw
    go_simp
    try with_reducible rfl
  try simp only [Act.put, List.setIfInBounds_toArray, List.set_cons_zero, List.set_cons_succ]
  refine wpAnyH_take (i := 4) (v := ?_) (by simp only [List.getElem?_toArray, List.getElem?_cons_succ, List.getElem?_cons_zero]; rfl) (by kernel_rfl) (by kernel_rfl) (by kernel_rfl) (by exact fun _ _ _ h => h) (Or.inl ⟨by rfl, ?_⟩) hS ?_
  rotate_left
  · intro w hSw
    go_simp
    try with_reducible rfl
  try simp only [Act.put, List.setIfInBounds_toArray, List.set_cons_zero, List.set_cons_succ]
  refine wpAnyH_take (i := 6) (v := ?_) (by simp only [List.getElem?_toArray, List.getElem?_cons_succ, List.getElem?_cons_zero]; rfl) (by kernel_rfl) (by kernel_rfl) (by kernel_rfl) (by exact fun _ _ _ h => h) (Or.inl ⟨by rfl, ?_⟩) hS ?_
  rotate_left
  · intro w hSw
    go_simp
    try with_reducible rfl
  try simp only [Act.put, List.setIfInBounds_toArray, List.set_cons_zero, List.set_cons_succ]
  refine wpAnyH_ready (rs := [1, 7]) (by kernel_rfl) (by simp) ?_
  refine AllReadyH.cons (by simp only [List.getElem?_toArray, List.getElem?_cons_succ, List.getElem?_cons_zero]; rfl) (fun K hK => ?_) (AllReadyH.cons (by simp only [List.getElem?_toArray, List.getElem?_cons_succ, List.getElem?_cons_zero]; rfl) (fun K hK => ?_) AllReadyH.nil)
  · go_simp
    have M18 := Lib.hid (M0.out.alloc (.cells #[] 5))
    have A18 := Lib.hid (A0.out.alloc (.cells #[] 5))
    have B18 := Lib.hid (B0.out.alloc B0.out.size (.cells #[] 5))
    have Z18 : Hid (V0.heap.size ≤ (V0.alloc (.cells #[] 5)).heap.size) := Lib.hid (by have := Z0.out; simp <;> omega)
    have O18 : Hid (ShT.Own (V0.alloc (.cells #[] 5)) V0.heap.size (.slice (some ⟨V0.heap.size, 0, none⟩) 0 0) []) := Lib.hid (ShT.Own.made V0 V0.heap.size (Nat.le_refl _) #[] 0 [] rfl (Nat.zero_le _) rfl)
    have X18 : Hid (V0.heap.size ≤ (V0.alloc (.cells #[] 5)).heap.size) := Lib.hid (by simp)
    generalize V0.alloc (.cells #[] 5) = u18 at M18  A18  B18  Z18  O18  X18 ⊢
    refine hK.out _ _ (loadOf M18.out zM.out) (fun hS => ?_)
    clear hK K
    try simp only [Act.put, List.setIfInBounds_toArray, List.set_cons_zero, List.set_cons_succ]
    refine wpAnyH_ready (rs := [3, 7]) (by kernel_rfl) (by simp) ?_
    refine AllReadyH.cons (by simp only [List.getElem?_toArray, List.getElem?_cons_succ, List.getElem?_cons_zero]; rfl) (fun K hK => ?_) (AllReadyH.cons (by simp only [List.getElem?_toArray, List.getElem?_cons_succ, List.getElem?_cons_zero]; rfl) (fun K hK => ?_) AllReadyH.nil)
    · obtain ⟨ka19, kc19, ke19, kr19, _⟩ := HK1.out u18 B18.out
      injection ke19 with ke1 ke2 ke3
      subst ke1 ke3
      clear ke2
      refine stepApp rfl (.tmp 47) (.tmp 48) rfl V0.heap.size (.slice (some ⟨V0.heap.size, 0, none⟩) 0 0) [] rfl O18.out a key n c rfl HN.out kr19 n HN.out hn1m.out X18.out ?_
      intro a19 c19 u19 ho19 hg19 ne19
      have O19 : Hid (ShT.Own u19 V0.heap.size (.slice a19 n c19) key) := Lib.hid ho19
      have hbl19 : ∀ k, ((.slice (some ⟨V0.heap.size, 0, none⟩) 0 0) : Value).ownBlock = some k → V0.heap.size ≤ k := fun k e => Nat.le_trans Z0.out (ShT.Own.blocks O18.out k e).1
      have M19 := Lib.hid (blkOwn M18.out hg19 (fun e => by have := hbl19 _ e; have := HS0.out.1; omega))
      have A19 := Lib.hid (blkOwn A18.out hg19 (fun e => by have := hbl19 _ e; have := HS0.out.2; omega))
      have B19 := Lib.hid (B18.out.grown hg19 B18.out.size (fun k e => by have := hbl19 k e; have := HS0.out.2; omega))
      have Z19 := Lib.hid (Nat.le_trans Z18.out hg19.size)
      have X19 := Lib.hid (Nat.le_trans X18.out hg19.size)
      clear ho19 hg19 hbl19 ne19
      refine hK.out _ _ (loadOf M19.out zM.out) (fun hS => ?_)
      clear hK K
      try simp only [Act.put, List.setIfInBounds_toArray, List.set_cons_zero, List.set_cons_succ]
      refine wpAnyH_ready (rs := [5, 7]) (by kernel_rfl) (by simp) ?_
      refine AllReadyH.cons (by simp only [List.getElem?_toArray, List.getElem?_cons_succ, List.getElem?_cons_zero]; rfl) (fun K hK => ?_) (AllReadyH.cons (by simp only [List.getElem?_toArray, List.getElem?_cons_succ, List.getElem?_cons_zero]; rfl) (fun K hK => ?_) AllReadyH.nil)
      · refine stepZeros rfl (.tmp 49) (.tmp 50) rfl V0.heap.size (.slice a19 n c19) key rfl O19.out q 0 hqz.out rfl (n + q) hqn.out hnqm.out X19.out ?_
        intro a20 c20 u20 ho20 hg20
        have O20 : Hid (ShT.Own u20 V0.heap.size (.slice a20 (n + q) c20) (key ++ List.replicate q 0#8)) := Lib.hid ho20
        have hbl20 : ∀ k, ((.slice a19 n c19) : Value).ownBlock = some k → V0.heap.size ≤ k := fun k e => Nat.le_trans Z0.out (ShT.Own.blocks O19.out k e).1
        have M20 := Lib.hid (blkOwn M19.out hg20 (fun e => by have := hbl20 _ e; have := HS0.out.1; omega))
        have A20 := Lib.hid (blkOwn A19.out hg20 (fun e => by have := hbl20 _ e; have := HS0.out.2; omega))
        have B20 := Lib.hid (B19.out.grown hg20 B19.out.size (fun k e => by have := hbl20 k e; have := HS0.out.2; omega))
        have Z20 := Lib.hid (Nat.le_trans Z19.out hg20.size)
        have X20 := Lib.hid (Nat.le_trans X19.out hg20.size)
        clear ho20 hg20 hbl20
        refine hK.out _ _ (loadOf M20.out zM.out) (fun hS => ?_)
        clear hK K
        try simp only [Act.put, List.setIfInBounds_toArray, List.set_cons_zero, List.set_cons_succ]
        refine wpAnyH_ready (rs := [7]) (by kernel_rfl) (by simp) ?_
        refine AllReadyH.cons (by simp only [List.getElem?_toArray, List.getElem?_cons_succ, List.getElem?_cons_zero]; rfl) (fun K hK => ?_) AllReadyH.nil
        go_simp
        have M21 := Lib.hid (M20.out.alloc (.cells #[.slice ab nb cb] 22))
        have A21 := Lib.hid (A20.out.alloc (.cells #[.slice ab nb cb] 22))
        have B21 := Lib.hid (B20.out.alloc B20.out.size (.cells #[.slice ab nb cb] 22))
        have Z21 : Hid (V0.heap.size ≤ (u20.alloc (.cells #[.slice ab nb cb] 22)).heap.size) := Lib.hid (by have := Z20.out; simp <;> omega)
        have N21 := Lib.hid (Mem.Blk.new u20 22 #[.slice ab nb cb])
        have O21 := Lib.hid (ShT.Own.alloc O20.out (.cells #[.slice ab nb cb] 22))
        have X21 : Hid (V0.heap.size ≤ (u20.alloc (.cells #[.slice ab nb cb] 22)).heap.size) := Lib.hid (by have := X20.out; simp <;> omega)
        have E21 : Hid (((.slice a20 (n + q) c20) : Value).ownBlock ≠ some u20.heap.size) := Lib.hid (by intro e; have := (ShT.Own.blocks O20.out _ e).2; omega)
        generalize u20.alloc (.cells #[.slice ab nb cb] 22) = u21 at M21  A21  B21  Z21  N21  O21  X21 ⊢
        refine hK.out _ _ (loadOf M21.out zM.out) (fun hS => ?_)
        clear hK K
        try simp only [Act.put, List.setIfInBounds_toArray, List.set_cons_zero, List.set_cons_succ]
        refine wpAnyH_ready (rs := [8]) (by kernel_rfl) (by simp) ?_
        refine AllReadyH.cons (by simp only [List.getElem?_toArray, List.getElem?_cons_succ, List.getElem?_cons_zero]; rfl) (fun K hK => ?_) AllReadyH.nil
        go_simp
        go_at_call 11
        refine (HMC.out (key ++ List.replicate q 0#8) _ (n + q) _ u21 u20.heap.size B21.out hqn.out hmz.out (One.own O21.out) N21.out).mono ?_
        rintro e v22 ⟨rfl, b8⟩
        have M22 := Lib.hid (M21.out.below b8 M21.out.lt)
        have A22 := Lib.hid (A21.out.below b8 A21.out.lt)
        have B22 := Lib.hid (B21.out.trans (b8.mono B21.out.size))
        clear b8
        refine hK.out _ _ (loadOf M22.out zM.out) (fun hS => ?_)
        clear hK K
        try simp only [Act.put, List.setIfInBounds_toArray, List.set_cons_zero, List.set_cons_succ]
        refine wpAnyH_take (i := 9) (v := .bool false) (by simp only [List.getElem?_toArray, List.getElem?_cons_succ, List.getElem?_cons_zero]; rfl) (by kernel_rfl) (by kernel_rfl) (by kernel_rfl) (by exact fun _ _ _ h => h) (Or.inl ⟨by rfl, ?_⟩) hS ?_
        · intro wz hSw
          exact exec_neq (.tmp 46) (.tmp 54) rfl MV MV rfl rfl _ wz (HNM.out wz)
        try simp only [Act.put, List.setIfInBounds_toArray, List.set_cons_zero, List.set_cons_succ]
        refine wpAnyH_done (by kernel_rfl) ?_ _
        go_wp2_with fail
        have M7 := Lib.hid M22.out.drew
        have A7 := Lib.hid A22.out.drew
        have B7 := Lib.hid B22.out.drew
        refine wp_region_held_drew (S := fun w' => (loadVar 28 ⟨w2.heap.size, 0, none⟩).run Tryd.prog w' = .ok (.agg MV) w' ∧ (loadVar 28 ⟨w.heap.size, 0, none⟩).run Tryd.prog w' = .ok (.agg AV) w') (by kernel_rfl) ⟨loadOf M7.out zM.out, loadOf A7.out zA.out⟩ (fun hS => ?_)
        try simp only [List.size_toArray, List.length_cons, List.length_nil, Nat.reduceAdd]
        refine wpAnyH_take (i := 0) (v := .agg MV) (by simp only [List.getElem?_toArray, List.getElem?_cons_zero]; rfl) (by kernel_rfl) (by kernel_rfl) (by kernel_rfl) (by exact fun _ _ _ h => h) (Or.inl ⟨by rfl, ?_⟩) hS ?_
        · intro wz hSw
          exact exec_load 28 (.tmp 9) rfl ⟨w2.heap.size, 0, none⟩ rfl _ wz hSw.1
        try simp only [Act.put, List.setIfInBounds_toArray, List.set_cons_zero, List.set_cons_succ]
        refine wpAnyH_take (i := 1) (v := .agg MV) (by simp only [List.getElem?_toArray, List.getElem?_cons_succ, List.getElem?_cons_zero]; rfl) (by kernel_rfl) (by kernel_rfl) (by kernel_rfl) (by exact fun _ _ _ h => h) (Or.inl ⟨by rfl, ?_⟩) hS ?_
        · intro wz hSw
          exact exec_load 28 (.tmp 9) rfl ⟨w2.heap.size, 0, none⟩ rfl _ wz hSw.1
        try simp only [Act.put, List.setIfInBounds_toArray, List.set_cons_zero, List.set_cons_succ]
        refine wpAnyH_ready (rs := [2]) (by kernel_rfl) (by simp) ?_
        refine AllReadyH.cons (by simp only [List.getElem?_toArray, List.getElem?_cons_succ, List.getElem?_cons_zero]; rfl) (fun K hK => ?_) AllReadyH.nil
        go_simp
        go_at_call 18
        refine (HEQ.out _).mono ?_
        rintro e wq ⟨rfl, bq⟩
        have M8 := Lib.hid (M7.out.below bq M7.out.lt)
        have A8 := Lib.hid (A7.out.below bq A7.out.lt)
        have B8 := Lib.hid (B7.out.trans (bq.mono B7.out.size))
        clear bq
        refine hK.out _ _ ⟨loadOf M8.out zM.out, loadOf A8.out zA.out⟩ (fun hS => ?_)
        clear hK K
        try simp only [Act.put, List.setIfInBounds_toArray, List.set_cons_zero, List.set_cons_succ]
        refine wpAnyH_take (i := 3) (v := ?_) (by simp only [List.getElem?_toArray, List.getElem?_cons_succ, List.getElem?_cons_zero]; rfl) (by kernel_rfl) (by kernel_rfl) (by kernel_rfl) (by exact fun _ _ _ h => h) (Or.inl ⟨by rfl, ?_⟩) hS ?_
        rotate_left
        · intro w hSw
          go_simp
          try with_reducible rfl
        try simp only [Act.put, List.setIfInBounds_toArray, List.set_cons_zero, List.set_cons_succ]
        refine wpAnyH_take (i := 4) (v := .agg MV) (by simp only [List.getElem?_toArray, List.getElem?_cons_succ, List.getElem?_cons_zero]; rfl) (by kernel_rfl) (by kernel_rfl) (by kernel_rfl) (by exact fun _ _ _ h => h) (Or.inl ⟨by rfl, ?_⟩) hS ?_
        · intro wz hSw
          exact exec_load 28 (.tmp 9) rfl ⟨w2.heap.size, 0, none⟩ rfl _ wz hSw.1
        try simp only [Act.put, List.setIfInBounds_toArray, List.set_cons_zero, List.set_cons_succ]
        refine wpAnyH_take (i := 5) (v := .agg AV) (by simp only [List.getElem?_toArray, List.getElem?_cons_succ, List.getElem?_cons_zero]; rfl) (by kernel_rfl) (by kernel_rfl) (by kernel_rfl) (by exact fun _ _ _ h => h) (Or.inl ⟨by rfl, ?_⟩) hS ?_
        · intro wz hSw
          exact exec_load 28 (.tmp 7) rfl ⟨w.heap.size, 0, none⟩ rfl _ wz hSw.2
        try simp only [Act.put, List.setIfInBounds_toArray, List.set_cons_zero, List.set_cons_succ]
        refine wpAnyH_take (i := 7) (v := .agg MV) (by simp only [List.getElem?_toArray, List.getElem?_cons_succ, List.getElem?_cons_zero]; rfl) (by kernel_rfl) (by kernel_rfl) (by kernel_rfl) (by exact fun _ _ _ h => h) (Or.inl ⟨by rfl, ?_⟩) hS ?_
        · intro wz hSw
          exact exec_load 28 (.tmp 9) rfl ⟨w2.heap.size, 0, none⟩ rfl _ wz hSw.1
        try simp only [Act.put, List.setIfInBounds_toArray, List.set_cons_zero, List.set_cons_succ]
        refine wpAnyH_take (i := 8) (v := .agg AV) (by simp only [List.getElem?_toArray, List.getElem?_cons_succ, List.getElem?_cons_zero]; rfl) (by kernel_rfl) (by kernel_rfl) (by kernel_rfl) (by exact fun _ _ _ h => h) (Or.inl ⟨by rfl, ?_⟩) hS ?_
        · intro wz hSw
          exact exec_load 28 (.tmp 7) rfl ⟨w.heap.size, 0, none⟩ rfl _ wz hSw.2
        try simp only [Act.put, List.setIfInBounds_toArray, List.set_cons_zero, List.set_cons_succ]
        refine wpAnyH_take (i := 9) (v := .bool r) (by simp only [List.getElem?_toArray, List.getElem?_cons_succ, List.getElem?_cons_zero]; rfl) (by kernel_rfl) (by kernel_rfl) (by kernel_rfl) (by exact fun _ _ _ h => h) (Or.inl ⟨by rfl, ?_⟩) hS ?_
        · intro wz hSw
          exact exec_eql (.tmp 63) (.tmp 64) rfl MV AV rfl rfl _ wz (HEB.out wz)
        try simp only [Act.put, List.setIfInBounds_toArray, List.set_cons_zero, List.set_cons_succ]
        refine wpAnyH_ready (rs := [6]) (by kernel_rfl) (by simp) ?_
        refine AllReadyH.cons (by simp only [List.getElem?_toArray, List.getElem?_cons_succ, List.getElem?_cons_zero]; rfl) (fun K hK => ?_) AllReadyH.nil
        go_simp
        go_at_call 18
        refine (HEA.out _).mono ?_
        rintro e wq2 ⟨rfl, bq⟩
        have M9 := Lib.hid (M8.out.below bq M8.out.lt)
        have A9 := Lib.hid (A8.out.below bq A8.out.lt)
        have B9 := Lib.hid (B8.out.trans (bq.mono B8.out.size))
        clear bq
        refine hK.out _ _ ⟨loadOf M9.out zM.out, loadOf A9.out zA.out⟩ (fun hS => ?_)
        clear hK K
        try simp only [Act.put, List.setIfInBounds_toArray, List.set_cons_zero, List.set_cons_succ]
        refine wpAnyH_take (i := 10) (v := ?_) (by simp only [List.getElem?_toArray, List.getElem?_cons_succ, List.getElem?_cons_zero]; rfl) (by kernel_rfl) (by kernel_rfl) (by kernel_rfl) (by exact fun _ _ _ h => h) (Or.inl ⟨by rfl, ?_⟩) hS ?_
        rotate_left
        · intro w hSw
          go_simp
          try with_reducible rfl
        try simp only [Act.put, List.setIfInBounds_toArray, List.set_cons_zero, List.set_cons_succ]
        refine wpAnyH_take (i := 11) (v := ?_) (by simp only [List.getElem?_toArray, List.getElem?_cons_succ, List.getElem?_cons_zero]; rfl) (by kernel_rfl) (by kernel_rfl) (by kernel_rfl) (by exact fun _ _ _ h => h) (Or.inl ⟨by rfl, ?_⟩) hS ?_
        rotate_left
        · intro w hSw
          go_simp
          try with_reducible rfl
        try simp only [Act.put, List.setIfInBounds_toArray, List.set_cons_zero, List.set_cons_succ]
        refine wpAnyH_take (i := 12) (v := ?_) (by simp only [List.getElem?_toArray, List.getElem?_cons_succ, List.getElem?_cons_zero]; rfl) (by kernel_rfl) (by kernel_rfl) (by kernel_rfl) (by exact fun _ _ _ h => h) (Or.inl ⟨by rfl, ?_⟩) hS ?_
        rotate_left
        · intro w hSw
          go_simp
          try with_reducible rfl
        try simp only [Act.put, List.setIfInBounds_toArray, List.set_cons_zero, List.set_cons_succ]
        refine wpAnyH_done (by kernel_rfl) ?_ _
        go_wp2_with fail
        go_ret
        exact ⟨by simp, B9.out⟩
      · go_simp
        have M23 := Lib.hid (M19.out.alloc (.cells #[.slice ab nb cb] 22))
        have A23 := Lib.hid (A19.out.alloc (.cells #[.slice ab nb cb] 22))
        have B23 := Lib.hid (B19.out.alloc B19.out.size (.cells #[.slice ab nb cb] 22))
        have Z23 : Hid (V0.heap.size ≤ (u19.alloc (.cells #[.slice ab nb cb] 22)).heap.size) := Lib.hid (by have := Z19.out; simp <;> omega)
        have N23 := Lib.hid (Mem.Blk.new u19 22 #[.slice ab nb cb])
        have O23 := Lib.hid (ShT.Own.alloc O19.out (.cells #[.slice ab nb cb] 22))
        have X23 : Hid (V0.heap.size ≤ (u19.alloc (.cells #[.slice ab nb cb] 22)).heap.size) := Lib.hid (by have := X19.out; simp <;> omega)
        have E23 : Hid (((.slice a19 n c19) : Value).ownBlock ≠ some u19.heap.size) := Lib.hid (by intro e; have := (ShT.Own.blocks O19.out _ e).2; omega)
        generalize u19.alloc (.cells #[.slice ab nb cb] 22) = u23 at M23  A23  B23  Z23  N23  O23  X23 ⊢
        refine hK.out _ _ (loadOf M23.out zM.out) (fun hS => ?_)
        clear hK K
        try simp only [Act.put, List.setIfInBounds_toArray, List.set_cons_zero, List.set_cons_succ]
        refine wpAnyH_ready (rs := [5]) (by kernel_rfl) (by simp) ?_
        refine AllReadyH.cons (by simp only [List.getElem?_toArray, List.getElem?_cons_succ, List.getElem?_cons_zero]; rfl) (fun K hK => ?_) AllReadyH.nil
        refine stepZeros rfl (.tmp 49) (.tmp 50) rfl V0.heap.size (.slice a19 n c19) key rfl O23.out q 0 hqz.out rfl (n + q) hqn.out hnqm.out X23.out ?_
        intro a24 c24 u24 ho24 hg24
        have O24 : Hid (ShT.Own u24 V0.heap.size (.slice a24 (n + q) c24) (key ++ List.replicate q 0#8)) := Lib.hid ho24
        have hbl24 : ∀ k, ((.slice a19 n c19) : Value).ownBlock = some k → V0.heap.size ≤ k := fun k e => Nat.le_trans Z0.out (ShT.Own.blocks O23.out k e).1
        have M24 := Lib.hid (blkOwn M23.out hg24 (fun e => by have := hbl24 _ e; have := HS0.out.1; omega))
        have A24 := Lib.hid (blkOwn A23.out hg24 (fun e => by have := hbl24 _ e; have := HS0.out.2; omega))
        have B24 := Lib.hid (B23.out.grown hg24 B23.out.size (fun k e => by have := hbl24 k e; have := HS0.out.2; omega))
        have Z24 := Lib.hid (Nat.le_trans Z23.out hg24.size)
        have X24 := Lib.hid (Nat.le_trans X23.out hg24.size)
        have N24 := Lib.hid (blkOwn N23.out hg24 E23.out)
        clear ho24 hg24 hbl24
        refine hK.out _ _ (loadOf M24.out zM.out) (fun hS => ?_)
        clear hK K
        try simp only [Act.put, List.setIfInBounds_toArray, List.set_cons_zero, List.set_cons_succ]
        refine wpAnyH_ready (rs := [8]) (by kernel_rfl) (by simp) ?_
        refine AllReadyH.cons (by simp only [List.getElem?_toArray, List.getElem?_cons_succ, List.getElem?_cons_zero]; rfl) (fun K hK => ?_) AllReadyH.nil
        go_simp
        go_at_call 11
        refine (HMC.out (key ++ List.replicate q 0#8) _ (n + q) _ u24 u19.heap.size B24.out hqn.out hmz.out (One.own O24.out) N24.out).mono ?_
        rintro e v25 ⟨rfl, b8⟩
        have M25 := Lib.hid (M24.out.below b8 M24.out.lt)
        have A25 := Lib.hid (A24.out.below b8 A24.out.lt)
        have B25 := Lib.hid (B24.out.trans (b8.mono B24.out.size))
        clear b8
        refine hK.out _ _ (loadOf M25.out zM.out) (fun hS => ?_)
        clear hK K
        try simp only [Act.put, List.setIfInBounds_toArray, List.set_cons_zero, List.set_cons_succ]
        refine wpAnyH_take (i := 9) (v := .bool false) (by simp only [List.getElem?_toArray, List.getElem?_cons_succ, List.getElem?_cons_zero]; rfl) (by kernel_rfl) (by kernel_rfl) (by kernel_rfl) (by exact fun _ _ _ h => h) (Or.inl ⟨by rfl, ?_⟩) hS ?_
        · intro wz hSw
          exact exec_neq (.tmp 46) (.tmp 54) rfl MV MV rfl rfl _ wz (HNM.out wz)
        try simp only [Act.put, List.setIfInBounds_toArray, List.set_cons_zero, List.set_cons_succ]
        refine wpAnyH_done (by kernel_rfl) ?_ _
        go_wp2_with fail
        have M7 := Lib.hid M25.out.drew
        have A7 := Lib.hid A25.out.drew
        have B7 := Lib.hid B25.out.drew
        refine wp_region_held_drew (S := fun w' => (loadVar 28 ⟨w2.heap.size, 0, none⟩).run Tryd.prog w' = .ok (.agg MV) w' ∧ (loadVar 28 ⟨w.heap.size, 0, none⟩).run Tryd.prog w' = .ok (.agg AV) w') (by kernel_rfl) ⟨loadOf M7.out zM.out, loadOf A7.out zA.out⟩ (fun hS => ?_)
        try simp only [List.size_toArray, List.length_cons, List.length_nil, Nat.reduceAdd]
        refine wpAnyH_take (i := 0) (v := .agg MV) (by simp only [List.getElem?_toArray, List.getElem?_cons_zero]; rfl) (by kernel_rfl) (by kernel_rfl) (by kernel_rfl) (by exact fun _ _ _ h => h) (Or.inl ⟨by rfl, ?_⟩) hS ?_
        · intro wz hSw
          exact exec_load 28 (.tmp 9) rfl ⟨w2.heap.size, 0, none⟩ rfl _ wz hSw.1
        try simp only [Act.put, List.setIfInBounds_toArray, List.set_cons_zero, List.set_cons_succ]
        refine wpAnyH_take (i := 1) (v := .agg MV) (by simp only [List.getElem?_toArray, List.getElem?_cons_succ, List.getElem?_cons_zero]; rfl) (by kernel_rfl) (by kernel_rfl) (by kernel_rfl) (by exact fun _ _ _ h => h) (Or.inl ⟨by rfl, ?_⟩) hS ?_
        · intro wz hSw
          exact exec_load 28 (.tmp 9) rfl ⟨w2.heap.size, 0, none⟩ rfl _ wz hSw.1
        try simp only [Act.put, List.setIfInBounds_toArray, List.set_cons_zero, List.set_cons_succ]
        refine wpAnyH_ready (rs := [2]) (by kernel_rfl) (by simp) ?_
        refine AllReadyH.cons (by simp only [List.getElem?_toArray, List.getElem?_cons_succ, List.getElem?_cons_zero]; rfl) (fun K hK => ?_) AllReadyH.nil
        go_simp
        go_at_call 18
        refine (HEQ.out _).mono ?_
        rintro e wq ⟨rfl, bq⟩
        have M8 := Lib.hid (M7.out.below bq M7.out.lt)
        have A8 := Lib.hid (A7.out.below bq A7.out.lt)
        have B8 := Lib.hid (B7.out.trans (bq.mono B7.out.size))
        clear bq
        refine hK.out _ _ ⟨loadOf M8.out zM.out, loadOf A8.out zA.out⟩ (fun hS => ?_)
        clear hK K
        try simp only [Act.put, List.setIfInBounds_toArray, List.set_cons_zero, List.set_cons_succ]
        refine wpAnyH_take (i := 3) (v := ?_) (by simp only [List.getElem?_toArray, List.getElem?_cons_succ, List.getElem?_cons_zero]; rfl) (by kernel_rfl) (by kernel_rfl) (by kernel_rfl) (by exact fun _ _ _ h => h) (Or.inl ⟨by rfl, ?_⟩) hS ?_
        rotate_left
        · intro w hSw
          go_simp
          try with_reducible rfl
        try simp only [Act.put, List.setIfInBounds_toArray, List.set_cons_zero, List.set_cons_succ]
        refine wpAnyH_take (i := 4) (v := .agg MV) (by simp only [List.getElem?_toArray, List.getElem?_cons_succ, List.getElem?_cons_zero]; rfl) (by kernel_rfl) (by kernel_rfl) (by kernel_rfl) (by exact fun _ _ _ h => h) (Or.inl ⟨by rfl, ?_⟩) hS ?_
        · intro wz hSw
          exact exec_load 28 (.tmp 9) rfl ⟨w2.heap.size, 0, none⟩ rfl _ wz hSw.1
        try simp only [Act.put, List.setIfInBounds_toArray, List.set_cons_zero, List.set_cons_succ]
        refine wpAnyH_take (i := 5) (v := .agg AV) (by simp only [List.getElem?_toArray, List.getElem?_cons_succ, List.getElem?_cons_zero]; rfl) (by kernel_rfl) (by kernel_rfl) (by kernel_rfl) (by exact fun _ _ _ h => h) (Or.inl ⟨by rfl, ?_⟩) hS ?_
        · intro wz hSw
          exact exec_load 28 (.tmp 7) rfl ⟨w.heap.size, 0, none⟩ rfl _ wz hSw.2
        try simp only [Act.put, List.setIfInBounds_toArray, List.set_cons_zero, List.set_cons_succ]
        refine wpAnyH_take (i := 7) (v := .agg MV) (by simp only [List.getElem?_toArray, List.getElem?_cons_succ, List.getElem?_cons_zero]; rfl) (by kernel_rfl) (by kernel_rfl) (by kernel_rfl) (by exact fun _ _ _ h => h) (Or.inl ⟨by rfl, ?_⟩) hS ?_
        · intro wz hSw
          exact exec_load 28 (.tmp 9) rfl ⟨w2.heap.size, 0, none⟩ rfl _ wz hSw.1
        try simp only [Act.put, List.setIfInBounds_toArray, List.set_cons_zero, List.set_cons_succ]
        refine wpAnyH_take (i := 8) (v := .agg AV) (by simp only [List.getElem?_toArray, List.getElem?_cons_succ, List.getElem?_cons_zero]; rfl) (by kernel_rfl) (by kernel_rfl) (by kernel_rfl) (by exact fun _ _ _ h => h) (Or.inl ⟨by rfl, ?_⟩) hS ?_
        · intro wz hSw
          exact exec_load 28 (.tmp 7) rfl ⟨w.heap.size, 0, none⟩ rfl _ wz hSw.2
        try simp only [Act.put, List.setIfInBounds_toArray, List.set_cons_zero, List.set_cons_succ]
        refine wpAnyH_take (i := 9) (v := .bool r) (by simp only [List.getElem?_toArray, List.getElem?_cons_succ, List.getElem?_cons_zero]; rfl) (by kernel_rfl) (by kernel_rfl) (by kernel_rfl) (by exact fun _ _ _ h => h) (Or.inl ⟨by rfl, ?_⟩) hS ?_
        · intro wz hSw
          exact exec_eql (.tmp 63) (.tmp 64) rfl MV AV rfl rfl _ wz (HEB.out wz)
        try simp only [Act.put, List.setIfInBounds_toArray, List.set_cons_zero, List.set_cons_succ]
        refine wpAnyH_ready (rs := [6]) (by kernel_rfl) (by simp) ?_
        refine AllReadyH.cons (by simp only [List.getElem?_toArray, List.getElem?_cons_succ, List.getElem?_cons_zero]; rfl) (fun K hK => ?_) AllReadyH.nil
        go_simp
        go_at_call 18
        refine (HEA.out _).mono ?_
        rintro e wq2 ⟨rfl, bq⟩
        have M9 := Lib.hid (M8.out.below bq M8.out.lt)
        have A9 := Lib.hid (A8.out.below bq A8.out.lt)
        have B9 := Lib.hid (B8.out.trans (bq.mono B8.out.size))
        clear bq
        refine hK.out _ _ ⟨loadOf M9.out zM.out, loadOf A9.out zA.out⟩ (fun hS => ?_)
        clear hK K
        try simp only [Act.put, List.setIfInBounds_toArray, List.set_cons_zero, List.set_cons_succ]
        refine wpAnyH_take (i := 10) (v := ?_) (by simp only [List.getElem?_toArray, List.getElem?_cons_succ, List.getElem?_cons_zero]; rfl) (by kernel_rfl) (by kernel_rfl) (by kernel_rfl) (by exact fun _ _ _ h => h) (Or.inl ⟨by rfl, ?_⟩) hS ?_
        rotate_left
        · intro w hSw
          go_simp
          try with_reducible rfl
        try simp only [Act.put, List.setIfInBounds_toArray, List.set_cons_zero, List.set_cons_succ]
        refine wpAnyH_take (i := 11) (v := ?_) (by simp only [List.getElem?_toArray, List.getElem?_cons_succ, List.getElem?_cons_zero]; rfl) (by kernel_rfl) (by kernel_rfl) (by kernel_rfl) (by exact fun _ _ _ h => h) (Or.inl ⟨by rfl, ?_⟩) hS ?_
        rotate_left
        · intro w hSw
          go_simp
          try with_reducible rfl
        try simp only [Act.put, List.setIfInBounds_toArray, List.set_cons_zero, List.set_cons_succ]
        refine wpAnyH_take (i := 12) (v := ?_) (by simp only [List.getElem?_toArray, List.getElem?_cons_succ, List.getElem?_cons_zero]; rfl) (by kernel_rfl) (by kernel_rfl) (by kernel_rfl) (by exact fun _ _ _ h => h) (Or.inl ⟨by rfl, ?_⟩) hS ?_
        rotate_left
        · intro w hSw
          go_simp
          try with_reducible rfl
        try simp only [Act.put, List.setIfInBounds_toArray, List.set_cons_zero, List.set_cons_succ]
        refine wpAnyH_done (by kernel_rfl) ?_ _
        go_wp2_with fail
        go_ret
        exact ⟨by simp, B9.out⟩
    · go_simp
      have M26 := Lib.hid (M18.out.alloc (.cells #[.slice ab nb cb] 22))
      have A26 := Lib.hid (A18.out.alloc (.cells #[.slice ab nb cb] 22))
      have B26 := Lib.hid (B18.out.alloc B18.out.size (.cells #[.slice ab nb cb] 22))
      have Z26 : Hid (V0.heap.size ≤ (u18.alloc (.cells #[.slice ab nb cb] 22)).heap.size) := Lib.hid (by have := Z18.out; simp <;> omega)
      have N26 := Lib.hid (Mem.Blk.new u18 22 #[.slice ab nb cb])
      have O26 := Lib.hid (ShT.Own.alloc O18.out (.cells #[.slice ab nb cb] 22))
      have X26 : Hid (V0.heap.size ≤ (u18.alloc (.cells #[.slice ab nb cb] 22)).heap.size) := Lib.hid (by have := X18.out; simp <;> omega)
      have E26 : Hid (((.slice (some ⟨V0.heap.size, 0, none⟩) 0 0) : Value).ownBlock ≠ some u18.heap.size) := Lib.hid (by intro e; have := (ShT.Own.blocks O18.out _ e).2; omega)
      generalize u18.alloc (.cells #[.slice ab nb cb] 22) = u26 at M26  A26  B26  Z26  N26  O26  X26 ⊢
      refine hK.out _ _ (loadOf M26.out zM.out) (fun hS => ?_)
      clear hK K
      try simp only [Act.put, List.setIfInBounds_toArray, List.set_cons_zero, List.set_cons_succ]
      refine wpAnyH_ready (rs := [3]) (by kernel_rfl) (by simp) ?_
      refine AllReadyH.cons (by simp only [List.getElem?_toArray, List.getElem?_cons_succ, List.getElem?_cons_zero]; rfl) (fun K hK => ?_) AllReadyH.nil
      obtain ⟨ka27, kc27, ke27, kr27, _⟩ := HK1.out u26 B26.out
      injection ke27 with ke1 ke2 ke3
      subst ke1 ke3
      clear ke2
      refine stepApp rfl (.tmp 47) (.tmp 48) rfl V0.heap.size (.slice (some ⟨V0.heap.size, 0, none⟩) 0 0) [] rfl O26.out a key n c rfl HN.out kr27 n HN.out hn1m.out X26.out ?_
      intro a27 c27 u27 ho27 hg27 ne27
      have O27 : Hid (ShT.Own u27 V0.heap.size (.slice a27 n c27) key) := Lib.hid ho27
      have hbl27 : ∀ k, ((.slice (some ⟨V0.heap.size, 0, none⟩) 0 0) : Value).ownBlock = some k → V0.heap.size ≤ k := fun k e => Nat.le_trans Z0.out (ShT.Own.blocks O26.out k e).1
      have M27 := Lib.hid (blkOwn M26.out hg27 (fun e => by have := hbl27 _ e; have := HS0.out.1; omega))
      have A27 := Lib.hid (blkOwn A26.out hg27 (fun e => by have := hbl27 _ e; have := HS0.out.2; omega))
      have B27 := Lib.hid (B26.out.grown hg27 B26.out.size (fun k e => by have := hbl27 k e; have := HS0.out.2; omega))
      have Z27 := Lib.hid (Nat.le_trans Z26.out hg27.size)
      have X27 := Lib.hid (Nat.le_trans X26.out hg27.size)
      have N27 := Lib.hid (blkOwn N26.out hg27 E26.out)
      have E27 : Hid (((.slice a27 n c27) : Value).ownBlock ≠ some u18.heap.size) := Lib.hid (by
        rcases ne27 with e | e
        · rw [e]; exact E26.out
        · rw [e]; intro e2; injection e2 with e2; have e3 : u26.heap.size = u18.heap.size := e2; have := N26.out.lt; omega)
      clear ho27 hg27 hbl27 ne27
      refine hK.out _ _ (loadOf M27.out zM.out) (fun hS => ?_)
      clear hK K
      try simp only [Act.put, List.setIfInBounds_toArray, List.set_cons_zero, List.set_cons_succ]
      refine wpAnyH_ready (rs := [5]) (by kernel_rfl) (by simp) ?_
      refine AllReadyH.cons (by simp only [List.getElem?_toArray, List.getElem?_cons_succ, List.getElem?_cons_zero]; rfl) (fun K hK => ?_) AllReadyH.nil
      refine stepZeros rfl (.tmp 49) (.tmp 50) rfl V0.heap.size (.slice a27 n c27) key rfl O27.out q 0 hqz.out rfl (n + q) hqn.out hnqm.out X27.out ?_
      intro a28 c28 u28 ho28 hg28
      have O28 : Hid (ShT.Own u28 V0.heap.size (.slice a28 (n + q) c28) (key ++ List.replicate q 0#8)) := Lib.hid ho28
      have hbl28 : ∀ k, ((.slice a27 n c27) : Value).ownBlock = some k → V0.heap.size ≤ k := fun k e => Nat.le_trans Z0.out (ShT.Own.blocks O27.out k e).1
      have M28 := Lib.hid (blkOwn M27.out hg28 (fun e => by have := hbl28 _ e; have := HS0.out.1; omega))
      have A28 := Lib.hid (blkOwn A27.out hg28 (fun e => by have := hbl28 _ e; have := HS0.out.2; omega))
      have B28 := Lib.hid (B27.out.grown hg28 B27.out.size (fun k e => by have := hbl28 k e; have := HS0.out.2; omega))
      have Z28 := Lib.hid (Nat.le_trans Z27.out hg28.size)
      have X28 := Lib.hid (Nat.le_trans X27.out hg28.size)
      have N28 := Lib.hid (blkOwn N27.out hg28 E27.out)
      clear ho28 hg28 hbl28
      refine hK.out _ _ (loadOf M28.out zM.out) (fun hS => ?_)
      clear hK K
      try simp only [Act.put, List.setIfInBounds_toArray, List.set_cons_zero, List.set_cons_succ]
      refine wpAnyH_ready (rs := [8]) (by kernel_rfl) (by simp) ?_
      refine AllReadyH.cons (by simp only [List.getElem?_toArray, List.getElem?_cons_succ, List.getElem?_cons_zero]; rfl) (fun K hK => ?_) AllReadyH.nil
      go_simp
      go_at_call 11
      refine (HMC.out (key ++ List.replicate q 0#8) _ (n + q) _ u28 u18.heap.size B28.out hqn.out hmz.out (One.own O28.out) N28.out).mono ?_
      rintro e v29 ⟨rfl, b8⟩
      have M29 := Lib.hid (M28.out.below b8 M28.out.lt)
      have A29 := Lib.hid (A28.out.below b8 A28.out.lt)
      have B29 := Lib.hid (B28.out.trans (b8.mono B28.out.size))
      clear b8
      refine hK.out _ _ (loadOf M29.out zM.out) (fun hS => ?_)
      clear hK K
      try simp only [Act.put, List.setIfInBounds_toArray, List.set_cons_zero, List.set_cons_succ]
      refine wpAnyH_take (i := 9) (v := .bool false) (by simp only [List.getElem?_toArray, List.getElem?_cons_succ, List.getElem?_cons_zero]; rfl) (by kernel_rfl) (by kernel_rfl) (by kernel_rfl) (by exact fun _ _ _ h => h) (Or.inl ⟨by rfl, ?_⟩) hS ?_
      · intro wz hSw
        exact exec_neq (.tmp 46) (.tmp 54) rfl MV MV rfl rfl _ wz (HNM.out wz)
      try simp only [Act.put, List.setIfInBounds_toArray, List.set_cons_zero, List.set_cons_succ]
      refine wpAnyH_done (by kernel_rfl) ?_ _
      go_wp2_with fail
      have M7 := Lib.hid M29.out.drew
      have A7 := Lib.hid A29.out.drew
      have B7 := Lib.hid B29.out.drew
      refine wp_region_held_drew (S := fun w' => (loadVar 28 ⟨w2.heap.size, 0, none⟩).run Tryd.prog w' = .ok (.agg MV) w' ∧ (loadVar 28 ⟨w.heap.size, 0, none⟩).run Tryd.prog w' = .ok (.agg AV) w') (by kernel_rfl) ⟨loadOf M7.out zM.out, loadOf A7.out zA.out⟩ (fun hS => ?_)
      try simp only [List.size_toArray, List.length_cons, List.length_nil, Nat.reduceAdd]
      refine wpAnyH_take (i := 0) (v := .agg MV) (by simp only [List.getElem?_toArray, List.getElem?_cons_zero]; rfl) (by kernel_rfl) (by kernel_rfl) (by kernel_rfl) (by exact fun _ _ _ h => h) (Or.inl ⟨by rfl, ?_⟩) hS ?_
      · intro wz hSw
        exact exec_load 28 (.tmp 9) rfl ⟨w2.heap.size, 0, none⟩ rfl _ wz hSw.1
      try simp only [Act.put, List.setIfInBounds_toArray, List.set_cons_zero, List.set_cons_succ]
      refine wpAnyH_take (i := 1) (v := .agg MV) (by simp only [List.getElem?_toArray, List.getElem?_cons_succ, List.getElem?_cons_zero]; rfl) (by kernel_rfl) (by kernel_rfl) (by kernel_rfl) (by exact fun _ _ _ h => h) (Or.inl ⟨by rfl, ?_⟩) hS ?_
      · intro wz hSw
        exact exec_load 28 (.tmp 9) rfl ⟨w2.heap.size, 0, none⟩ rfl _ wz hSw.1
      try simp only [Act.put, List.setIfInBounds_toArray, List.set_cons_zero, List.set_cons_succ]
      refine wpAnyH_ready (rs := [2]) (by kernel_rfl) (by simp) ?_
      refine AllReadyH.cons (by simp only [List.getElem?_toArray, List.getElem?_cons_succ, List.getElem?_cons_zero]; rfl) (fun K hK => ?_) AllReadyH.nil
      go_simp
      go_at_call 18
      refine (HEQ.out _).mono ?_
      rintro e wq ⟨rfl, bq⟩
      have M8 := Lib.hid (M7.out.below bq M7.out.lt)
      have A8 := Lib.hid (A7.out.below bq A7.out.lt)
      have B8 := Lib.hid (B7.out.trans (bq.mono B7.out.size))
      clear bq
      refine hK.out _ _ ⟨loadOf M8.out zM.out, loadOf A8.out zA.out⟩ (fun hS => ?_)
      clear hK K
      try simp only [Act.put, List.setIfInBounds_toArray, List.set_cons_zero, List.set_cons_succ]
      refine wpAnyH_take (i := 3) (v := ?_) (by simp only [List.getElem?_toArray, List.getElem?_cons_succ, List.getElem?_cons_zero]; rfl) (by kernel_rfl) (by kernel_rfl) (by kernel_rfl) (by exact fun _ _ _ h => h) (Or.inl ⟨by rfl, ?_⟩) hS ?_
      rotate_left
      · intro w hSw
        go_simp
        try with_reducible rfl
      try simp only [Act.put, List.setIfInBounds_toArray, List.set_cons_zero, List.set_cons_succ]
      refine wpAnyH_take (i := 4) (v := .agg MV) (by simp only [List.getElem?_toArray, List.getElem?_cons_succ, List.getElem?_cons_zero]; rfl) (by kernel_rfl) (by kernel_rfl) (by kernel_rfl) (by exact fun _ _ _ h => h) (Or.inl ⟨by rfl, ?_⟩) hS ?_
      · intro wz hSw
        exact exec_load 28 (.tmp 9) rfl ⟨w2.heap.size, 0, none⟩ rfl _ wz hSw.1
      try simp only [Act.put, List.setIfInBounds_toArray, List.set_cons_zero, List.set_cons_succ]
      refine wpAnyH_take (i := 5) (v := .agg AV) (by simp only [List.getElem?_toArray, List.getElem?_cons_succ, List.getElem?_cons_zero]; rfl) (by kernel_rfl) (by kernel_rfl) (by kernel_rfl) (by exact fun _ _ _ h => h) (Or.inl ⟨by rfl, ?_⟩) hS ?_
      · intro wz hSw
        exact exec_load 28 (.tmp 7) rfl ⟨w.heap.size, 0, none⟩ rfl _ wz hSw.2
      try simp only [Act.put, List.setIfInBounds_toArray, List.set_cons_zero, List.set_cons_succ]
      refine wpAnyH_take (i := 7) (v := .agg MV) (by simp only [List.getElem?_toArray, List.getElem?_cons_succ, List.getElem?_cons_zero]; rfl) (by kernel_rfl) (by kernel_rfl) (by kernel_rfl) (by exact fun _ _ _ h => h) (Or.inl ⟨by rfl, ?_⟩) hS ?_
      · intro wz hSw
        exact exec_load 28 (.tmp 9) rfl ⟨w2.heap.size, 0, none⟩ rfl _ wz hSw.1
      try simp only [Act.put, List.setIfInBounds_toArray, List.set_cons_zero, List.set_cons_succ]
      refine wpAnyH_take (i := 8) (v := .agg AV) (by simp only [List.getElem?_toArray, List.getElem?_cons_succ, List.getElem?_cons_zero]; rfl) (by kernel_rfl) (by kernel_rfl) (by kernel_rfl) (by exact fun _ _ _ h => h) (Or.inl ⟨by rfl, ?_⟩) hS ?_
      · intro wz hSw
        exact exec_load 28 (.tmp 7) rfl ⟨w.heap.size, 0, none⟩ rfl _ wz hSw.2
      try simp only [Act.put, List.setIfInBounds_toArray, List.set_cons_zero, List.set_cons_succ]
      refine wpAnyH_take (i := 9) (v := .bool r) (by simp only [List.getElem?_toArray, List.getElem?_cons_succ, List.getElem?_cons_zero]; rfl) (by kernel_rfl) (by kernel_rfl) (by kernel_rfl) (by exact fun _ _ _ h => h) (Or.inl ⟨by rfl, ?_⟩) hS ?_
      · intro wz hSw
        exact exec_eql (.tmp 63) (.tmp 64) rfl MV AV rfl rfl _ wz (HEB.out wz)
      try simp only [Act.put, List.setIfInBounds_toArray, List.set_cons_zero, List.set_cons_succ]
      refine wpAnyH_ready (rs := [6]) (by kernel_rfl) (by simp) ?_
      refine AllReadyH.cons (by simp only [List.getElem?_toArray, List.getElem?_cons_succ, List.getElem?_cons_zero]; rfl) (fun K hK => ?_) AllReadyH.nil
      go_simp
      go_at_call 18
      refine (HEA.out _).mono ?_
      rintro e wq2 ⟨rfl, bq⟩
      have M9 := Lib.hid (M8.out.below bq M8.out.lt)
      have A9 := Lib.hid (A8.out.below bq A8.out.lt)
      have B9 := Lib.hid (B8.out.trans (bq.mono B8.out.size))
      clear bq
      refine hK.out _ _ ⟨loadOf M9.out zM.out, loadOf A9.out zA.out⟩ (fun hS => ?_)
      clear hK K
      try simp only [Act.put, List.setIfInBounds_toArray, List.set_cons_zero, List.set_cons_succ]
      refine wpAnyH_take (i := 10) (v := ?_) (by simp only [List.getElem?_toArray, List.getElem?_cons_succ, List.getElem?_cons_zero]; rfl) (by kernel_rfl) (by kernel_rfl) (by kernel_rfl) (by exact fun _ _ _ h => h) (Or.inl ⟨by rfl, ?_⟩) hS ?_
      rotate_left
      · intro w hSw
        go_simp
        try with_reducible rfl
      try simp only [Act.put, List.setIfInBounds_toArray, List.set_cons_zero, List.set_cons_succ]
      refine wpAnyH_take (i := 11) (v := ?_) (by simp only [List.getElem?_toArray, List.getElem?_cons_succ, List.getElem?_cons_zero]; rfl) (by kernel_rfl) (by kernel_rfl) (by kernel_rfl) (by exact fun _ _ _ h => h) (Or.inl ⟨by rfl, ?_⟩) hS ?_
      rotate_left
      · intro w hSw
        go_simp
        try with_reducible rfl
      try simp only [Act.put, List.setIfInBounds_toArray, List.set_cons_zero, List.set_cons_succ]
      refine wpAnyH_take (i := 12) (v := ?_) (by simp only [List.getElem?_toArray, List.getElem?_cons_succ, List.getElem?_cons_zero]; rfl) (by kernel_rfl) (by kernel_rfl) (by kernel_rfl) (by exact fun _ _ _ h => h) (Or.inl ⟨by rfl, ?_⟩) hS ?_
      rotate_left
      · intro w hSw
        go_simp
        try with_reducible rfl
      try simp only [Act.put, List.setIfInBounds_toArray, List.set_cons_zero, List.set_cons_succ]
      refine wpAnyH_done (by kernel_rfl) ?_ _
      go_wp2_with fail
      go_ret
      exact ⟨by simp, B9.out⟩
  · go_simp
    have M30 := Lib.hid (M0.out.alloc (.cells #[.slice ab nb cb] 22))
    have A30 := Lib.hid (A0.out.alloc (.cells #[.slice ab nb cb] 22))
    have B30 := Lib.hid (B0.out.alloc B0.out.size (.cells #[.slice ab nb cb] 22))
    have Z30 : Hid (V0.heap.size ≤ (V0.alloc (.cells #[.slice ab nb cb] 22)).heap.size) := Lib.hid (by have := Z0.out; simp <;> omega)
    have N30 := Lib.hid (Mem.Blk.new V0 22 #[.slice ab nb cb])
    generalize V0.alloc (.cells #[.slice ab nb cb] 22) = u30 at M30  A30  B30  Z30  N30 ⊢
    refine hK.out _ _ (loadOf M30.out zM.out) (fun hS => ?_)
    clear hK K
    try simp only [Act.put, List.setIfInBounds_toArray, List.set_cons_zero, List.set_cons_succ]
    refine wpAnyH_ready (rs := [1]) (by kernel_rfl) (by simp) ?_
    refine AllReadyH.cons (by simp only [List.getElem?_toArray, List.getElem?_cons_succ, List.getElem?_cons_zero]; rfl) (fun K hK => ?_) AllReadyH.nil
    go_simp
    have M31 := Lib.hid (M30.out.alloc (.cells #[] 5))
    have A31 := Lib.hid (A30.out.alloc (.cells #[] 5))
    have B31 := Lib.hid (B30.out.alloc B30.out.size (.cells #[] 5))
    have Z31 : Hid (V0.heap.size ≤ (u30.alloc (.cells #[] 5)).heap.size) := Lib.hid (by have := Z30.out; simp <;> omega)
    have O31 : Hid (ShT.Own (u30.alloc (.cells #[] 5)) u30.heap.size (.slice (some ⟨u30.heap.size, 0, none⟩) 0 0) []) := Lib.hid (ShT.Own.made u30 u30.heap.size (Nat.le_refl _) #[] 0 [] rfl (Nat.zero_le _) rfl)
    have X31 : Hid (u30.heap.size ≤ (u30.alloc (.cells #[] 5)).heap.size) := Lib.hid (by simp)
    have N31 := Lib.hid (N30.out.alloc (.cells #[] 5))
    have E31 : Hid (((.slice (some ⟨u30.heap.size, 0, none⟩) 0 0) : Value).ownBlock ≠ some V0.heap.size) := Lib.hid (by intro e; injection e with e; have e' : u30.heap.size = V0.heap.size := e; have := N30.out.lt; omega)
    generalize u30.alloc (.cells #[] 5) = u31 at M31  A31  B31  Z31  O31  X31  N31 ⊢
    refine hK.out _ _ (loadOf M31.out zM.out) (fun hS => ?_)
    clear hK K
    try simp only [Act.put, List.setIfInBounds_toArray, List.set_cons_zero, List.set_cons_succ]
    refine wpAnyH_ready (rs := [3]) (by kernel_rfl) (by simp) ?_
    refine AllReadyH.cons (by simp only [List.getElem?_toArray, List.getElem?_cons_succ, List.getElem?_cons_zero]; rfl) (fun K hK => ?_) AllReadyH.nil
    obtain ⟨ka32, kc32, ke32, kr32, _⟩ := HK1.out u31 B31.out
    injection ke32 with ke1 ke2 ke3
    subst ke1 ke3
    clear ke2
    refine stepApp rfl (.tmp 47) (.tmp 48) rfl u30.heap.size (.slice (some ⟨u30.heap.size, 0, none⟩) 0 0) [] rfl O31.out a key n c rfl HN.out kr32 n HN.out hn1m.out X31.out ?_
    intro a32 c32 u32 ho32 hg32 ne32
    have O32 : Hid (ShT.Own u32 u30.heap.size (.slice a32 n c32) key) := Lib.hid ho32
    have hbl32 : ∀ k, ((.slice (some ⟨u30.heap.size, 0, none⟩) 0 0) : Value).ownBlock = some k → V0.heap.size ≤ k := fun k e => Nat.le_trans Z30.out (ShT.Own.blocks O31.out k e).1
    have M32 := Lib.hid (blkOwn M31.out hg32 (fun e => by have := hbl32 _ e; have := HS0.out.1; omega))
    have A32 := Lib.hid (blkOwn A31.out hg32 (fun e => by have := hbl32 _ e; have := HS0.out.2; omega))
    have B32 := Lib.hid (B31.out.grown hg32 B31.out.size (fun k e => by have := hbl32 k e; have := HS0.out.2; omega))
    have Z32 := Lib.hid (Nat.le_trans Z31.out hg32.size)
    have X32 := Lib.hid (Nat.le_trans X31.out hg32.size)
    have N32 := Lib.hid (blkOwn N31.out hg32 E31.out)
    have E32 : Hid (((.slice a32 n c32) : Value).ownBlock ≠ some V0.heap.size) := Lib.hid (by
      rcases ne32 with e | e
      · rw [e]; exact E31.out
      · rw [e]; intro e2; injection e2 with e2; have e3 : u31.heap.size = V0.heap.size := e2; have := N31.out.lt; omega)
    clear ho32 hg32 hbl32 ne32
    refine hK.out _ _ (loadOf M32.out zM.out) (fun hS => ?_)
    clear hK K
    try simp only [Act.put, List.setIfInBounds_toArray, List.set_cons_zero, List.set_cons_succ]
    refine wpAnyH_ready (rs := [5]) (by kernel_rfl) (by simp) ?_
    refine AllReadyH.cons (by simp only [List.getElem?_toArray, List.getElem?_cons_succ, List.getElem?_cons_zero]; rfl) (fun K hK => ?_) AllReadyH.nil
    refine stepZeros rfl (.tmp 49) (.tmp 50) rfl u30.heap.size (.slice a32 n c32) key rfl O32.out q 0 hqz.out rfl (n + q) hqn.out hnqm.out X32.out ?_
    intro a33 c33 u33 ho33 hg33
    have O33 : Hid (ShT.Own u33 u30.heap.size (.slice a33 (n + q) c33) (key ++ List.replicate q 0#8)) := Lib.hid ho33
    have hbl33 : ∀ k, ((.slice a32 n c32) : Value).ownBlock = some k → V0.heap.size ≤ k := fun k e => Nat.le_trans Z30.out (ShT.Own.blocks O32.out k e).1
    have M33 := Lib.hid (blkOwn M32.out hg33 (fun e => by have := hbl33 _ e; have := HS0.out.1; omega))
    have A33 := Lib.hid (blkOwn A32.out hg33 (fun e => by have := hbl33 _ e; have := HS0.out.2; omega))
    have B33 := Lib.hid (B32.out.grown hg33 B32.out.size (fun k e => by have := hbl33 k e; have := HS0.out.2; omega))
    have Z33 := Lib.hid (Nat.le_trans Z32.out hg33.size)
    have X33 := Lib.hid (Nat.le_trans X32.out hg33.size)
    have N33 := Lib.hid (blkOwn N32.out hg33 E32.out)
    clear ho33 hg33 hbl33
    refine hK.out _ _ (loadOf M33.out zM.out) (fun hS => ?_)
    clear hK K
    try simp only [Act.put, List.setIfInBounds_toArray, List.set_cons_zero, List.set_cons_succ]
    refine wpAnyH_ready (rs := [8]) (by kernel_rfl) (by simp) ?_
    refine AllReadyH.cons (by simp only [List.getElem?_toArray, List.getElem?_cons_succ, List.getElem?_cons_zero]; rfl) (fun K hK => ?_) AllReadyH.nil
    go_simp
    go_at_call 11
    refine (HMC.out (key ++ List.replicate q 0#8) _ (n + q) _ u33 V0.heap.size B33.out hqn.out hmz.out (One.own O33.out) N33.out).mono ?_
    rintro e v34 ⟨rfl, b8⟩
    have M34 := Lib.hid (M33.out.below b8 M33.out.lt)
    have A34 := Lib.hid (A33.out.below b8 A33.out.lt)
    have B34 := Lib.hid (B33.out.trans (b8.mono B33.out.size))
    clear b8
    refine hK.out _ _ (loadOf M34.out zM.out) (fun hS => ?_)
    clear hK K
    try simp only [Act.put, List.setIfInBounds_toArray, List.set_cons_zero, List.set_cons_succ]
    refine wpAnyH_take (i := 9) (v := .bool false) (by simp only [List.getElem?_toArray, List.getElem?_cons_succ, List.getElem?_cons_zero]; rfl) (by kernel_rfl) (by kernel_rfl) (by kernel_rfl) (by exact fun _ _ _ h => h) (Or.inl ⟨by rfl, ?_⟩) hS ?_
    · intro wz hSw
      exact exec_neq (.tmp 46) (.tmp 54) rfl MV MV rfl rfl _ wz (HNM.out wz)
    try simp only [Act.put, List.setIfInBounds_toArray, List.set_cons_zero, List.set_cons_succ]
    refine wpAnyH_done (by kernel_rfl) ?_ _
    go_wp2_with fail
    have M7 := Lib.hid M34.out.drew
    have A7 := Lib.hid A34.out.drew
    have B7 := Lib.hid B34.out.drew
    refine wp_region_held_drew (S := fun w' => (loadVar 28 ⟨w2.heap.size, 0, none⟩).run Tryd.prog w' = .ok (.agg MV) w' ∧ (loadVar 28 ⟨w.heap.size, 0, none⟩).run Tryd.prog w' = .ok (.agg AV) w') (by kernel_rfl) ⟨loadOf M7.out zM.out, loadOf A7.out zA.out⟩ (fun hS => ?_)
    try simp only [List.size_toArray, List.length_cons, List.length_nil, Nat.reduceAdd]
    refine wpAnyH_take (i := 0) (v := .agg MV) (by simp only [List.getElem?_toArray, List.getElem?_cons_zero]; rfl) (by kernel_rfl) (by kernel_rfl) (by kernel_rfl) (by exact fun _ _ _ h => h) (Or.inl ⟨by rfl, ?_⟩) hS ?_
    · intro wz hSw
      exact exec_load 28 (.tmp 9) rfl ⟨w2.heap.size, 0, none⟩ rfl _ wz hSw.1
    try simp only [Act.put, List.setIfInBounds_toArray, List.set_cons_zero, List.set_cons_succ]
    refine wpAnyH_take (i := 1) (v := .agg MV) (by simp only [List.getElem?_toArray, List.getElem?_cons_succ, List.getElem?_cons_zero]; rfl) (by kernel_rfl) (by kernel_rfl) (by kernel_rfl) (by exact fun _ _ _ h => h) (Or.inl ⟨by rfl, ?_⟩) hS ?_
    · intro wz hSw
      exact exec_load 28 (.tmp 9) rfl ⟨w2.heap.size, 0, none⟩ rfl _ wz hSw.1
    try simp only [Act.put, List.setIfInBounds_toArray, List.set_cons_zero, List.set_cons_succ]
    refine wpAnyH_ready (rs := [2]) (by kernel_rfl) (by simp) ?_
    refine AllReadyH.cons (by simp only [List.getElem?_toArray, List.getElem?_cons_succ, List.getElem?_cons_zero]; rfl) (fun K hK => ?_) AllReadyH.nil
    go_simp
    go_at_call 18
    refine (HEQ.out _).mono ?_
    rintro e wq ⟨rfl, bq⟩
    have M8 := Lib.hid (M7.out.below bq M7.out.lt)
    have A8 := Lib.hid (A7.out.below bq A7.out.lt)
    have B8 := Lib.hid (B7.out.trans (bq.mono B7.out.size))
    clear bq
    refine hK.out _ _ ⟨loadOf M8.out zM.out, loadOf A8.out zA.out⟩ (fun hS => ?_)
    clear hK K
    try simp only [Act.put, List.setIfInBounds_toArray, List.set_cons_zero, List.set_cons_succ]
    refine wpAnyH_take (i := 3) (v := ?_) (by simp only [List.getElem?_toArray, List.getElem?_cons_succ, List.getElem?_cons_zero]; rfl) (by kernel_rfl) (by kernel_rfl) (by kernel_rfl) (by exact fun _ _ _ h => h) (Or.inl ⟨by rfl, ?_⟩) hS ?_
    rotate_left
    · intro w hSw
      go_simp
      try with_reducible rfl
    try simp only [Act.put, List.setIfInBounds_toArray, List.set_cons_zero, List.set_cons_succ]
    refine wpAnyH_take (i := 4) (v := .agg MV) (by simp only [List.getElem?_toArray, List.getElem?_cons_succ, List.getElem?_cons_zero]; rfl) (by kernel_rfl) (by kernel_rfl) (by kernel_rfl) (by exact fun _ _ _ h => h) (Or.inl ⟨by rfl, ?_⟩) hS ?_
    · intro wz hSw
      exact exec_load 28 (.tmp 9) rfl ⟨w2.heap.size, 0, none⟩ rfl _ wz hSw.1
    try simp only [Act.put, List.setIfInBounds_toArray, List.set_cons_zero, List.set_cons_succ]
    refine wpAnyH_take (i := 5) (v := .agg AV) (by simp only [List.getElem?_toArray, List.getElem?_cons_succ, List.getElem?_cons_zero]; rfl) (by kernel_rfl) (by kernel_rfl) (by kernel_rfl) (by exact fun _ _ _ h => h) (Or.inl ⟨by rfl, ?_⟩) hS ?_
    · intro wz hSw
      exact exec_load 28 (.tmp 7) rfl ⟨w.heap.size, 0, none⟩ rfl _ wz hSw.2
    try simp only [Act.put, List.setIfInBounds_toArray, List.set_cons_zero, List.set_cons_succ]
    refine wpAnyH_take (i := 7) (v := .agg MV) (by simp only [List.getElem?_toArray, List.getElem?_cons_succ, List.getElem?_cons_zero]; rfl) (by kernel_rfl) (by kernel_rfl) (by kernel_rfl) (by exact fun _ _ _ h => h) (Or.inl ⟨by rfl, ?_⟩) hS ?_
    · intro wz hSw
      exact exec_load 28 (.tmp 9) rfl ⟨w2.heap.size, 0, none⟩ rfl _ wz hSw.1
    try simp only [Act.put, List.setIfInBounds_toArray, List.set_cons_zero, List.set_cons_succ]
    refine wpAnyH_take (i := 8) (v := .agg AV) (by simp only [List.getElem?_toArray, List.getElem?_cons_succ, List.getElem?_cons_zero]; rfl) (by kernel_rfl) (by kernel_rfl) (by kernel_rfl) (by exact fun _ _ _ h => h) (Or.inl ⟨by rfl, ?_⟩) hS ?_
    · intro wz hSw
      exact exec_load 28 (.tmp 7) rfl ⟨w.heap.size, 0, none⟩ rfl _ wz hSw.2
    try simp only [Act.put, List.setIfInBounds_toArray, List.set_cons_zero, List.set_cons_succ]
    refine wpAnyH_take (i := 9) (v := .bool r) (by simp only [List.getElem?_toArray, List.getElem?_cons_succ, List.getElem?_cons_zero]; rfl) (by kernel_rfl) (by kernel_rfl) (by kernel_rfl) (by exact fun _ _ _ h => h) (Or.inl ⟨by rfl, ?_⟩) hS ?_
    · intro wz hSw
      exact exec_eql (.tmp 63) (.tmp 64) rfl MV AV rfl rfl _ wz (HEB.out wz)
    try simp only [Act.put, List.setIfInBounds_toArray, List.set_cons_zero, List.set_cons_succ]
    refine wpAnyH_ready (rs := [6]) (by kernel_rfl) (by simp) ?_
    refine AllReadyH.cons (by simp only [List.getElem?_toArray, List.getElem?_cons_succ, List.getElem?_cons_zero]; rfl) (fun K hK => ?_) AllReadyH.nil
    go_simp
    go_at_call 18
    refine (HEA.out _).mono ?_
    rintro e wq2 ⟨rfl, bq⟩
    have M9 := Lib.hid (M8.out.below bq M8.out.lt)
    have A9 := Lib.hid (A8.out.below bq A8.out.lt)
    have B9 := Lib.hid (B8.out.trans (bq.mono B8.out.size))
    clear bq
    refine hK.out _ _ ⟨loadOf M9.out zM.out, loadOf A9.out zA.out⟩ (fun hS => ?_)
    clear hK K
    try simp only [Act.put, List.setIfInBounds_toArray, List.set_cons_zero, List.set_cons_succ]
    refine wpAnyH_take (i := 10) (v := ?_) (by simp only [List.getElem?_toArray, List.getElem?_cons_succ, List.getElem?_cons_zero]; rfl) (by kernel_rfl) (by kernel_rfl) (by kernel_rfl) (by exact fun _ _ _ h => h) (Or.inl ⟨by rfl, ?_⟩) hS ?_
    rotate_left
    · intro w hSw
      go_simp
      try with_reducible rfl
    try simp only [Act.put, List.setIfInBounds_toArray, List.set_cons_zero, List.set_cons_succ]
    refine wpAnyH_take (i := 11) (v := ?_) (by simp only [List.getElem?_toArray, List.getElem?_cons_succ, List.getElem?_cons_zero]; rfl) (by kernel_rfl) (by kernel_rfl) (by kernel_rfl) (by exact fun _ _ _ h => h) (Or.inl ⟨by rfl, ?_⟩) hS ?_
    rotate_left
    · intro w hSw
      go_simp
      try with_reducible rfl
    try simp only [Act.put, List.setIfInBounds_toArray, List.set_cons_zero, List.set_cons_succ]
    refine wpAnyH_take (i := 12) (v := ?_) (by simp only [List.getElem?_toArray, List.getElem?_cons_succ, List.getElem?_cons_zero]; rfl) (by kernel_rfl) (by kernel_rfl) (by kernel_rfl) (by exact fun _ _ _ h => h) (Or.inl ⟨by rfl, ?_⟩) hS ?_
    rotate_left
    · intro w hSw
      go_simp
      try with_reducible rfl
    try simp only [Act.put, List.setIfInBounds_toArray, List.set_cons_zero, List.set_cons_succ]
    refine wpAnyH_done (by kernel_rfl) ?_ _
    go_wp2_with fail
    go_ret
    exact ⟨by simp, B9.out⟩

end Go.Proofs.YtlfohiejlajmaaaDoor.ShV2
