/- The law of keys. -/
import Derived.Test.YtlfohiejlajmaaaDoorShU
namespace Go.Proofs.YtlfohiejlajmaaaDoor.ShV1
open Go.ChangeShapes Go.WideShapes Go.ChangeAt Go.RowKit
open ShM ShA ShB ShC ShD ShE ShF ShG ShH ShI ShJ ShK ShL ShN ShO ShP ShQ ShR ShS ShU Mem
open ShT (Rd vals vals_length vals_one)
set_option linter.unusedVariables false
set_option maxHeartbeats 4000000


set_option maxRecDepth 100000 in
theorem short1 (key bl x : List ShM.B8) (a ab : Option Addr) (n c nb cb : Nat) (z : Int) (w : World) (hl : Laid w) (hn : key.length = n) (hk : ShN.One w (.slice a n c) key) (hnb : bl.length = nb) (hb : ShN.One w (.slice ab nb cb) bl) (h1 : n ≤ 4096) (h2 : nb ≤ 4096) (hlong : n ≤ 64 ∧ z < 0) :
    Calls Tryd.prog 5 #[.slice a n c, .slice ab nb cb, .int .i64 z, .agg (b32 x)] w fun e w' => e = .returned (.bool true) ∧ Below w.heap.size w w' := by
  have hw2 := Laid.two hl
  obtain ⟨AV, hAV⟩ : ∃ AV, AV = b32 x := ⟨_, rfl⟩
  obtain ⟨Z, hZ⟩ : ∃ Z, Z = z28 := ⟨_, rfl⟩
  obtain ⟨MV, hMV⟩ : ∃ MV, MV = b32 (mac key bl) := ⟨_, rfl⟩
  rw [← hAV]
  have D1 : Hid (Below w.heap.size w (w.alloc (.cells AV 28))) := Lib.hid ((Below.refl _ _).alloc (Nat.le_refl _) _)
  have A1 : Hid (Mem.Blk (w.alloc (.cells AV 28)) w.heap.size 28 AV) := Lib.hid (Mem.Blk.new w 28 AV)
  have HK := Lib.hid (knownW (w.alloc (.cells AV 28)) (hl.below D1.out))
  have HMC : Hid (∀ (k' : List ShM.B8) ak nk ck w' g, Below w.heap.size w w' → k'.length = nk → mac k' bl = mac key bl → ShN.One w' (.slice ak nk ck) k' → Mem.Blk w' g 22 #[.slice ab nb cb] → Calls Tryd.prog 11 #[.slice ak nk ck, .slice (some ⟨g, 0, none⟩) 1 1] w' fun e w'' => e = .returned (.agg MV) ∧ Below w'.heap.size w' w'') := Lib.hid fun k' ak nk ck w' g hb' hnk he hk' hB => by
    have := macW k' ak nk ck [bl] (some ⟨g, 0, none⟩) 1 1 w' (hl.below hb') hnk hk' rfl (Arg.one hB (hb.below hb')) (by omega)
    rwa [show [bl].flatten = bl by simp, he, ← hMV] at this
  have HK1 : Hid (∀ w', Below w.heap.size w w' → ShN.One w' (.slice a n c) key) := Lib.hid fun w' hb => hk.below hb
  have HEQ : Hid (∀ w : World, Calls Tryd.prog 18 #[.agg MV, .agg MV] w fun e w' => e = .returned (.bool true) ∧ Below w.heap.size w w') := Lib.hid fun w => by
    rw [hMV]
    refine (equalW (mac key bl) (mac key bl) w).mono ?_
    rintro e w' ⟨rfl, hb⟩
    exact ⟨by simp, hb⟩
  obtain ⟨r, hr⟩ : ∃ r, r = decide (∀ i ∈ List.range 32, (mac key bl).getD i 0 = x.getD i 0) := ⟨_, rfl⟩
  have HEA : Hid (∀ w : World, Calls Tryd.prog 18 #[.agg MV, .agg AV] w fun e w' => e = .returned (.bool r) ∧ Below w.heap.size w w') := Lib.hid fun w => by
    rw [hMV, hAV, hr]
    exact equalW (mac key bl) x w
  have HEB : Hid (∀ w : World, (binOp .eql 28 (.agg MV) (.agg AV)).run Tryd.prog w = .ok (.bool r) w) := Lib.hid fun w => by rw [hMV, hAV, hr]; exact eql28 _ _ w
  have HNM : Hid (∀ w : World, (binOp .neq 28 (.agg MV) (.agg MV)).run Tryd.prog w = .ok (.bool false) w) := Lib.hid fun w => by rw [hMV]; exact neq_same _ w
  have iM : Hid ((Tryd.prog.info? 28).map (·.size) = some MV.size) := Lib.hid (by rw [hMV, b32_size]; exact i28')
  have oM : Hid (MV.all (·.oneCell') = true) := Lib.hid (by rw [hMV]; exact b32_one _)
  have sM : Hid (Z.size = MV.size) := Lib.hid (by rw [hZ, hMV, z28_size, b32_size])
  have zM : Hid (MV.size = 32) := Lib.hid (by rw [hMV, b32_size])
  have zA : Hid (AV.size = 32) := Lib.hid (by rw [hAV, b32_size])
  have HN := Lib.hid hn
  obtain ⟨q, hq⟩ : ∃ q : Nat, q = 0 := ⟨_, rfl⟩
  have hqz : Hid ((0 : Int) = (q : Int)) := Lib.hid (by omega)
  have hqn : Hid ((key ++ List.replicate q 0#8).length = n + q) := Lib.hid (by simp <;> omega)
  have hmz : Hid (mac (key ++ List.replicate q 0#8) bl = mac key bl) := Lib.hid (mac_zeros key bl q (by omega))
  have hn1m : Hid (n ≤ 1000000) := Lib.hid (by omega)
  have hnqm : Hid (n + q ≤ 1000000) := Lib.hid (by omega)
  have hl64 : ¬ (64 : Int) < (n : Int) := by omega
  have hz1 : z < 0 := hlong.2
  replace hq := Lib.hid hq
  have hn1 : ¬ (4096 : Int) < (n : Int) := by omega
  have hn2 : ¬ (4096 : Int) < (nb : Int) := by omega
  replace hMV := Lib.hid hMV
  replace hAV := Lib.hid hAV
  replace hZ := Lib.hid hZ
  replace hr := Lib.hid hr
  clear hl hk hb hn hnb h1 h2
  go_enter Tryd.func5, Tryd.ntmps5
  go_wp2_with fail
  refine HK.out.mono ?_
  rintro e w1 ⟨rfl, b1⟩
  have B1 := Lib.hid (D1.out.trans (b1.mono D1.out.size))
  have A2 := Lib.hid (A1.out.below b1 A1.out.lt)
  clear b1
  go_wp2_with fail
  have B2 := Lib.hid (B1.out.alloc B1.out.size (.cells #[.slice ab nb cb] 22))
  have A3 := Lib.hid (A2.out.alloc (.cells #[.slice ab nb cb] 22))
  refine (HMC.out key a n c _ w1.heap.size B2.out HN.out rfl (HK1.out _ B2.out) (Mem.Blk.new w1 22 _)).mono ?_
  rintro e w2 ⟨rfl, b2⟩
  have B3 := Lib.hid (B2.out.trans (b2.mono B2.out.size))
  have A4 := Lib.hid (A3.out.below b2 A3.out.lt)
  clear b2 B2 A3 A2 B1
  go_wp2_with (first
    | ((with_reducible show wpList _ _ _ (Oper.mk (some 9) (Op.alloc 28) _ _ _ _ :: _) _ _); refine ShL.alloc28 rfl rfl Z hZ.out ?_; intro w3 hB3 hb3 hn3; clear hn3)
    | ((with_reducible show wpList _ _ _ (Oper.mk _ (Op.store 28 (.tmp 9) (.tmp 24)) _ _ _ _ :: _) _ _); refine Mem.storeBlk 28 (.tmp 9) (.tmp 24) rfl w2.heap.size rfl Z MV rfl 28 hB3 iM.out sM.out oM.out w2.heap.size w2 hb3 (Nat.le_refl _) rfl ?_; intro w4 hB4 hb4
       have B4 := Lib.hid (B3.out.trans (hb4.mono B3.out.size))
       have A5 := Lib.hid (A4.out.below hb4 A4.out.lt)
       have M4 := Lib.hid hB4
       clear hB3 hb3 hB4 hb4))
  have HS0 : Hid (w2.heap.size < w4.drew.heap.size ∧ w.heap.size < w4.drew.heap.size) := Lib.hid ⟨M4.out.lt, A5.out.lt⟩
  have M0 := Lib.hid M4.out.drew
  have A0 := Lib.hid A5.out.drew
  have B0 := Lib.hid B4.out.drew
  generalize hV0 : w4.drew = V0 at HS0 M0 A0 B0
  have Z0 := Lib.hid (Nat.le_refl V0.heap.size)
  refine wp_region_held_drew (S := fun w' => (loadVar 28 ⟨w2.heap.size, 0, none⟩).run Tryd.prog w' = .ok (.agg MV) w') (by kernel_rfl) (by rw [hV0]; exact loadOf M0.out zM.out) (fun hS => ?_)
  rw [hV0] at hS ⊢
  clear hV0
  try simp only [List.size_toArray, List.length_cons, List.length_nil, Nat.reduceAdd]
  refine wpAnyH_take (i := 0) (v := .agg MV) (by simp only [List.getElem?_toArray, List.getElem?_cons_zero]; rfl) (by kernel_rfl) (by kernel_rfl) (by kernel_rfl) (by exact fun _ _ _ h => h) (Or.inl ⟨by rfl, ?_⟩) hS ?_
  · intro wz hSw
    exact exec_load 28 (.tmp 9) rfl ⟨w2.heap.size, 0, none⟩ rfl _ wz hSw
  try simp only [Act.put, List.setIfInBounds_toArray, List.set_cons_zero, List.set_cons_succ]
  refine wpAnyH_take (i := 2) (v := ?_) (by simp only [List.getElem?_toArray, List.getElem?_cons_succ, List.getElem?_cons_zero]; rfl) (by kernel_rfl) (by kernel_rfl) (by kernel_rfl) (by exact fun _ _ _ h => h) (Or.inl ⟨by rfl, ?_⟩) hS ?_
  rotate_left
  · intro w hSw
    go_simp
    try with_reducible rfl
  try simp only [Act.put, List.setIfInBounds_toArray, List.set_cons_zero, List.set_cons_succ]
  refine wpAnyH_take (i := 4) (v := ?_) (by simp only [List.getElem?_toArray, List.getElem?_cons_succ, List.getElem?_cons_zero]; rfl) (by kernel_rfl) (by kernel_rfl) (by kernel_rfl) (by exact fun _ _ _ h => h) (Or.inl ⟨by rfl, ?_⟩) hS ?_
  rotate_left
  · intro w hSw
    go_simp
    try with_reducible rfl
  try simp only [Act.put, List.setIfInBounds_toArray, List.set_cons_zero, List.set_cons_succ]
  refine wpAnyH_take (i := 6) (v := ?_) (by simp only [List.getElem?_toArray, List.getElem?_cons_succ, List.getElem?_cons_zero]; rfl) (by kernel_rfl) (by kernel_rfl) (by kernel_rfl) (by exact fun _ _ _ h => h) (Or.inl ⟨by rfl, ?_⟩) hS ?_
  rotate_left
  · intro w hSw
    go_simp
    try with_reducible rfl
  try simp only [Act.put, List.setIfInBounds_toArray, List.set_cons_zero, List.set_cons_succ]
  refine wpAnyH_ready (rs := [1, 7]) (by kernel_rfl) (by simp) ?_
  refine AllReadyH.cons (by simp only [List.getElem?_toArray, List.getElem?_cons_succ, List.getElem?_cons_zero]; rfl) (fun K hK => ?_) (AllReadyH.cons (by simp only [List.getElem?_toArray, List.getElem?_cons_succ, List.getElem?_cons_zero]; rfl) (fun K hK => ?_) AllReadyH.nil)
  · go_simp
    have M1 := Lib.hid (M0.out.alloc (.cells #[] 5))
    have A1 := Lib.hid (A0.out.alloc (.cells #[] 5))
    have B1 := Lib.hid (B0.out.alloc B0.out.size (.cells #[] 5))
    have Z1 : Hid (V0.heap.size ≤ (V0.alloc (.cells #[] 5)).heap.size) := Lib.hid (by have := Z0.out; simp <;> omega)
    have O1 : Hid (ShT.Own (V0.alloc (.cells #[] 5)) V0.heap.size (.slice (some ⟨V0.heap.size, 0, none⟩) 0 0) []) := Lib.hid (ShT.Own.made V0 V0.heap.size (Nat.le_refl _) #[] 0 [] rfl (Nat.zero_le _) rfl)
    have X1 : Hid (V0.heap.size ≤ (V0.alloc (.cells #[] 5)).heap.size) := Lib.hid (by simp)
    generalize V0.alloc (.cells #[] 5) = u1 at M1  A1  B1  Z1  O1  X1 ⊢
    refine hK.out _ _ (loadOf M1.out zM.out) (fun hS => ?_)
    clear hK K
    try simp only [Act.put, List.setIfInBounds_toArray, List.set_cons_zero, List.set_cons_succ]
    refine wpAnyH_ready (rs := [3, 7]) (by kernel_rfl) (by simp) ?_
    refine AllReadyH.cons (by simp only [List.getElem?_toArray, List.getElem?_cons_succ, List.getElem?_cons_zero]; rfl) (fun K hK => ?_) (AllReadyH.cons (by simp only [List.getElem?_toArray, List.getElem?_cons_succ, List.getElem?_cons_zero]; rfl) (fun K hK => ?_) AllReadyH.nil)
    · obtain ⟨ka2, kc2, ke2, kr2, _⟩ := HK1.out u1 B1.out
      injection ke2 with ke1 ke2 ke3
      subst ke1 ke3
      clear ke2
      refine stepApp rfl (.tmp 47) (.tmp 48) rfl V0.heap.size (.slice (some ⟨V0.heap.size, 0, none⟩) 0 0) [] rfl O1.out a key n c rfl HN.out kr2 n HN.out hn1m.out X1.out ?_
      intro a2 c2 u2 ho2 hg2 ne2
      have O2 : Hid (ShT.Own u2 V0.heap.size (.slice a2 n c2) key) := Lib.hid ho2
      have hbl2 : ∀ k, ((.slice (some ⟨V0.heap.size, 0, none⟩) 0 0) : Value).ownBlock = some k → V0.heap.size ≤ k := fun k e => Nat.le_trans Z0.out (ShT.Own.blocks O1.out k e).1
      have M2 := Lib.hid (blkOwn M1.out hg2 (fun e => by have := hbl2 _ e; have := HS0.out.1; omega))
      have A2 := Lib.hid (blkOwn A1.out hg2 (fun e => by have := hbl2 _ e; have := HS0.out.2; omega))
      have B2 := Lib.hid (B1.out.grown hg2 B1.out.size (fun k e => by have := hbl2 k e; have := HS0.out.2; omega))
      have Z2 := Lib.hid (Nat.le_trans Z1.out hg2.size)
      have X2 := Lib.hid (Nat.le_trans X1.out hg2.size)
      clear ho2 hg2 hbl2 ne2
      refine hK.out _ _ (loadOf M2.out zM.out) (fun hS => ?_)
      clear hK K
      try simp only [Act.put, List.setIfInBounds_toArray, List.set_cons_zero, List.set_cons_succ]
      refine wpAnyH_ready (rs := [5, 7]) (by kernel_rfl) (by simp) ?_
      refine AllReadyH.cons (by simp only [List.getElem?_toArray, List.getElem?_cons_succ, List.getElem?_cons_zero]; rfl) (fun K hK => ?_) (AllReadyH.cons (by simp only [List.getElem?_toArray, List.getElem?_cons_succ, List.getElem?_cons_zero]; rfl) (fun K hK => ?_) AllReadyH.nil)
      · refine stepZeros rfl (.tmp 49) (.tmp 50) rfl V0.heap.size (.slice a2 n c2) key rfl O2.out q 0 hqz.out rfl (n + q) hqn.out hnqm.out X2.out ?_
        intro a3 c3 u3 ho3 hg3
        have O3 : Hid (ShT.Own u3 V0.heap.size (.slice a3 (n + q) c3) (key ++ List.replicate q 0#8)) := Lib.hid ho3
        have hbl3 : ∀ k, ((.slice a2 n c2) : Value).ownBlock = some k → V0.heap.size ≤ k := fun k e => Nat.le_trans Z0.out (ShT.Own.blocks O2.out k e).1
        have M3 := Lib.hid (blkOwn M2.out hg3 (fun e => by have := hbl3 _ e; have := HS0.out.1; omega))
        have A3 := Lib.hid (blkOwn A2.out hg3 (fun e => by have := hbl3 _ e; have := HS0.out.2; omega))
        have B3 := Lib.hid (B2.out.grown hg3 B2.out.size (fun k e => by have := hbl3 k e; have := HS0.out.2; omega))
        have Z3 := Lib.hid (Nat.le_trans Z2.out hg3.size)
        have X3 := Lib.hid (Nat.le_trans X2.out hg3.size)
        clear ho3 hg3 hbl3
        refine hK.out _ _ (loadOf M3.out zM.out) (fun hS => ?_)
        clear hK K
        try simp only [Act.put, List.setIfInBounds_toArray, List.set_cons_zero, List.set_cons_succ]
        refine wpAnyH_ready (rs := [7]) (by kernel_rfl) (by simp) ?_
        refine AllReadyH.cons (by simp only [List.getElem?_toArray, List.getElem?_cons_succ, List.getElem?_cons_zero]; rfl) (fun K hK => ?_) AllReadyH.nil
        go_simp
        have M4 := Lib.hid (M3.out.alloc (.cells #[.slice ab nb cb] 22))
        have A4 := Lib.hid (A3.out.alloc (.cells #[.slice ab nb cb] 22))
        have B4 := Lib.hid (B3.out.alloc B3.out.size (.cells #[.slice ab nb cb] 22))
        have Z4 : Hid (V0.heap.size ≤ (u3.alloc (.cells #[.slice ab nb cb] 22)).heap.size) := Lib.hid (by have := Z3.out; simp <;> omega)
        have N4 := Lib.hid (Mem.Blk.new u3 22 #[.slice ab nb cb])
        have O4 := Lib.hid (ShT.Own.alloc O3.out (.cells #[.slice ab nb cb] 22))
        have X4 : Hid (V0.heap.size ≤ (u3.alloc (.cells #[.slice ab nb cb] 22)).heap.size) := Lib.hid (by have := X3.out; simp <;> omega)
        have E4 : Hid (((.slice a3 (n + q) c3) : Value).ownBlock ≠ some u3.heap.size) := Lib.hid (by intro e; have := (ShT.Own.blocks O3.out _ e).2; omega)
        generalize u3.alloc (.cells #[.slice ab nb cb] 22) = u4 at M4  A4  B4  Z4  N4  O4  X4 ⊢
        refine hK.out _ _ (loadOf M4.out zM.out) (fun hS => ?_)
        clear hK K
        try simp only [Act.put, List.setIfInBounds_toArray, List.set_cons_zero, List.set_cons_succ]
        refine wpAnyH_ready (rs := [8]) (by kernel_rfl) (by simp) ?_
        refine AllReadyH.cons (by simp only [List.getElem?_toArray, List.getElem?_cons_succ, List.getElem?_cons_zero]; rfl) (fun K hK => ?_) AllReadyH.nil
        go_simp
        go_at_call 11
        refine (HMC.out (key ++ List.replicate q 0#8) _ (n + q) _ u4 u3.heap.size B4.out hqn.out hmz.out (One.own O4.out) N4.out).mono ?_
        rintro e v5 ⟨rfl, b8⟩
        have M5 := Lib.hid (M4.out.below b8 M4.out.lt)
        have A5 := Lib.hid (A4.out.below b8 A4.out.lt)
        have B5 := Lib.hid (B4.out.trans (b8.mono B4.out.size))
        clear b8
        refine hK.out _ _ (loadOf M5.out zM.out) (fun hS => ?_)
        clear hK K
        try simp only [Act.put, List.setIfInBounds_toArray, List.set_cons_zero, List.set_cons_succ]
        refine wpAnyH_take (i := 9) (v := .bool false) (by simp only [List.getElem?_toArray, List.getElem?_cons_succ, List.getElem?_cons_zero]; rfl) (by kernel_rfl) (by kernel_rfl) (by kernel_rfl) (by exact fun _ _ _ h => h) (Or.inl ⟨by rfl, ?_⟩) hS ?_
        · intro wz hSw
          exact exec_neq (.tmp 46) (.tmp 54) rfl MV MV rfl rfl _ wz (HNM.out wz)
        try simp only [Act.put, List.setIfInBounds_toArray, List.set_cons_zero, List.set_cons_succ]
        refine wpAnyH_done (by kernel_rfl) ?_ _
        go_wp2_with fail
        have M7 := Lib.hid M5.out.drew
        have A7 := Lib.hid A5.out.drew
        have B7 := Lib.hid B5.out.drew
        refine wp_region_held_drew (S := fun w' => (loadVar 28 ⟨w2.heap.size, 0, none⟩).run Tryd.prog w' = .ok (.agg MV) w' ∧ (loadVar 28 ⟨w.heap.size, 0, none⟩).run Tryd.prog w' = .ok (.agg AV) w') (by kernel_rfl) ⟨loadOf M7.out zM.out, loadOf A7.out zA.out⟩ (fun hS => ?_)
        try simp only [List.size_toArray, List.length_cons, List.length_nil, Nat.reduceAdd]
        refine wpAnyH_take (i := 0) (v := .agg MV) (by simp only [List.getElem?_toArray, List.getElem?_cons_zero]; rfl) (by kernel_rfl) (by kernel_rfl) (by kernel_rfl) (by exact fun _ _ _ h => h) (Or.inl ⟨by rfl, ?_⟩) hS ?_
        · intro wz hSw
          exact exec_load 28 (.tmp 9) rfl ⟨w2.heap.size, 0, none⟩ rfl _ wz hSw.1
        try simp only [Act.put, List.setIfInBounds_toArray, List.set_cons_zero, List.set_cons_succ]
        refine wpAnyH_take (i := 1) (v := .agg MV) (by simp only [List.getElem?_toArray, List.getElem?_cons_succ, List.getElem?_cons_zero]; rfl) (by kernel_rfl) (by kernel_rfl) (by kernel_rfl) (by exact fun _ _ _ h => h) (Or.inl ⟨by rfl, ?_⟩) hS ?_
        · intro wz hSw
          exact exec_load 28 (.tmp 9) rfl ⟨w2.heap.size, 0, none⟩ rfl _ wz hSw.1
        try simp only [Act.put, List.setIfInBounds_toArray, List.set_cons_zero, List.set_cons_succ]
        refine wpAnyH_ready (rs := [2]) (by kernel_rfl) (by simp) ?_
        refine AllReadyH.cons (by simp only [List.getElem?_toArray, List.getElem?_cons_succ, List.getElem?_cons_zero]; rfl) (fun K hK => ?_) AllReadyH.nil
        go_simp
        go_at_call 18
        refine (HEQ.out _).mono ?_
        rintro e wq ⟨rfl, bq⟩
        have M8 := Lib.hid (M7.out.below bq M7.out.lt)
        have A8 := Lib.hid (A7.out.below bq A7.out.lt)
        have B8 := Lib.hid (B7.out.trans (bq.mono B7.out.size))
        clear bq
        refine hK.out _ _ ⟨loadOf M8.out zM.out, loadOf A8.out zA.out⟩ (fun hS => ?_)
        clear hK K
        try simp only [Act.put, List.setIfInBounds_toArray, List.set_cons_zero, List.set_cons_succ]
        refine wpAnyH_take (i := 3) (v := ?_) (by simp only [List.getElem?_toArray, List.getElem?_cons_succ, List.getElem?_cons_zero]; rfl) (by kernel_rfl) (by kernel_rfl) (by kernel_rfl) (by exact fun _ _ _ h => h) (Or.inl ⟨by rfl, ?_⟩) hS ?_
        rotate_left
        · intro w hSw
          go_simp
          try with_reducible rfl
        try simp only [Act.put, List.setIfInBounds_toArray, List.set_cons_zero, List.set_cons_succ]
        refine wpAnyH_take (i := 4) (v := .agg MV) (by simp only [List.getElem?_toArray, List.getElem?_cons_succ, List.getElem?_cons_zero]; rfl) (by kernel_rfl) (by kernel_rfl) (by kernel_rfl) (by exact fun _ _ _ h => h) (Or.inl ⟨by rfl, ?_⟩) hS ?_
        · intro wz hSw
          exact exec_load 28 (.tmp 9) rfl ⟨w2.heap.size, 0, none⟩ rfl _ wz hSw.1
        try simp only [Act.put, List.setIfInBounds_toArray, List.set_cons_zero, List.set_cons_succ]
        refine wpAnyH_take (i := 5) (v := .agg AV) (by simp only [List.getElem?_toArray, List.getElem?_cons_succ, List.getElem?_cons_zero]; rfl) (by kernel_rfl) (by kernel_rfl) (by kernel_rfl) (by exact fun _ _ _ h => h) (Or.inl ⟨by rfl, ?_⟩) hS ?_
        · intro wz hSw
          exact exec_load 28 (.tmp 7) rfl ⟨w.heap.size, 0, none⟩ rfl _ wz hSw.2
        try simp only [Act.put, List.setIfInBounds_toArray, List.set_cons_zero, List.set_cons_succ]
        refine wpAnyH_take (i := 7) (v := .agg MV) (by simp only [List.getElem?_toArray, List.getElem?_cons_succ, List.getElem?_cons_zero]; rfl) (by kernel_rfl) (by kernel_rfl) (by kernel_rfl) (by exact fun _ _ _ h => h) (Or.inl ⟨by rfl, ?_⟩) hS ?_
        · intro wz hSw
          exact exec_load 28 (.tmp 9) rfl ⟨w2.heap.size, 0, none⟩ rfl _ wz hSw.1
        try simp only [Act.put, List.setIfInBounds_toArray, List.set_cons_zero, List.set_cons_succ]
        refine wpAnyH_take (i := 8) (v := .agg AV) (by simp only [List.getElem?_toArray, List.getElem?_cons_succ, List.getElem?_cons_zero]; rfl) (by kernel_rfl) (by kernel_rfl) (by kernel_rfl) (by exact fun _ _ _ h => h) (Or.inl ⟨by rfl, ?_⟩) hS ?_
        · intro wz hSw
          exact exec_load 28 (.tmp 7) rfl ⟨w.heap.size, 0, none⟩ rfl _ wz hSw.2
        try simp only [Act.put, List.setIfInBounds_toArray, List.set_cons_zero, List.set_cons_succ]
        refine wpAnyH_take (i := 9) (v := .bool r) (by simp only [List.getElem?_toArray, List.getElem?_cons_succ, List.getElem?_cons_zero]; rfl) (by kernel_rfl) (by kernel_rfl) (by kernel_rfl) (by exact fun _ _ _ h => h) (Or.inl ⟨by rfl, ?_⟩) hS ?_
        · intro wz hSw
          exact exec_eql (.tmp 63) (.tmp 64) rfl MV AV rfl rfl _ wz (HEB.out wz)
        try simp only [Act.put, List.setIfInBounds_toArray, List.set_cons_zero, List.set_cons_succ]
        refine wpAnyH_ready (rs := [6]) (by kernel_rfl) (by simp) ?_
        refine AllReadyH.cons (by simp only [List.getElem?_toArray, List.getElem?_cons_succ, List.getElem?_cons_zero]; rfl) (fun K hK => ?_) AllReadyH.nil
        go_simp
        go_at_call 18
        refine (HEA.out _).mono ?_
        rintro e wq2 ⟨rfl, bq⟩
        have M9 := Lib.hid (M8.out.below bq M8.out.lt)
        have A9 := Lib.hid (A8.out.below bq A8.out.lt)
        have B9 := Lib.hid (B8.out.trans (bq.mono B8.out.size))
        clear bq
        refine hK.out _ _ ⟨loadOf M9.out zM.out, loadOf A9.out zA.out⟩ (fun hS => ?_)
        clear hK K
        try simp only [Act.put, List.setIfInBounds_toArray, List.set_cons_zero, List.set_cons_succ]
        refine wpAnyH_take (i := 10) (v := ?_) (by simp only [List.getElem?_toArray, List.getElem?_cons_succ, List.getElem?_cons_zero]; rfl) (by kernel_rfl) (by kernel_rfl) (by kernel_rfl) (by exact fun _ _ _ h => h) (Or.inl ⟨by rfl, ?_⟩) hS ?_
        rotate_left
        · intro w hSw
          go_simp
          try with_reducible rfl
        try simp only [Act.put, List.setIfInBounds_toArray, List.set_cons_zero, List.set_cons_succ]
        refine wpAnyH_take (i := 11) (v := ?_) (by simp only [List.getElem?_toArray, List.getElem?_cons_succ, List.getElem?_cons_zero]; rfl) (by kernel_rfl) (by kernel_rfl) (by kernel_rfl) (by exact fun _ _ _ h => h) (Or.inl ⟨by rfl, ?_⟩) hS ?_
        rotate_left
        · intro w hSw
          go_simp
          try with_reducible rfl
        try simp only [Act.put, List.setIfInBounds_toArray, List.set_cons_zero, List.set_cons_succ]
        refine wpAnyH_take (i := 12) (v := ?_) (by simp only [List.getElem?_toArray, List.getElem?_cons_succ, List.getElem?_cons_zero]; rfl) (by kernel_rfl) (by kernel_rfl) (by kernel_rfl) (by exact fun _ _ _ h => h) (Or.inl ⟨by rfl, ?_⟩) hS ?_
        rotate_left
        · intro w hSw
          go_simp
          try with_reducible rfl
        try simp only [Act.put, List.setIfInBounds_toArray, List.set_cons_zero, List.set_cons_succ]
        refine wpAnyH_done (by kernel_rfl) ?_ _
        go_wp2_with fail
        go_ret
        exact ⟨by simp, B9.out⟩
      · go_simp
        have M6 := Lib.hid (M2.out.alloc (.cells #[.slice ab nb cb] 22))
        have A6 := Lib.hid (A2.out.alloc (.cells #[.slice ab nb cb] 22))
        have B6 := Lib.hid (B2.out.alloc B2.out.size (.cells #[.slice ab nb cb] 22))
        have Z6 : Hid (V0.heap.size ≤ (u2.alloc (.cells #[.slice ab nb cb] 22)).heap.size) := Lib.hid (by have := Z2.out; simp <;> omega)
        have N6 := Lib.hid (Mem.Blk.new u2 22 #[.slice ab nb cb])
        have O6 := Lib.hid (ShT.Own.alloc O2.out (.cells #[.slice ab nb cb] 22))
        have X6 : Hid (V0.heap.size ≤ (u2.alloc (.cells #[.slice ab nb cb] 22)).heap.size) := Lib.hid (by have := X2.out; simp <;> omega)
        have E6 : Hid (((.slice a2 n c2) : Value).ownBlock ≠ some u2.heap.size) := Lib.hid (by intro e; have := (ShT.Own.blocks O2.out _ e).2; omega)
        generalize u2.alloc (.cells #[.slice ab nb cb] 22) = u6 at M6  A6  B6  Z6  N6  O6  X6 ⊢
        refine hK.out _ _ (loadOf M6.out zM.out) (fun hS => ?_)
        clear hK K
        try simp only [Act.put, List.setIfInBounds_toArray, List.set_cons_zero, List.set_cons_succ]
        refine wpAnyH_ready (rs := [5]) (by kernel_rfl) (by simp) ?_
        refine AllReadyH.cons (by simp only [List.getElem?_toArray, List.getElem?_cons_succ, List.getElem?_cons_zero]; rfl) (fun K hK => ?_) AllReadyH.nil
        refine stepZeros rfl (.tmp 49) (.tmp 50) rfl V0.heap.size (.slice a2 n c2) key rfl O6.out q 0 hqz.out rfl (n + q) hqn.out hnqm.out X6.out ?_
        intro a7 c7 u7 ho7 hg7
        have O7 : Hid (ShT.Own u7 V0.heap.size (.slice a7 (n + q) c7) (key ++ List.replicate q 0#8)) := Lib.hid ho7
        have hbl7 : ∀ k, ((.slice a2 n c2) : Value).ownBlock = some k → V0.heap.size ≤ k := fun k e => Nat.le_trans Z0.out (ShT.Own.blocks O6.out k e).1
        have M7 := Lib.hid (blkOwn M6.out hg7 (fun e => by have := hbl7 _ e; have := HS0.out.1; omega))
        have A7 := Lib.hid (blkOwn A6.out hg7 (fun e => by have := hbl7 _ e; have := HS0.out.2; omega))
        have B7 := Lib.hid (B6.out.grown hg7 B6.out.size (fun k e => by have := hbl7 k e; have := HS0.out.2; omega))
        have Z7 := Lib.hid (Nat.le_trans Z6.out hg7.size)
        have X7 := Lib.hid (Nat.le_trans X6.out hg7.size)
        have N7 := Lib.hid (blkOwn N6.out hg7 E6.out)
        clear ho7 hg7 hbl7
        refine hK.out _ _ (loadOf M7.out zM.out) (fun hS => ?_)
        clear hK K
        try simp only [Act.put, List.setIfInBounds_toArray, List.set_cons_zero, List.set_cons_succ]
        refine wpAnyH_ready (rs := [8]) (by kernel_rfl) (by simp) ?_
        refine AllReadyH.cons (by simp only [List.getElem?_toArray, List.getElem?_cons_succ, List.getElem?_cons_zero]; rfl) (fun K hK => ?_) AllReadyH.nil
        go_simp
        go_at_call 11
        refine (HMC.out (key ++ List.replicate q 0#8) _ (n + q) _ u7 u2.heap.size B7.out hqn.out hmz.out (One.own O7.out) N7.out).mono ?_
        rintro e v8 ⟨rfl, b8⟩
        have M8 := Lib.hid (M7.out.below b8 M7.out.lt)
        have A8 := Lib.hid (A7.out.below b8 A7.out.lt)
        have B8 := Lib.hid (B7.out.trans (b8.mono B7.out.size))
        clear b8
        refine hK.out _ _ (loadOf M8.out zM.out) (fun hS => ?_)
        clear hK K
        try simp only [Act.put, List.setIfInBounds_toArray, List.set_cons_zero, List.set_cons_succ]
        refine wpAnyH_take (i := 9) (v := .bool false) (by simp only [List.getElem?_toArray, List.getElem?_cons_succ, List.getElem?_cons_zero]; rfl) (by kernel_rfl) (by kernel_rfl) (by kernel_rfl) (by exact fun _ _ _ h => h) (Or.inl ⟨by rfl, ?_⟩) hS ?_
        · intro wz hSw
          exact exec_neq (.tmp 46) (.tmp 54) rfl MV MV rfl rfl _ wz (HNM.out wz)
        try simp only [Act.put, List.setIfInBounds_toArray, List.set_cons_zero, List.set_cons_succ]
        refine wpAnyH_done (by kernel_rfl) ?_ _
        go_wp2_with fail
        have M7 := Lib.hid M8.out.drew
        have A7 := Lib.hid A8.out.drew
        have B7 := Lib.hid B8.out.drew
        refine wp_region_held_drew (S := fun w' => (loadVar 28 ⟨w2.heap.size, 0, none⟩).run Tryd.prog w' = .ok (.agg MV) w' ∧ (loadVar 28 ⟨w.heap.size, 0, none⟩).run Tryd.prog w' = .ok (.agg AV) w') (by kernel_rfl) ⟨loadOf M7.out zM.out, loadOf A7.out zA.out⟩ (fun hS => ?_)
        try simp only [List.size_toArray, List.length_cons, List.length_nil, Nat.reduceAdd]
        refine wpAnyH_take (i := 0) (v := .agg MV) (by simp only [List.getElem?_toArray, List.getElem?_cons_zero]; rfl) (by kernel_rfl) (by kernel_rfl) (by kernel_rfl) (by exact fun _ _ _ h => h) (Or.inl ⟨by rfl, ?_⟩) hS ?_
        · intro wz hSw
          exact exec_load 28 (.tmp 9) rfl ⟨w2.heap.size, 0, none⟩ rfl _ wz hSw.1
        try simp only [Act.put, List.setIfInBounds_toArray, List.set_cons_zero, List.set_cons_succ]
        refine wpAnyH_take (i := 1) (v := .agg MV) (by simp only [List.getElem?_toArray, List.getElem?_cons_succ, List.getElem?_cons_zero]; rfl) (by kernel_rfl) (by kernel_rfl) (by kernel_rfl) (by exact fun _ _ _ h => h) (Or.inl ⟨by rfl, ?_⟩) hS ?_
        · intro wz hSw
          exact exec_load 28 (.tmp 9) rfl ⟨w2.heap.size, 0, none⟩ rfl _ wz hSw.1
        try simp only [Act.put, List.setIfInBounds_toArray, List.set_cons_zero, List.set_cons_succ]
        refine wpAnyH_ready (rs := [2]) (by kernel_rfl) (by simp) ?_
        refine AllReadyH.cons (by simp only [List.getElem?_toArray, List.getElem?_cons_succ, List.getElem?_cons_zero]; rfl) (fun K hK => ?_) AllReadyH.nil
        go_simp
        go_at_call 18
        refine (HEQ.out _).mono ?_
        rintro e wq ⟨rfl, bq⟩
        have M8 := Lib.hid (M7.out.below bq M7.out.lt)
        have A8 := Lib.hid (A7.out.below bq A7.out.lt)
        have B8 := Lib.hid (B7.out.trans (bq.mono B7.out.size))
        clear bq
        refine hK.out _ _ ⟨loadOf M8.out zM.out, loadOf A8.out zA.out⟩ (fun hS => ?_)
        clear hK K
        try simp only [Act.put, List.setIfInBounds_toArray, List.set_cons_zero, List.set_cons_succ]
        refine wpAnyH_take (i := 3) (v := ?_) (by simp only [List.getElem?_toArray, List.getElem?_cons_succ, List.getElem?_cons_zero]; rfl) (by kernel_rfl) (by kernel_rfl) (by kernel_rfl) (by exact fun _ _ _ h => h) (Or.inl ⟨by rfl, ?_⟩) hS ?_
        rotate_left
        · intro w hSw
          go_simp
          try with_reducible rfl
        try simp only [Act.put, List.setIfInBounds_toArray, List.set_cons_zero, List.set_cons_succ]
        refine wpAnyH_take (i := 4) (v := .agg MV) (by simp only [List.getElem?_toArray, List.getElem?_cons_succ, List.getElem?_cons_zero]; rfl) (by kernel_rfl) (by kernel_rfl) (by kernel_rfl) (by exact fun _ _ _ h => h) (Or.inl ⟨by rfl, ?_⟩) hS ?_
        · intro wz hSw
          exact exec_load 28 (.tmp 9) rfl ⟨w2.heap.size, 0, none⟩ rfl _ wz hSw.1
        try simp only [Act.put, List.setIfInBounds_toArray, List.set_cons_zero, List.set_cons_succ]
        refine wpAnyH_take (i := 5) (v := .agg AV) (by simp only [List.getElem?_toArray, List.getElem?_cons_succ, List.getElem?_cons_zero]; rfl) (by kernel_rfl) (by kernel_rfl) (by kernel_rfl) (by exact fun _ _ _ h => h) (Or.inl ⟨by rfl, ?_⟩) hS ?_
        · intro wz hSw
          exact exec_load 28 (.tmp 7) rfl ⟨w.heap.size, 0, none⟩ rfl _ wz hSw.2
        try simp only [Act.put, List.setIfInBounds_toArray, List.set_cons_zero, List.set_cons_succ]
        refine wpAnyH_take (i := 7) (v := .agg MV) (by simp only [List.getElem?_toArray, List.getElem?_cons_succ, List.getElem?_cons_zero]; rfl) (by kernel_rfl) (by kernel_rfl) (by kernel_rfl) (by exact fun _ _ _ h => h) (Or.inl ⟨by rfl, ?_⟩) hS ?_
        · intro wz hSw
          exact exec_load 28 (.tmp 9) rfl ⟨w2.heap.size, 0, none⟩ rfl _ wz hSw.1
        try simp only [Act.put, List.setIfInBounds_toArray, List.set_cons_zero, List.set_cons_succ]
        refine wpAnyH_take (i := 8) (v := .agg AV) (by simp only [List.getElem?_toArray, List.getElem?_cons_succ, List.getElem?_cons_zero]; rfl) (by kernel_rfl) (by kernel_rfl) (by kernel_rfl) (by exact fun _ _ _ h => h) (Or.inl ⟨by rfl, ?_⟩) hS ?_
        · intro wz hSw
          exact exec_load 28 (.tmp 7) rfl ⟨w.heap.size, 0, none⟩ rfl _ wz hSw.2
        try simp only [Act.put, List.setIfInBounds_toArray, List.set_cons_zero, List.set_cons_succ]
        refine wpAnyH_take (i := 9) (v := .bool r) (by simp only [List.getElem?_toArray, List.getElem?_cons_succ, List.getElem?_cons_zero]; rfl) (by kernel_rfl) (by kernel_rfl) (by kernel_rfl) (by exact fun _ _ _ h => h) (Or.inl ⟨by rfl, ?_⟩) hS ?_
        · intro wz hSw
          exact exec_eql (.tmp 63) (.tmp 64) rfl MV AV rfl rfl _ wz (HEB.out wz)
        try simp only [Act.put, List.setIfInBounds_toArray, List.set_cons_zero, List.set_cons_succ]
        refine wpAnyH_ready (rs := [6]) (by kernel_rfl) (by simp) ?_
        refine AllReadyH.cons (by simp only [List.getElem?_toArray, List.getElem?_cons_succ, List.getElem?_cons_zero]; rfl) (fun K hK => ?_) AllReadyH.nil
        go_simp
        go_at_call 18
        refine (HEA.out _).mono ?_
        rintro e wq2 ⟨rfl, bq⟩
        have M9 := Lib.hid (M8.out.below bq M8.out.lt)
        have A9 := Lib.hid (A8.out.below bq A8.out.lt)
        have B9 := Lib.hid (B8.out.trans (bq.mono B8.out.size))
        clear bq
        refine hK.out _ _ ⟨loadOf M9.out zM.out, loadOf A9.out zA.out⟩ (fun hS => ?_)
        clear hK K
        try simp only [Act.put, List.setIfInBounds_toArray, List.set_cons_zero, List.set_cons_succ]
        refine wpAnyH_take (i := 10) (v := ?_) (by simp only [List.getElem?_toArray, List.getElem?_cons_succ, List.getElem?_cons_zero]; rfl) (by kernel_rfl) (by kernel_rfl) (by kernel_rfl) (by exact fun _ _ _ h => h) (Or.inl ⟨by rfl, ?_⟩) hS ?_
        rotate_left
        · intro w hSw
          go_simp
          try with_reducible rfl
        try simp only [Act.put, List.setIfInBounds_toArray, List.set_cons_zero, List.set_cons_succ]
        refine wpAnyH_take (i := 11) (v := ?_) (by simp only [List.getElem?_toArray, List.getElem?_cons_succ, List.getElem?_cons_zero]; rfl) (by kernel_rfl) (by kernel_rfl) (by kernel_rfl) (by exact fun _ _ _ h => h) (Or.inl ⟨by rfl, ?_⟩) hS ?_
        rotate_left
        · intro w hSw
          go_simp
          try with_reducible rfl
        try simp only [Act.put, List.setIfInBounds_toArray, List.set_cons_zero, List.set_cons_succ]
        refine wpAnyH_take (i := 12) (v := ?_) (by simp only [List.getElem?_toArray, List.getElem?_cons_succ, List.getElem?_cons_zero]; rfl) (by kernel_rfl) (by kernel_rfl) (by kernel_rfl) (by exact fun _ _ _ h => h) (Or.inl ⟨by rfl, ?_⟩) hS ?_
        rotate_left
        · intro w hSw
          go_simp
          try with_reducible rfl
        try simp only [Act.put, List.setIfInBounds_toArray, List.set_cons_zero, List.set_cons_succ]
        refine wpAnyH_done (by kernel_rfl) ?_ _
        go_wp2_with fail
        go_ret
        exact ⟨by simp, B9.out⟩
    · go_simp
      have M9 := Lib.hid (M1.out.alloc (.cells #[.slice ab nb cb] 22))
      have A9 := Lib.hid (A1.out.alloc (.cells #[.slice ab nb cb] 22))
      have B9 := Lib.hid (B1.out.alloc B1.out.size (.cells #[.slice ab nb cb] 22))
      have Z9 : Hid (V0.heap.size ≤ (u1.alloc (.cells #[.slice ab nb cb] 22)).heap.size) := Lib.hid (by have := Z1.out; simp <;> omega)
      have N9 := Lib.hid (Mem.Blk.new u1 22 #[.slice ab nb cb])
      have O9 := Lib.hid (ShT.Own.alloc O1.out (.cells #[.slice ab nb cb] 22))
      have X9 : Hid (V0.heap.size ≤ (u1.alloc (.cells #[.slice ab nb cb] 22)).heap.size) := Lib.hid (by have := X1.out; simp <;> omega)
      have E9 : Hid (((.slice (some ⟨V0.heap.size, 0, none⟩) 0 0) : Value).ownBlock ≠ some u1.heap.size) := Lib.hid (by intro e; have := (ShT.Own.blocks O1.out _ e).2; omega)
      generalize u1.alloc (.cells #[.slice ab nb cb] 22) = u9 at M9  A9  B9  Z9  N9  O9  X9 ⊢
      refine hK.out _ _ (loadOf M9.out zM.out) (fun hS => ?_)
      clear hK K
      try simp only [Act.put, List.setIfInBounds_toArray, List.set_cons_zero, List.set_cons_succ]
      refine wpAnyH_ready (rs := [3]) (by kernel_rfl) (by simp) ?_
      refine AllReadyH.cons (by simp only [List.getElem?_toArray, List.getElem?_cons_succ, List.getElem?_cons_zero]; rfl) (fun K hK => ?_) AllReadyH.nil
      obtain ⟨ka10, kc10, ke10, kr10, _⟩ := HK1.out u9 B9.out
      injection ke10 with ke1 ke2 ke3
      subst ke1 ke3
      clear ke2
      refine stepApp rfl (.tmp 47) (.tmp 48) rfl V0.heap.size (.slice (some ⟨V0.heap.size, 0, none⟩) 0 0) [] rfl O9.out a key n c rfl HN.out kr10 n HN.out hn1m.out X9.out ?_
      intro a10 c10 u10 ho10 hg10 ne10
      have O10 : Hid (ShT.Own u10 V0.heap.size (.slice a10 n c10) key) := Lib.hid ho10
      have hbl10 : ∀ k, ((.slice (some ⟨V0.heap.size, 0, none⟩) 0 0) : Value).ownBlock = some k → V0.heap.size ≤ k := fun k e => Nat.le_trans Z0.out (ShT.Own.blocks O9.out k e).1
      have M10 := Lib.hid (blkOwn M9.out hg10 (fun e => by have := hbl10 _ e; have := HS0.out.1; omega))
      have A10 := Lib.hid (blkOwn A9.out hg10 (fun e => by have := hbl10 _ e; have := HS0.out.2; omega))
      have B10 := Lib.hid (B9.out.grown hg10 B9.out.size (fun k e => by have := hbl10 k e; have := HS0.out.2; omega))
      have Z10 := Lib.hid (Nat.le_trans Z9.out hg10.size)
      have X10 := Lib.hid (Nat.le_trans X9.out hg10.size)
      have N10 := Lib.hid (blkOwn N9.out hg10 E9.out)
      have E10 : Hid (((.slice a10 n c10) : Value).ownBlock ≠ some u1.heap.size) := Lib.hid (by
        rcases ne10 with e | e
        · rw [e]; exact E9.out
        · rw [e]; intro e2; injection e2 with e2; have e3 : u9.heap.size = u1.heap.size := e2; have := N9.out.lt; omega)
      clear ho10 hg10 hbl10 ne10
      refine hK.out _ _ (loadOf M10.out zM.out) (fun hS => ?_)
      clear hK K
      try simp only [Act.put, List.setIfInBounds_toArray, List.set_cons_zero, List.set_cons_succ]
      refine wpAnyH_ready (rs := [5]) (by kernel_rfl) (by simp) ?_
      refine AllReadyH.cons (by simp only [List.getElem?_toArray, List.getElem?_cons_succ, List.getElem?_cons_zero]; rfl) (fun K hK => ?_) AllReadyH.nil
      refine stepZeros rfl (.tmp 49) (.tmp 50) rfl V0.heap.size (.slice a10 n c10) key rfl O10.out q 0 hqz.out rfl (n + q) hqn.out hnqm.out X10.out ?_
      intro a11 c11 u11 ho11 hg11
      have O11 : Hid (ShT.Own u11 V0.heap.size (.slice a11 (n + q) c11) (key ++ List.replicate q 0#8)) := Lib.hid ho11
      have hbl11 : ∀ k, ((.slice a10 n c10) : Value).ownBlock = some k → V0.heap.size ≤ k := fun k e => Nat.le_trans Z0.out (ShT.Own.blocks O10.out k e).1
      have M11 := Lib.hid (blkOwn M10.out hg11 (fun e => by have := hbl11 _ e; have := HS0.out.1; omega))
      have A11 := Lib.hid (blkOwn A10.out hg11 (fun e => by have := hbl11 _ e; have := HS0.out.2; omega))
      have B11 := Lib.hid (B10.out.grown hg11 B10.out.size (fun k e => by have := hbl11 k e; have := HS0.out.2; omega))
      have Z11 := Lib.hid (Nat.le_trans Z10.out hg11.size)
      have X11 := Lib.hid (Nat.le_trans X10.out hg11.size)
      have N11 := Lib.hid (blkOwn N10.out hg11 E10.out)
      clear ho11 hg11 hbl11
      refine hK.out _ _ (loadOf M11.out zM.out) (fun hS => ?_)
      clear hK K
      try simp only [Act.put, List.setIfInBounds_toArray, List.set_cons_zero, List.set_cons_succ]
      refine wpAnyH_ready (rs := [8]) (by kernel_rfl) (by simp) ?_
      refine AllReadyH.cons (by simp only [List.getElem?_toArray, List.getElem?_cons_succ, List.getElem?_cons_zero]; rfl) (fun K hK => ?_) AllReadyH.nil
      go_simp
      go_at_call 11
      refine (HMC.out (key ++ List.replicate q 0#8) _ (n + q) _ u11 u1.heap.size B11.out hqn.out hmz.out (One.own O11.out) N11.out).mono ?_
      rintro e v12 ⟨rfl, b8⟩
      have M12 := Lib.hid (M11.out.below b8 M11.out.lt)
      have A12 := Lib.hid (A11.out.below b8 A11.out.lt)
      have B12 := Lib.hid (B11.out.trans (b8.mono B11.out.size))
      clear b8
      refine hK.out _ _ (loadOf M12.out zM.out) (fun hS => ?_)
      clear hK K
      try simp only [Act.put, List.setIfInBounds_toArray, List.set_cons_zero, List.set_cons_succ]
      refine wpAnyH_take (i := 9) (v := .bool false) (by simp only [List.getElem?_toArray, List.getElem?_cons_succ, List.getElem?_cons_zero]; rfl) (by kernel_rfl) (by kernel_rfl) (by kernel_rfl) (by exact fun _ _ _ h => h) (Or.inl ⟨by rfl, ?_⟩) hS ?_
      · intro wz hSw
        exact exec_neq (.tmp 46) (.tmp 54) rfl MV MV rfl rfl _ wz (HNM.out wz)
      try simp only [Act.put, List.setIfInBounds_toArray, List.set_cons_zero, List.set_cons_succ]
      refine wpAnyH_done (by kernel_rfl) ?_ _
      go_wp2_with fail
      have M7 := Lib.hid M12.out.drew
      have A7 := Lib.hid A12.out.drew
      have B7 := Lib.hid B12.out.drew
      refine wp_region_held_drew (S := fun w' => (loadVar 28 ⟨w2.heap.size, 0, none⟩).run Tryd.prog w' = .ok (.agg MV) w' ∧ (loadVar 28 ⟨w.heap.size, 0, none⟩).run Tryd.prog w' = .ok (.agg AV) w') (by kernel_rfl) ⟨loadOf M7.out zM.out, loadOf A7.out zA.out⟩ (fun hS => ?_)
      try simp only [List.size_toArray, List.length_cons, List.length_nil, Nat.reduceAdd]
      refine wpAnyH_take (i := 0) (v := .agg MV) (by simp only [List.getElem?_toArray, List.getElem?_cons_zero]; rfl) (by kernel_rfl) (by kernel_rfl) (by kernel_rfl) (by exact fun _ _ _ h => h) (Or.inl ⟨by rfl, ?_⟩) hS ?_
      · intro wz hSw
        exact exec_load 28 (.tmp 9) rfl ⟨w2.heap.size, 0, none⟩ rfl _ wz hSw.1
      try simp only [Act.put, List.setIfInBounds_toArray, List.set_cons_zero, List.set_cons_succ]
      refine wpAnyH_take (i := 1) (v := .agg MV) (by simp only [List.getElem?_toArray, List.getElem?_cons_succ, List.getElem?_cons_zero]; rfl) (by kernel_rfl) (by kernel_rfl) (by kernel_rfl) (by exact fun _ _ _ h => h) (Or.inl ⟨by rfl, ?_⟩) hS ?_
      · intro wz hSw
        exact exec_load 28 (.tmp 9) rfl ⟨w2.heap.size, 0, none⟩ rfl _ wz hSw.1
      try simp only [Act.put, List.setIfInBounds_toArray, List.set_cons_zero, List.set_cons_succ]
      refine wpAnyH_ready (rs := [2]) (by kernel_rfl) (by simp) ?_
      refine AllReadyH.cons (by simp only [List.getElem?_toArray, List.getElem?_cons_succ, List.getElem?_cons_zero]; rfl) (fun K hK => ?_) AllReadyH.nil
      go_simp
      go_at_call 18
      refine (HEQ.out _).mono ?_
      rintro e wq ⟨rfl, bq⟩
      have M8 := Lib.hid (M7.out.below bq M7.out.lt)
      have A8 := Lib.hid (A7.out.below bq A7.out.lt)
      have B8 := Lib.hid (B7.out.trans (bq.mono B7.out.size))
      clear bq
      refine hK.out _ _ ⟨loadOf M8.out zM.out, loadOf A8.out zA.out⟩ (fun hS => ?_)
      clear hK K
      try simp only [Act.put, List.setIfInBounds_toArray, List.set_cons_zero, List.set_cons_succ]
      refine wpAnyH_take (i := 3) (v := ?_) (by simp only [List.getElem?_toArray, List.getElem?_cons_succ, List.getElem?_cons_zero]; rfl) (by kernel_rfl) (by kernel_rfl) (by kernel_rfl) (by exact fun _ _ _ h => h) (Or.inl ⟨by rfl, ?_⟩) hS ?_
      rotate_left
      · intro w hSw
        go_simp
        try with_reducible rfl
      try simp only [Act.put, List.setIfInBounds_toArray, List.set_cons_zero, List.set_cons_succ]
      refine wpAnyH_take (i := 4) (v := .agg MV) (by simp only [List.getElem?_toArray, List.getElem?_cons_succ, List.getElem?_cons_zero]; rfl) (by kernel_rfl) (by kernel_rfl) (by kernel_rfl) (by exact fun _ _ _ h => h) (Or.inl ⟨by rfl, ?_⟩) hS ?_
      · intro wz hSw
        exact exec_load 28 (.tmp 9) rfl ⟨w2.heap.size, 0, none⟩ rfl _ wz hSw.1
      try simp only [Act.put, List.setIfInBounds_toArray, List.set_cons_zero, List.set_cons_succ]
      refine wpAnyH_take (i := 5) (v := .agg AV) (by simp only [List.getElem?_toArray, List.getElem?_cons_succ, List.getElem?_cons_zero]; rfl) (by kernel_rfl) (by kernel_rfl) (by kernel_rfl) (by exact fun _ _ _ h => h) (Or.inl ⟨by rfl, ?_⟩) hS ?_
      · intro wz hSw
        exact exec_load 28 (.tmp 7) rfl ⟨w.heap.size, 0, none⟩ rfl _ wz hSw.2
      try simp only [Act.put, List.setIfInBounds_toArray, List.set_cons_zero, List.set_cons_succ]
      refine wpAnyH_take (i := 7) (v := .agg MV) (by simp only [List.getElem?_toArray, List.getElem?_cons_succ, List.getElem?_cons_zero]; rfl) (by kernel_rfl) (by kernel_rfl) (by kernel_rfl) (by exact fun _ _ _ h => h) (Or.inl ⟨by rfl, ?_⟩) hS ?_
      · intro wz hSw
        exact exec_load 28 (.tmp 9) rfl ⟨w2.heap.size, 0, none⟩ rfl _ wz hSw.1
      try simp only [Act.put, List.setIfInBounds_toArray, List.set_cons_zero, List.set_cons_succ]
      refine wpAnyH_take (i := 8) (v := .agg AV) (by simp only [List.getElem?_toArray, List.getElem?_cons_succ, List.getElem?_cons_zero]; rfl) (by kernel_rfl) (by kernel_rfl) (by kernel_rfl) (by exact fun _ _ _ h => h) (Or.inl ⟨by rfl, ?_⟩) hS ?_
      · intro wz hSw
        exact exec_load 28 (.tmp 7) rfl ⟨w.heap.size, 0, none⟩ rfl _ wz hSw.2
      try simp only [Act.put, List.setIfInBounds_toArray, List.set_cons_zero, List.set_cons_succ]
      refine wpAnyH_take (i := 9) (v := .bool r) (by simp only [List.getElem?_toArray, List.getElem?_cons_succ, List.getElem?_cons_zero]; rfl) (by kernel_rfl) (by kernel_rfl) (by kernel_rfl) (by exact fun _ _ _ h => h) (Or.inl ⟨by rfl, ?_⟩) hS ?_
      · intro wz hSw
        exact exec_eql (.tmp 63) (.tmp 64) rfl MV AV rfl rfl _ wz (HEB.out wz)
      try simp only [Act.put, List.setIfInBounds_toArray, List.set_cons_zero, List.set_cons_succ]
      refine wpAnyH_ready (rs := [6]) (by kernel_rfl) (by simp) ?_
      refine AllReadyH.cons (by simp only [List.getElem?_toArray, List.getElem?_cons_succ, List.getElem?_cons_zero]; rfl) (fun K hK => ?_) AllReadyH.nil
      go_simp
      go_at_call 18
      refine (HEA.out _).mono ?_
      rintro e wq2 ⟨rfl, bq⟩
      have M9 := Lib.hid (M8.out.below bq M8.out.lt)
      have A9 := Lib.hid (A8.out.below bq A8.out.lt)
      have B9 := Lib.hid (B8.out.trans (bq.mono B8.out.size))
      clear bq
      refine hK.out _ _ ⟨loadOf M9.out zM.out, loadOf A9.out zA.out⟩ (fun hS => ?_)
      clear hK K
      try simp only [Act.put, List.setIfInBounds_toArray, List.set_cons_zero, List.set_cons_succ]
      refine wpAnyH_take (i := 10) (v := ?_) (by simp only [List.getElem?_toArray, List.getElem?_cons_succ, List.getElem?_cons_zero]; rfl) (by kernel_rfl) (by kernel_rfl) (by kernel_rfl) (by exact fun _ _ _ h => h) (Or.inl ⟨by rfl, ?_⟩) hS ?_
      rotate_left
      · intro w hSw
        go_simp
        try with_reducible rfl
      try simp only [Act.put, List.setIfInBounds_toArray, List.set_cons_zero, List.set_cons_succ]
      refine wpAnyH_take (i := 11) (v := ?_) (by simp only [List.getElem?_toArray, List.getElem?_cons_succ, List.getElem?_cons_zero]; rfl) (by kernel_rfl) (by kernel_rfl) (by kernel_rfl) (by exact fun _ _ _ h => h) (Or.inl ⟨by rfl, ?_⟩) hS ?_
      rotate_left
      · intro w hSw
        go_simp
        try with_reducible rfl
      try simp only [Act.put, List.setIfInBounds_toArray, List.set_cons_zero, List.set_cons_succ]
      refine wpAnyH_take (i := 12) (v := ?_) (by simp only [List.getElem?_toArray, List.getElem?_cons_succ, List.getElem?_cons_zero]; rfl) (by kernel_rfl) (by kernel_rfl) (by kernel_rfl) (by exact fun _ _ _ h => h) (Or.inl ⟨by rfl, ?_⟩) hS ?_
      rotate_left
      · intro w hSw
        go_simp
        try with_reducible rfl
      try simp only [Act.put, List.setIfInBounds_toArray, List.set_cons_zero, List.set_cons_succ]
      refine wpAnyH_done (by kernel_rfl) ?_ _
      go_wp2_with fail
      go_ret
      exact ⟨by simp, B9.out⟩
  · go_simp
    have M13 := Lib.hid (M0.out.alloc (.cells #[.slice ab nb cb] 22))
    have A13 := Lib.hid (A0.out.alloc (.cells #[.slice ab nb cb] 22))
    have B13 := Lib.hid (B0.out.alloc B0.out.size (.cells #[.slice ab nb cb] 22))
    have Z13 : Hid (V0.heap.size ≤ (V0.alloc (.cells #[.slice ab nb cb] 22)).heap.size) := Lib.hid (by have := Z0.out; simp <;> omega)
    have N13 := Lib.hid (Mem.Blk.new V0 22 #[.slice ab nb cb])
    generalize V0.alloc (.cells #[.slice ab nb cb] 22) = u13 at M13  A13  B13  Z13  N13 ⊢
    refine hK.out _ _ (loadOf M13.out zM.out) (fun hS => ?_)
    clear hK K
    try simp only [Act.put, List.setIfInBounds_toArray, List.set_cons_zero, List.set_cons_succ]
    refine wpAnyH_ready (rs := [1]) (by kernel_rfl) (by simp) ?_
    refine AllReadyH.cons (by simp only [List.getElem?_toArray, List.getElem?_cons_succ, List.getElem?_cons_zero]; rfl) (fun K hK => ?_) AllReadyH.nil
    go_simp
    have M14 := Lib.hid (M13.out.alloc (.cells #[] 5))
    have A14 := Lib.hid (A13.out.alloc (.cells #[] 5))
    have B14 := Lib.hid (B13.out.alloc B13.out.size (.cells #[] 5))
    have Z14 : Hid (V0.heap.size ≤ (u13.alloc (.cells #[] 5)).heap.size) := Lib.hid (by have := Z13.out; simp <;> omega)
    have O14 : Hid (ShT.Own (u13.alloc (.cells #[] 5)) u13.heap.size (.slice (some ⟨u13.heap.size, 0, none⟩) 0 0) []) := Lib.hid (ShT.Own.made u13 u13.heap.size (Nat.le_refl _) #[] 0 [] rfl (Nat.zero_le _) rfl)
    have X14 : Hid (u13.heap.size ≤ (u13.alloc (.cells #[] 5)).heap.size) := Lib.hid (by simp)
    have N14 := Lib.hid (N13.out.alloc (.cells #[] 5))
    have E14 : Hid (((.slice (some ⟨u13.heap.size, 0, none⟩) 0 0) : Value).ownBlock ≠ some V0.heap.size) := Lib.hid (by intro e; injection e with e; have e' : u13.heap.size = V0.heap.size := e; have := N13.out.lt; omega)
    generalize u13.alloc (.cells #[] 5) = u14 at M14  A14  B14  Z14  O14  X14  N14 ⊢
    refine hK.out _ _ (loadOf M14.out zM.out) (fun hS => ?_)
    clear hK K
    try simp only [Act.put, List.setIfInBounds_toArray, List.set_cons_zero, List.set_cons_succ]
    refine wpAnyH_ready (rs := [3]) (by kernel_rfl) (by simp) ?_
    refine AllReadyH.cons (by simp only [List.getElem?_toArray, List.getElem?_cons_succ, List.getElem?_cons_zero]; rfl) (fun K hK => ?_) AllReadyH.nil
    obtain ⟨ka15, kc15, ke15, kr15, _⟩ := HK1.out u14 B14.out
    injection ke15 with ke1 ke2 ke3
    subst ke1 ke3
    clear ke2
    refine stepApp rfl (.tmp 47) (.tmp 48) rfl u13.heap.size (.slice (some ⟨u13.heap.size, 0, none⟩) 0 0) [] rfl O14.out a key n c rfl HN.out kr15 n HN.out hn1m.out X14.out ?_
    intro a15 c15 u15 ho15 hg15 ne15
    have O15 : Hid (ShT.Own u15 u13.heap.size (.slice a15 n c15) key) := Lib.hid ho15
    have hbl15 : ∀ k, ((.slice (some ⟨u13.heap.size, 0, none⟩) 0 0) : Value).ownBlock = some k → V0.heap.size ≤ k := fun k e => Nat.le_trans Z13.out (ShT.Own.blocks O14.out k e).1
    have M15 := Lib.hid (blkOwn M14.out hg15 (fun e => by have := hbl15 _ e; have := HS0.out.1; omega))
    have A15 := Lib.hid (blkOwn A14.out hg15 (fun e => by have := hbl15 _ e; have := HS0.out.2; omega))
    have B15 := Lib.hid (B14.out.grown hg15 B14.out.size (fun k e => by have := hbl15 k e; have := HS0.out.2; omega))
    have Z15 := Lib.hid (Nat.le_trans Z14.out hg15.size)
    have X15 := Lib.hid (Nat.le_trans X14.out hg15.size)
    have N15 := Lib.hid (blkOwn N14.out hg15 E14.out)
    have E15 : Hid (((.slice a15 n c15) : Value).ownBlock ≠ some V0.heap.size) := Lib.hid (by
      rcases ne15 with e | e
      · rw [e]; exact E14.out
      · rw [e]; intro e2; injection e2 with e2; have e3 : u14.heap.size = V0.heap.size := e2; have := N14.out.lt; omega)
    clear ho15 hg15 hbl15 ne15
    refine hK.out _ _ (loadOf M15.out zM.out) (fun hS => ?_)
    clear hK K
    try simp only [Act.put, List.setIfInBounds_toArray, List.set_cons_zero, List.set_cons_succ]
    refine wpAnyH_ready (rs := [5]) (by kernel_rfl) (by simp) ?_
    refine AllReadyH.cons (by simp only [List.getElem?_toArray, List.getElem?_cons_succ, List.getElem?_cons_zero]; rfl) (fun K hK => ?_) AllReadyH.nil
    refine stepZeros rfl (.tmp 49) (.tmp 50) rfl u13.heap.size (.slice a15 n c15) key rfl O15.out q 0 hqz.out rfl (n + q) hqn.out hnqm.out X15.out ?_
    intro a16 c16 u16 ho16 hg16
    have O16 : Hid (ShT.Own u16 u13.heap.size (.slice a16 (n + q) c16) (key ++ List.replicate q 0#8)) := Lib.hid ho16
    have hbl16 : ∀ k, ((.slice a15 n c15) : Value).ownBlock = some k → V0.heap.size ≤ k := fun k e => Nat.le_trans Z13.out (ShT.Own.blocks O15.out k e).1
    have M16 := Lib.hid (blkOwn M15.out hg16 (fun e => by have := hbl16 _ e; have := HS0.out.1; omega))
    have A16 := Lib.hid (blkOwn A15.out hg16 (fun e => by have := hbl16 _ e; have := HS0.out.2; omega))
    have B16 := Lib.hid (B15.out.grown hg16 B15.out.size (fun k e => by have := hbl16 k e; have := HS0.out.2; omega))
    have Z16 := Lib.hid (Nat.le_trans Z15.out hg16.size)
    have X16 := Lib.hid (Nat.le_trans X15.out hg16.size)
    have N16 := Lib.hid (blkOwn N15.out hg16 E15.out)
    clear ho16 hg16 hbl16
    refine hK.out _ _ (loadOf M16.out zM.out) (fun hS => ?_)
    clear hK K
    try simp only [Act.put, List.setIfInBounds_toArray, List.set_cons_zero, List.set_cons_succ]
    refine wpAnyH_ready (rs := [8]) (by kernel_rfl) (by simp) ?_
    refine AllReadyH.cons (by simp only [List.getElem?_toArray, List.getElem?_cons_succ, List.getElem?_cons_zero]; rfl) (fun K hK => ?_) AllReadyH.nil
    go_simp
    go_at_call 11
    refine (HMC.out (key ++ List.replicate q 0#8) _ (n + q) _ u16 V0.heap.size B16.out hqn.out hmz.out (One.own O16.out) N16.out).mono ?_
    rintro e v17 ⟨rfl, b8⟩
    have M17 := Lib.hid (M16.out.below b8 M16.out.lt)
    have A17 := Lib.hid (A16.out.below b8 A16.out.lt)
    have B17 := Lib.hid (B16.out.trans (b8.mono B16.out.size))
    clear b8
    refine hK.out _ _ (loadOf M17.out zM.out) (fun hS => ?_)
    clear hK K
    try simp only [Act.put, List.setIfInBounds_toArray, List.set_cons_zero, List.set_cons_succ]
    refine wpAnyH_take (i := 9) (v := .bool false) (by simp only [List.getElem?_toArray, List.getElem?_cons_succ, List.getElem?_cons_zero]; rfl) (by kernel_rfl) (by kernel_rfl) (by kernel_rfl) (by exact fun _ _ _ h => h) (Or.inl ⟨by rfl, ?_⟩) hS ?_
    · intro wz hSw
      exact exec_neq (.tmp 46) (.tmp 54) rfl MV MV rfl rfl _ wz (HNM.out wz)
    try simp only [Act.put, List.setIfInBounds_toArray, List.set_cons_zero, List.set_cons_succ]
    refine wpAnyH_done (by kernel_rfl) ?_ _
    go_wp2_with fail
    have M7 := Lib.hid M17.out.drew
    have A7 := Lib.hid A17.out.drew
    have B7 := Lib.hid B17.out.drew
    refine wp_region_held_drew (S := fun w' => (loadVar 28 ⟨w2.heap.size, 0, none⟩).run Tryd.prog w' = .ok (.agg MV) w' ∧ (loadVar 28 ⟨w.heap.size, 0, none⟩).run Tryd.prog w' = .ok (.agg AV) w') (by kernel_rfl) ⟨loadOf M7.out zM.out, loadOf A7.out zA.out⟩ (fun hS => ?_)
    try simp only [List.size_toArray, List.length_cons, List.length_nil, Nat.reduceAdd]
    refine wpAnyH_take (i := 0) (v := .agg MV) (by simp only [List.getElem?_toArray, List.getElem?_cons_zero]; rfl) (by kernel_rfl) (by kernel_rfl) (by kernel_rfl) (by exact fun _ _ _ h => h) (Or.inl ⟨by rfl, ?_⟩) hS ?_
    · intro wz hSw
      exact exec_load 28 (.tmp 9) rfl ⟨w2.heap.size, 0, none⟩ rfl _ wz hSw.1
    try simp only [Act.put, List.setIfInBounds_toArray, List.set_cons_zero, List.set_cons_succ]
    refine wpAnyH_take (i := 1) (v := .agg MV) (by simp only [List.getElem?_toArray, List.getElem?_cons_succ, List.getElem?_cons_zero]; rfl) (by kernel_rfl) (by kernel_rfl) (by kernel_rfl) (by exact fun _ _ _ h => h) (Or.inl ⟨by rfl, ?_⟩) hS ?_
    · intro wz hSw
      exact exec_load 28 (.tmp 9) rfl ⟨w2.heap.size, 0, none⟩ rfl _ wz hSw.1
    try simp only [Act.put, List.setIfInBounds_toArray, List.set_cons_zero, List.set_cons_succ]
    refine wpAnyH_ready (rs := [2]) (by kernel_rfl) (by simp) ?_
    refine AllReadyH.cons (by simp only [List.getElem?_toArray, List.getElem?_cons_succ, List.getElem?_cons_zero]; rfl) (fun K hK => ?_) AllReadyH.nil
    go_simp
    go_at_call 18
    refine (HEQ.out _).mono ?_
    rintro e wq ⟨rfl, bq⟩
    have M8 := Lib.hid (M7.out.below bq M7.out.lt)
    have A8 := Lib.hid (A7.out.below bq A7.out.lt)
    have B8 := Lib.hid (B7.out.trans (bq.mono B7.out.size))
    clear bq
    refine hK.out _ _ ⟨loadOf M8.out zM.out, loadOf A8.out zA.out⟩ (fun hS => ?_)
    clear hK K
    try simp only [Act.put, List.setIfInBounds_toArray, List.set_cons_zero, List.set_cons_succ]
    refine wpAnyH_take (i := 3) (v := ?_) (by simp only [List.getElem?_toArray, List.getElem?_cons_succ, List.getElem?_cons_zero]; rfl) (by kernel_rfl) (by kernel_rfl) (by kernel_rfl) (by exact fun _ _ _ h => h) (Or.inl ⟨by rfl, ?_⟩) hS ?_
    rotate_left
    · intro w hSw
      go_simp
      try with_reducible rfl
    try simp only [Act.put, List.setIfInBounds_toArray, List.set_cons_zero, List.set_cons_succ]
    refine wpAnyH_take (i := 4) (v := .agg MV) (by simp only [List.getElem?_toArray, List.getElem?_cons_succ, List.getElem?_cons_zero]; rfl) (by kernel_rfl) (by kernel_rfl) (by kernel_rfl) (by exact fun _ _ _ h => h) (Or.inl ⟨by rfl, ?_⟩) hS ?_
    · intro wz hSw
      exact exec_load 28 (.tmp 9) rfl ⟨w2.heap.size, 0, none⟩ rfl _ wz hSw.1
    try simp only [Act.put, List.setIfInBounds_toArray, List.set_cons_zero, List.set_cons_succ]
    refine wpAnyH_take (i := 5) (v := .agg AV) (by simp only [List.getElem?_toArray, List.getElem?_cons_succ, List.getElem?_cons_zero]; rfl) (by kernel_rfl) (by kernel_rfl) (by kernel_rfl) (by exact fun _ _ _ h => h) (Or.inl ⟨by rfl, ?_⟩) hS ?_
    · intro wz hSw
      exact exec_load 28 (.tmp 7) rfl ⟨w.heap.size, 0, none⟩ rfl _ wz hSw.2
    try simp only [Act.put, List.setIfInBounds_toArray, List.set_cons_zero, List.set_cons_succ]
    refine wpAnyH_take (i := 7) (v := .agg MV) (by simp only [List.getElem?_toArray, List.getElem?_cons_succ, List.getElem?_cons_zero]; rfl) (by kernel_rfl) (by kernel_rfl) (by kernel_rfl) (by exact fun _ _ _ h => h) (Or.inl ⟨by rfl, ?_⟩) hS ?_
    · intro wz hSw
      exact exec_load 28 (.tmp 9) rfl ⟨w2.heap.size, 0, none⟩ rfl _ wz hSw.1
    try simp only [Act.put, List.setIfInBounds_toArray, List.set_cons_zero, List.set_cons_succ]
    refine wpAnyH_take (i := 8) (v := .agg AV) (by simp only [List.getElem?_toArray, List.getElem?_cons_succ, List.getElem?_cons_zero]; rfl) (by kernel_rfl) (by kernel_rfl) (by kernel_rfl) (by exact fun _ _ _ h => h) (Or.inl ⟨by rfl, ?_⟩) hS ?_
    · intro wz hSw
      exact exec_load 28 (.tmp 7) rfl ⟨w.heap.size, 0, none⟩ rfl _ wz hSw.2
    try simp only [Act.put, List.setIfInBounds_toArray, List.set_cons_zero, List.set_cons_succ]
    refine wpAnyH_take (i := 9) (v := .bool r) (by simp only [List.getElem?_toArray, List.getElem?_cons_succ, List.getElem?_cons_zero]; rfl) (by kernel_rfl) (by kernel_rfl) (by kernel_rfl) (by exact fun _ _ _ h => h) (Or.inl ⟨by rfl, ?_⟩) hS ?_
    · intro wz hSw
      exact exec_eql (.tmp 63) (.tmp 64) rfl MV AV rfl rfl _ wz (HEB.out wz)
    try simp only [Act.put, List.setIfInBounds_toArray, List.set_cons_zero, List.set_cons_succ]
    refine wpAnyH_ready (rs := [6]) (by kernel_rfl) (by simp) ?_
    refine AllReadyH.cons (by simp only [List.getElem?_toArray, List.getElem?_cons_succ, List.getElem?_cons_zero]; rfl) (fun K hK => ?_) AllReadyH.nil
    go_simp
    go_at_call 18
    refine (HEA.out _).mono ?_
    rintro e wq2 ⟨rfl, bq⟩
    have M9 := Lib.hid (M8.out.below bq M8.out.lt)
    have A9 := Lib.hid (A8.out.below bq A8.out.lt)
    have B9 := Lib.hid (B8.out.trans (bq.mono B8.out.size))
    clear bq
    refine hK.out _ _ ⟨loadOf M9.out zM.out, loadOf A9.out zA.out⟩ (fun hS => ?_)
    clear hK K
    try simp only [Act.put, List.setIfInBounds_toArray, List.set_cons_zero, List.set_cons_succ]
    refine wpAnyH_take (i := 10) (v := ?_) (by simp only [List.getElem?_toArray, List.getElem?_cons_succ, List.getElem?_cons_zero]; rfl) (by kernel_rfl) (by kernel_rfl) (by kernel_rfl) (by exact fun _ _ _ h => h) (Or.inl ⟨by rfl, ?_⟩) hS ?_
    rotate_left
    · intro w hSw
      go_simp
      try with_reducible rfl
    try simp only [Act.put, List.setIfInBounds_toArray, List.set_cons_zero, List.set_cons_succ]
    refine wpAnyH_take (i := 11) (v := ?_) (by simp only [List.getElem?_toArray, List.getElem?_cons_succ, List.getElem?_cons_zero]; rfl) (by kernel_rfl) (by kernel_rfl) (by kernel_rfl) (by exact fun _ _ _ h => h) (Or.inl ⟨by rfl, ?_⟩) hS ?_
    rotate_left
    · intro w hSw
      go_simp
      try with_reducible rfl
    try simp only [Act.put, List.setIfInBounds_toArray, List.set_cons_zero, List.set_cons_succ]
    refine wpAnyH_take (i := 12) (v := ?_) (by simp only [List.getElem?_toArray, List.getElem?_cons_succ, List.getElem?_cons_zero]; rfl) (by kernel_rfl) (by kernel_rfl) (by kernel_rfl) (by exact fun _ _ _ h => h) (Or.inl ⟨by rfl, ?_⟩) hS ?_
    rotate_left
    · intro w hSw
      go_simp
      try with_reducible rfl
    try simp only [Act.put, List.setIfInBounds_toArray, List.set_cons_zero, List.set_cons_succ]
    refine wpAnyH_done (by kernel_rfl) ?_ _
    go_wp2_with fail
    go_ret
    exact ⟨by simp, B9.out⟩

end Go.Proofs.YtlfohiejlajmaaaDoor.ShV1
