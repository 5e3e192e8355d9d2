/- The law of keys. -/
import Derived.Test.YtlfohiejlajmaaaDoorShU
namespace Go.Proofs.YtlfohiejlajmaaaDoor.ShV3
open Go.ChangeShapes Go.WideShapes Go.ChangeAt Go.RowKit
open ShM ShA ShB ShC ShD ShE ShF ShG ShH ShI ShJ ShK ShL ShN ShO ShP ShQ ShR ShS ShU Mem
open ShT (Rd vals vals_length vals_one)
set_option linter.unusedVariables false
set_option maxHeartbeats 4000000


set_option maxRecDepth 100000 in
theorem short3 (key bl x : List ShM.B8) (a ab : Option Addr) (n c nb cb : Nat) (z : Int) (w : World) (hl : Laid w) (hn : key.length = n) (hk : ShN.One w (.slice a n c) key) (hnb : bl.length = nb) (hb : ShN.One w (.slice ab nb cb) bl) (h1 : n ≤ 4096) (h2 : nb ≤ 4096) (hlong : n ≤ 64 ∧ ¬ z < 0 ∧ ¬ 64 - (n : Int) < z) :
    Calls Tryd.prog 5 #[.slice a n c, .slice ab nb cb, .int .i64 z, .agg (b32 x)] w fun e w' => e = .returned (.bool true) ∧ Below w.heap.size w w' := by
  have hw2 := Laid.two hl
  obtain ⟨AV, hAV⟩ : ∃ AV, AV = b32 x := ⟨_, rfl⟩
  obtain ⟨Z, hZ⟩ : ∃ Z, Z = z28 := ⟨_, rfl⟩
  obtain ⟨MV, hMV⟩ : ∃ MV, MV = b32 (mac key bl) := ⟨_, rfl⟩
  rw [← hAV]
  have D1 : Hid (Below w.heap.size w (w.alloc (.cells AV 28))) := Lib.hid ((Below.refl _ _).alloc (Nat.le_refl _) _)
  have A1 : Hid (Mem.Blk (w.alloc (.cells AV 28)) w.heap.size 28 AV) := Lib.hid (Mem.Blk.new w 28 AV)
  have HK := Lib.hid (knownW (w.alloc (.cells AV 28)) (hl.below D1.out))
  have HMC : Hid (∀ (k' : List ShM.B8) ak nk ck w' g, Below w.heap.size w w' → k'.length = nk → mac k' bl = mac key bl → ShN.One w' (.slice ak nk ck) k' → Mem.Blk w' g 22 #[.slice ab nb cb] → Calls Tryd.prog 11 #[.slice ak nk ck, .slice (some ⟨g, 0, none⟩) 1 1] w' fun e w'' => e = .returned (.agg MV) ∧ Below w'.heap.size w' w'') := Lib.hid fun k' ak nk ck w' g hb' hnk he hk' hB => by
    have := macW k' ak nk ck [bl] (some ⟨g, 0, none⟩) 1 1 w' (hl.below hb') hnk hk' rfl (Arg.one hB (hb.below hb')) (by omega)
    rwa [show [bl].flatten = bl by simp, he, ← hMV] at this
  have HK1 : Hid (∀ w', Below w.heap.size w w' → ShN.One w' (.slice a n c) key) := Lib.hid fun w' hb => hk.below hb
  have HEQ : Hid (∀ w : World, Calls Tryd.prog 18 #[.agg MV, .agg MV] w fun e w' => e = .returned (.bool true) ∧ Below w.heap.size w w') := Lib.hid fun w => by
    rw [hMV]
    refine (equalW (mac key bl) (mac key bl) w).mono ?_
    rintro e w' ⟨rfl, hb⟩
    exact ⟨by simp, hb⟩
  obtain ⟨r, hr⟩ : ∃ r, r = decide (∀ i ∈ List.range 32, (mac key bl).getD i 0 = x.getD i 0) := ⟨_, rfl⟩
  have HEA : Hid (∀ w : World, Calls Tryd.prog 18 #[.agg MV, .agg AV] w fun e w' => e = .returned (.bool r) ∧ Below w.heap.size w w') := Lib.hid fun w => by
    rw [hMV, hAV, hr]
    exact equalW (mac key bl) x w
  have HEB : Hid (∀ w : World, (binOp .eql 28 (.agg MV) (.agg AV)).run Tryd.prog w = .ok (.bool r) w) := Lib.hid fun w => by rw [hMV, hAV, hr]; exact eql28 _ _ w
  have HNM : Hid (∀ w : World, (binOp .neq 28 (.agg MV) (.agg MV)).run Tryd.prog w = .ok (.bool false) w) := Lib.hid fun w => by rw [hMV]; exact neq_same _ w
  have iM : Hid ((Tryd.prog.info? 28).map (·.size) = some MV.size) := Lib.hid (by rw [hMV, b32_size]; exact i28')
  have oM : Hid (MV.all (·.oneCell') = true) := Lib.hid (by rw [hMV]; exact b32_one _)
  have sM : Hid (Z.size = MV.size) := Lib.hid (by rw [hZ, hMV, z28_size, b32_size])
  have zM : Hid (MV.size = 32) := Lib.hid (by rw [hMV, b32_size])
  have zA : Hid (AV.size = 32) := Lib.hid (by rw [hAV, b32_size])
  have HN := Lib.hid hn
  obtain ⟨q, hq⟩ : ∃ q : Nat, q = z.toNat := ⟨_, rfl⟩
  have hqz : Hid ((z : Int) = (q : Int)) := Lib.hid (by omega)
  have hqn : Hid ((key ++ List.replicate q 0#8).length = n + q) := Lib.hid (by simp <;> omega)
  have hmz : Hid (mac (key ++ List.replicate q 0#8) bl = mac key bl) := Lib.hid (mac_zeros key bl q (by omega))
  have hn1m : Hid (n ≤ 1000000) := Lib.hid (by omega)
  have hnqm : Hid (n + q ≤ 1000000) := Lib.hid (by omega)
  have hl64 : ¬ (64 : Int) < (n : Int) := by omega
  have hz1 : ¬ z < 0 := hlong.2.1
  have hz2 : ¬ 64 - (n : Int) < z := hlong.2.2
  replace hq := Lib.hid hq
  have hn1 : ¬ (4096 : Int) < (n : Int) := by omega
  have hn2 : ¬ (4096 : Int) < (nb : Int) := by omega
  replace hMV := Lib.hid hMV
  replace hAV := Lib.hid hAV
  replace hZ := Lib.hid hZ
  replace hr := Lib.hid hr
  clear hl hk hb hn hnb h1 h2
  go_enter Tryd.func5, Tryd.ntmps5
  go_wp2_with fail
  refine HK.out.mono ?_
  rintro e w1 ⟨rfl, b1⟩
  have B1 := Lib.hid (D1.out.trans (b1.mono D1.out.size))
  have A2 := Lib.hid (A1.out.below b1 A1.out.lt)
  clear b1
  go_wp2_with fail
  have B2 := Lib.hid (B1.out.alloc B1.out.size (.cells #[.slice ab nb cb] 22))
  have A3 := Lib.hid (A2.out.alloc (.cells #[.slice ab nb cb] 22))
  refine (HMC.out key a n c _ w1.heap.size B2.out HN.out rfl (HK1.out _ B2.out) (Mem.Blk.new w1 22 _)).mono ?_
  rintro e w2 ⟨rfl, b2⟩
  have B3 := Lib.hid (B2.out.trans (b2.mono B2.out.size))
  have A4 := Lib.hid (A3.out.below b2 A3.out.lt)
  clear b2 B2 A3 A2 B1
  go_wp2_with (first
    | ((with_reducible show wpList _ _ _ (Oper.mk (some 9) (Op.alloc 28) _ _ _ _ :: _) _ _); refine ShL.alloc28 rfl rfl Z hZ.out ?_; intro w3 hB3 hb3 hn3; clear hn3)
    | ((with_reducible show wpList _ _ _ (Oper.mk _ (Op.store 28 (.tmp 9) (.tmp 24)) _ _ _ _ :: _) _ _); refine Mem.storeBlk 28 (.tmp 9) (.tmp 24) rfl w2.heap.size rfl Z MV rfl 28 hB3 iM.out sM.out oM.out w2.heap.size w2 hb3 (Nat.le_refl _) rfl ?_; intro w4 hB4 hb4
       have B4 := Lib.hid (B3.out.trans (hb4.mono B3.out.size))
       have A5 := Lib.hid (A4.out.below hb4 A4.out.lt)
       have M4 := Lib.hid hB4
       clear hB3 hb3 hB4 hb4))
  have HS0 : Hid (w2.heap.size < w4.drew.heap.size ∧ w.heap.size < w4.drew.heap.size) := Lib.hid ⟨M4.out.lt, A5.out.lt⟩
  have M0 := Lib.hid M4.out.drew
  have A0 := Lib.hid A5.out.drew
  have B0 := Lib.hid B4.out.drew
  generalize hV0 : w4.drew = V0 at HS0 M0 A0 B0
  have Z0 := Lib.hid (Nat.le_refl V0.heap.size)
  refine wp_region_held_drew (S := fun w' => (loadVar 28 ⟨w2.heap.size, 0, none⟩).run Tryd.prog w' = .ok (.agg MV) w') (by kernel_rfl) (by rw [hV0]; exact loadOf M0.out zM.out) (fun hS => ?_)
  rw [hV0] at hS ⊢
  clear hV0
  try simp only [List.size_toArray, List.length_cons, List.length_nil, Nat.reduceAdd]
  refine wpAnyH_take (i := 0) (v := .agg MV) (by simp only [List.getElem?_toArray, List.getElem?_cons_zero]; rfl) (by kernel_rfl) (by kernel_rfl) (by kernel_rfl) (by exact fun _ _ _ h => h) (Or.inl ⟨by rfl, ?_⟩) hS ?_
  · intro wz hSw
    exact exec_load 28 (.tmp 9) rfl ⟨w2.heap.size, 0, none⟩ rfl _ wz hSw
  try simp only [Act.put, List.setIfInBounds_toArray, List.set_cons_zero, List.set_cons_succ]
  refine wpAnyH_take (i := 2) (v := ?_) (by simp only [List.getElem?_toArray, List.getElem?_cons_succ, List.getElem?_cons_zero]; rfl) (by kernel_rfl) (by kernel_rfl) (by kernel_rfl) (by exact fun _ _ _ h => h) (Or.inl ⟨by rfl, ?_⟩) hS ?_
  rotate_left
  · intro w hSw
    go_simp
    try with_reducible rfl
  try simp only [Act.put, List.setIfInBounds_toArray, List.set_cons_zero, List.set_cons_succ]
  refine wpAnyH_take (i := 4) (v := ?_) (by simp only [List.getElem?_toArray, List.getElem?_cons_succ, List.getElem?_cons_zero]; rfl) (by kernel_rfl) (by kernel_rfl) (by kernel_rfl) (by exact fun _ _ _ h => h) (Or.inl ⟨by rfl, ?_⟩) hS ?_
  rotate_left
  · intro w hSw
    go_simp
    try with_reducible rfl
  try simp only [Act.put, List.setIfInBounds_toArray, List.set_cons_zero, List.set_cons_succ]
  refine wpAnyH_take (i := 6) (v := ?_) (by simp only [List.getElem?_toArray, List.getElem?_cons_succ, List.getElem?_cons_zero]; rfl) (by kernel_rfl) (by kernel_rfl) (by kernel_rfl) (by exact fun _ _ _ h => h) (Or.inl ⟨by rfl, ?_⟩) hS ?_
  rotate_left
  · intro w hSw
    go_simp
    try with_reducible rfl
  try simp only [Act.put, List.setIfInBounds_toArray, List.set_cons_zero, List.set_cons_succ]
  refine wpAnyH_ready (rs := [1, 7]) (by kernel_rfl) (by simp) ?_
  refine AllReadyH.cons (by simp only [List.getElem?_toArray, List.getElem?_cons_succ, List.getElem?_cons_zero]; rfl) (fun K hK => ?_) (AllReadyH.cons (by simp only [List.getElem?_toArray, List.getElem?_cons_succ, List.getElem?_cons_zero]; rfl) (fun K hK => ?_) AllReadyH.nil)
  · go_simp
    have M35 := Lib.hid (M0.out.alloc (.cells #[] 5))
    have A35 := Lib.hid (A0.out.alloc (.cells #[] 5))
    have B35 := Lib.hid (B0.out.alloc B0.out.size (.cells #[] 5))
    have Z35 : Hid (V0.heap.size ≤ (V0.alloc (.cells #[] 5)).heap.size) := Lib.hid (by have := Z0.out; simp <;> omega)
    have O35 : Hid (ShT.Own (V0.alloc (.cells #[] 5)) V0.heap.size (.slice (some ⟨V0.heap.size, 0, none⟩) 0 0) []) := Lib.hid (ShT.Own.made V0 V0.heap.size (Nat.le_refl _) #[] 0 [] rfl (Nat.zero_le _) rfl)
    have X35 : Hid (V0.heap.size ≤ (V0.alloc (.cells #[] 5)).heap.size) := Lib.hid (by simp)
    generalize V0.alloc (.cells #[] 5) = u35 at M35  A35  B35  Z35  O35  X35 ⊢
    refine hK.out _ _ (loadOf M35.out zM.out) (fun hS => ?_)
    clear hK K
    try simp only [Act.put, List.setIfInBounds_toArray, List.set_cons_zero, List.set_cons_succ]
    refine wpAnyH_ready (rs := [3, 7]) (by kernel_rfl) (by simp) ?_
    refine AllReadyH.cons (by simp only [List.getElem?_toArray, List.getElem?_cons_succ, List.getElem?_cons_zero]; rfl) (fun K hK => ?_) (AllReadyH.cons (by simp only [List.getElem?_toArray, List.getElem?_cons_succ, List.getElem?_cons_zero]; rfl) (fun K hK => ?_) AllReadyH.nil)
    · obtain ⟨ka36, kc36, ke36, kr36, _⟩ := HK1.out u35 B35.out
      injection ke36 with ke1 ke2 ke3
      subst ke1 ke3
      clear ke2
      refine stepApp rfl (.tmp 47) (.tmp 48) rfl V0.heap.size (.slice (some ⟨V0.heap.size, 0, none⟩) 0 0) [] rfl O35.out a key n c rfl HN.out kr36 n HN.out hn1m.out X35.out ?_
      intro a36 c36 u36 ho36 hg36 ne36
      have O36 : Hid (ShT.Own u36 V0.heap.size (.slice a36 n c36) key) := Lib.hid ho36
      have hbl36 : ∀ k, ((.slice (some ⟨V0.heap.size, 0, none⟩) 0 0) : Value).ownBlock = some k → V0.heap.size ≤ k := fun k e => Nat.le_trans Z0.out (ShT.Own.blocks O35.out k e).1
      have M36 := Lib.hid (blkOwn M35.out hg36 (fun e => by have := hbl36 _ e; have := HS0.out.1; omega))
      have A36 := Lib.hid (blkOwn A35.out hg36 (fun e => by have := hbl36 _ e; have := HS0.out.2; omega))
      have B36 := Lib.hid (B35.out.grown hg36 B35.out.size (fun k e => by have := hbl36 k e; have := HS0.out.2; omega))
      have Z36 := Lib.hid (Nat.le_trans Z35.out hg36.size)
      have X36 := Lib.hid (Nat.le_trans X35.out hg36.size)
      clear ho36 hg36 hbl36 ne36
      refine hK.out _ _ (loadOf M36.out zM.out) (fun hS => ?_)
      clear hK K
      try simp only [Act.put, List.setIfInBounds_toArray, List.set_cons_zero, List.set_cons_succ]
      refine wpAnyH_ready (rs := [5, 7]) (by kernel_rfl) (by simp) ?_
      refine AllReadyH.cons (by simp only [List.getElem?_toArray, List.getElem?_cons_succ, List.getElem?_cons_zero]; rfl) (fun K hK => ?_) (AllReadyH.cons (by simp only [List.getElem?_toArray, List.getElem?_cons_succ, List.getElem?_cons_zero]; rfl) (fun K hK => ?_) AllReadyH.nil)
      · refine stepZeros rfl (.tmp 49) (.tmp 50) rfl V0.heap.size (.slice a36 n c36) key rfl O36.out q z hqz.out rfl (n + q) hqn.out hnqm.out X36.out ?_
        intro a37 c37 u37 ho37 hg37
        have O37 : Hid (ShT.Own u37 V0.heap.size (.slice a37 (n + q) c37) (key ++ List.replicate q 0#8)) := Lib.hid ho37
        have hbl37 : ∀ k, ((.slice a36 n c36) : Value).ownBlock = some k → V0.heap.size ≤ k := fun k e => Nat.le_trans Z0.out (ShT.Own.blocks O36.out k e).1
        have M37 := Lib.hid (blkOwn M36.out hg37 (fun e => by have := hbl37 _ e; have := HS0.out.1; omega))
        have A37 := Lib.hid (blkOwn A36.out hg37 (fun e => by have := hbl37 _ e; have := HS0.out.2; omega))
        have B37 := Lib.hid (B36.out.grown hg37 B36.out.size (fun k e => by have := hbl37 k e; have := HS0.out.2; omega))
        have Z37 := Lib.hid (Nat.le_trans Z36.out hg37.size)
        have X37 := Lib.hid (Nat.le_trans X36.out hg37.size)
        clear ho37 hg37 hbl37
        refine hK.out _ _ (loadOf M37.out zM.out) (fun hS => ?_)
        clear hK K
        try simp only [Act.put, List.setIfInBounds_toArray, List.set_cons_zero, List.set_cons_succ]
        refine wpAnyH_ready (rs := [7]) (by kernel_rfl) (by simp) ?_
        refine AllReadyH.cons (by simp only [List.getElem?_toArray, List.getElem?_cons_succ, List.getElem?_cons_zero]; rfl) (fun K hK => ?_) AllReadyH.nil
        go_simp
        have M38 := Lib.hid (M37.out.alloc (.cells #[.slice ab nb cb] 22))
        have A38 := Lib.hid (A37.out.alloc (.cells #[.slice ab nb cb] 22))
        have B38 := Lib.hid (B37.out.alloc B37.out.size (.cells #[.slice ab nb cb] 22))
        have Z38 : Hid (V0.heap.size ≤ (u37.alloc (.cells #[.slice ab nb cb] 22)).heap.size) := Lib.hid (by have := Z37.out; simp <;> omega)
        have N38 := Lib.hid (Mem.Blk.new u37 22 #[.slice ab nb cb])
        have O38 := Lib.hid (ShT.Own.alloc O37.out (.cells #[.slice ab nb cb] 22))
        have X38 : Hid (V0.heap.size ≤ (u37.alloc (.cells #[.slice ab nb cb] 22)).heap.size) := Lib.hid (by have := X37.out; simp <;> omega)
        have E38 : Hid (((.slice a37 (n + q) c37) : Value).ownBlock ≠ some u37.heap.size) := Lib.hid (by intro e; have := (ShT.Own.blocks O37.out _ e).2; omega)
        generalize u37.alloc (.cells #[.slice ab nb cb] 22) = u38 at M38  A38  B38  Z38  N38  O38  X38 ⊢
        refine hK.out _ _ (loadOf M38.out zM.out) (fun hS => ?_)
        clear hK K
        try simp only [Act.put, List.setIfInBounds_toArray, List.set_cons_zero, List.set_cons_succ]
        refine wpAnyH_ready (rs := [8]) (by kernel_rfl) (by simp) ?_
        refine AllReadyH.cons (by simp only [List.getElem?_toArray, List.getElem?_cons_succ, List.getElem?_cons_zero]; rfl) (fun K hK => ?_) AllReadyH.nil
        go_simp
        go_at_call 11
        refine (HMC.out (key ++ List.replicate q 0#8) _ (n + q) _ u38 u37.heap.size B38.out hqn.out hmz.out (One.own O38.out) N38.out).mono ?_
        rintro e v39 ⟨rfl, b8⟩
        have M39 := Lib.hid (M38.out.below b8 M38.out.lt)
        have A39 := Lib.hid (A38.out.below b8 A38.out.lt)
        have B39 := Lib.hid (B38.out.trans (b8.mono B38.out.size))
        clear b8
        refine hK.out _ _ (loadOf M39.out zM.out) (fun hS => ?_)
        clear hK K
        try simp only [Act.put, List.setIfInBounds_toArray, List.set_cons_zero, List.set_cons_succ]
        refine wpAnyH_take (i := 9) (v := .bool false) (by simp only [List.getElem?_toArray, List.getElem?_cons_succ, List.getElem?_cons_zero]; rfl) (by kernel_rfl) (by kernel_rfl) (by kernel_rfl) (by exact fun _ _ _ h => h) (Or.inl ⟨by rfl, ?_⟩) hS ?_
        · intro wz hSw
          exact exec_neq (.tmp 46) (.tmp 54) rfl MV MV rfl rfl _ wz (HNM.out wz)
        try simp only [Act.put, List.setIfInBounds_toArray, List.set_cons_zero, List.set_cons_succ]
        refine wpAnyH_done (by kernel_rfl) ?_ _
        go_wp2_with fail
        have M7 := Lib.hid M39.out.drew
        have A7 := Lib.hid A39.out.drew
        have B7 := Lib.hid B39.out.drew
        refine wp_region_held_drew (S := fun w' => (loadVar 28 ⟨w2.heap.size, 0, none⟩).run Tryd.prog w' = .ok (.agg MV) w' ∧ (loadVar 28 ⟨w.heap.size, 0, none⟩).run Tryd.prog w' = .ok (.agg AV) w') (by kernel_rfl) ⟨loadOf M7.out zM.out, loadOf A7.out zA.out⟩ (fun hS => ?_)
        try simp only [List.size_toArray, List.length_cons, List.length_nil, Nat.reduceAdd]
        refine wpAnyH_take (i := 0) (v := .agg MV) (by simp only [List.getElem?_toArray, List.getElem?_cons_zero]; rfl) (by kernel_rfl) (by kernel_rfl) (by kernel_rfl) (by exact fun _ _ _ h => h) (Or.inl ⟨by rfl, ?_⟩) hS ?_
        · intro wz hSw
          exact exec_load 28 (.tmp 9) rfl ⟨w2.heap.size, 0, none⟩ rfl _ wz hSw.1
        try simp only [Act.put, List.setIfInBounds_toArray, List.set_cons_zero, List.set_cons_succ]
        refine wpAnyH_take (i := 1) (v := .agg MV) (by simp only [List.getElem?_toArray, List.getElem?_cons_succ, List.getElem?_cons_zero]; rfl) (by kernel_rfl) (by kernel_rfl) (by kernel_rfl) (by exact fun _ _ _ h => h) (Or.inl ⟨by rfl, ?_⟩) hS ?_
        · intro wz hSw
          exact exec_load 28 (.tmp 9) rfl ⟨w2.heap.size, 0, none⟩ rfl _ wz hSw.1
        try simp only [Act.put, List.setIfInBounds_toArray, List.set_cons_zero, List.set_cons_succ]
        refine wpAnyH_ready (rs := [2]) (by kernel_rfl) (by simp) ?_
        refine AllReadyH.cons (by simp only [List.getElem?_toArray, List.getElem?_cons_succ, List.getElem?_cons_zero]; rfl) (fun K hK => ?_) AllReadyH.nil
        go_simp
        go_at_call 18
        refine (HEQ.out _).mono ?_
        rintro e wq ⟨rfl, bq⟩
        have M8 := Lib.hid (M7.out.below bq M7.out.lt)
        have A8 := Lib.hid (A7.out.below bq A7.out.lt)
        have B8 := Lib.hid (B7.out.trans (bq.mono B7.out.size))
        clear bq
        refine hK.out _ _ ⟨loadOf M8.out zM.out, loadOf A8.out zA.out⟩ (fun hS => ?_)
        clear hK K
        try simp only [Act.put, List.setIfInBounds_toArray, List.set_cons_zero, List.set_cons_succ]
        refine wpAnyH_take (i := 3) (v := ?_) (by simp only [List.getElem?_toArray, List.getElem?_cons_succ, List.getElem?_cons_zero]; rfl) (by kernel_rfl) (by kernel_rfl) (by kernel_rfl) (by exact fun _ _ _ h => h) (Or.inl ⟨by rfl, ?_⟩) hS ?_
        rotate_left
        · intro w hSw
          go_simp
          try with_reducible rfl
        try simp only [Act.put, List.setIfInBounds_toArray, List.set_cons_zero, List.set_cons_succ]
        refine wpAnyH_take (i := 4) (v := .agg MV) (by simp only [List.getElem?_toArray, List.getElem?_cons_succ, List.getElem?_cons_zero]; rfl) (by kernel_rfl) (by kernel_rfl) (by kernel_rfl) (by exact fun _ _ _ h => h) (Or.inl ⟨by rfl, ?_⟩) hS ?_
        · intro wz hSw
          exact exec_load 28 (.tmp 9) rfl ⟨w2.heap.size, 0, none⟩ rfl _ wz hSw.1
        try simp only [Act.put, List.setIfInBounds_toArray, List.set_cons_zero, List.set_cons_succ]
        refine wpAnyH_take (i := 5) (v := .agg AV) (by simp only [List.getElem?_toArray, List.getElem?_cons_succ, List.getElem?_cons_zero]; rfl) (by kernel_rfl) (by kernel_rfl) (by kernel_rfl) (by exact fun _ _ _ h => h) (Or.inl ⟨by rfl, ?_⟩) hS ?_
        · intro wz hSw
          exact exec_load 28 (.tmp 7) rfl ⟨w.heap.size, 0, none⟩ rfl _ wz hSw.2
        try simp only [Act.put, List.setIfInBounds_toArray, List.set_cons_zero, List.set_cons_succ]
        refine wpAnyH_take (i := 7) (v := .agg MV) (by simp only [List.getElem?_toArray, List.getElem?_cons_succ, List.getElem?_cons_zero]; rfl) (by kernel_rfl) (by kernel_rfl) (by kernel_rfl) (by exact fun _ _ _ h => h) (Or.inl ⟨by rfl, ?_⟩) hS ?_
        · intro wz hSw
          exact exec_load 28 (.tmp 9) rfl ⟨w2.heap.size, 0, none⟩ rfl _ wz hSw.1
        try simp only [Act.put, List.setIfInBounds_toArray, List.set_cons_zero, List.set_cons_succ]
        refine wpAnyH_take (i := 8) (v := .agg AV) (by simp only [List.getElem?_toArray, List.getElem?_cons_succ, List.getElem?_cons_zero]; rfl) (by kernel_rfl) (by kernel_rfl) (by kernel_rfl) (by exact fun _ _ _ h => h) (Or.inl ⟨by rfl, ?_⟩) hS ?_
        · intro wz hSw
          exact exec_load 28 (.tmp 7) rfl ⟨w.heap.size, 0, none⟩ rfl _ wz hSw.2
        try simp only [Act.put, List.setIfInBounds_toArray, List.set_cons_zero, List.set_cons_succ]
        refine wpAnyH_take (i := 9) (v := .bool r) (by simp only [List.getElem?_toArray, List.getElem?_cons_succ, List.getElem?_cons_zero]; rfl) (by kernel_rfl) (by kernel_rfl) (by kernel_rfl) (by exact fun _ _ _ h => h) (Or.inl ⟨by rfl, ?_⟩) hS ?_
        · intro wz hSw
          exact exec_eql (.tmp 63) (.tmp 64) rfl MV AV rfl rfl _ wz (HEB.out wz)
        try simp only [Act.put, List.setIfInBounds_toArray, List.set_cons_zero, List.set_cons_succ]
        refine wpAnyH_ready (rs := [6]) (by kernel_rfl) (by simp) ?_
        refine AllReadyH.cons (by simp only [List.getElem?_toArray, List.getElem?_cons_succ, List.getElem?_cons_zero]; rfl) (fun K hK => ?_) AllReadyH.nil
        go_simp
        go_at_call 18
        refine (HEA.out _).mono ?_
        rintro e wq2 ⟨rfl, bq⟩
        have M9 := Lib.hid (M8.out.below bq M8.out.lt)
        have A9 := Lib.hid (A8.out.below bq A8.out.lt)
        have B9 := Lib.hid (B8.out.trans (bq.mono B8.out.size))
        clear bq
        refine hK.out _ _ ⟨loadOf M9.out zM.out, loadOf A9.out zA.out⟩ (fun hS => ?_)
        clear hK K
        try simp only [Act.put, List.setIfInBounds_toArray, List.set_cons_zero, List.set_cons_succ]
        refine wpAnyH_take (i := 10) (v := ?_) (by simp only [List.getElem?_toArray, List.getElem?_cons_succ, List.getElem?_cons_zero]; rfl) (by kernel_rfl) (by kernel_rfl) (by kernel_rfl) (by exact fun _ _ _ h => h) (Or.inl ⟨by rfl, ?_⟩) hS ?_
        rotate_left
        · intro w hSw
          go_simp
          try with_reducible rfl
        try simp only [Act.put, List.setIfInBounds_toArray, List.set_cons_zero, List.set_cons_succ]
        refine wpAnyH_take (i := 11) (v := ?_) (by simp only [List.getElem?_toArray, List.getElem?_cons_succ, List.getElem?_cons_zero]; rfl) (by kernel_rfl) (by kernel_rfl) (by kernel_rfl) (by exact fun _ _ _ h => h) (Or.inl ⟨by rfl, ?_⟩) hS ?_
        rotate_left
        · intro w hSw
          go_simp
          try with_reducible rfl
        try simp only [Act.put, List.setIfInBounds_toArray, List.set_cons_zero, List.set_cons_succ]
        refine wpAnyH_take (i := 12) (v := ?_) (by simp only [List.getElem?_toArray, List.getElem?_cons_succ, List.getElem?_cons_zero]; rfl) (by kernel_rfl) (by kernel_rfl) (by kernel_rfl) (by exact fun _ _ _ h => h) (Or.inl ⟨by rfl, ?_⟩) hS ?_
        rotate_left
        · intro w hSw
          go_simp
          try with_reducible rfl
        try simp only [Act.put, List.setIfInBounds_toArray, List.set_cons_zero, List.set_cons_succ]
        refine wpAnyH_done (by kernel_rfl) ?_ _
        go_wp2_with fail
        go_ret
        exact ⟨by simp, B9.out⟩
      · go_simp
        have M40 := Lib.hid (M36.out.alloc (.cells #[.slice ab nb cb] 22))
        have A40 := Lib.hid (A36.out.alloc (.cells #[.slice ab nb cb] 22))
        have B40 := Lib.hid (B36.out.alloc B36.out.size (.cells #[.slice ab nb cb] 22))
        have Z40 : Hid (V0.heap.size ≤ (u36.alloc (.cells #[.slice ab nb cb] 22)).heap.size) := Lib.hid (by have := Z36.out; simp <;> omega)
        have N40 := Lib.hid (Mem.Blk.new u36 22 #[.slice ab nb cb])
        have O40 := Lib.hid (ShT.Own.alloc O36.out (.cells #[.slice ab nb cb] 22))
        have X40 : Hid (V0.heap.size ≤ (u36.alloc (.cells #[.slice ab nb cb] 22)).heap.size) := Lib.hid (by have := X36.out; simp <;> omega)
        have E40 : Hid (((.slice a36 n c36) : Value).ownBlock ≠ some u36.heap.size) := Lib.hid (by intro e; have := (ShT.Own.blocks O36.out _ e).2; omega)
        generalize u36.alloc (.cells #[.slice ab nb cb] 22) = u40 at M40  A40  B40  Z40  N40  O40  X40 ⊢
        refine hK.out _ _ (loadOf M40.out zM.out) (fun hS => ?_)
        clear hK K
        try simp only [Act.put, List.setIfInBounds_toArray, List.set_cons_zero, List.set_cons_succ]
        refine wpAnyH_ready (rs := [5]) (by kernel_rfl) (by simp) ?_
        refine AllReadyH.cons (by simp only [List.getElem?_toArray, List.getElem?_cons_succ, List.getElem?_cons_zero]; rfl) (fun K hK => ?_) AllReadyH.nil
        refine stepZeros rfl (.tmp 49) (.tmp 50) rfl V0.heap.size (.slice a36 n c36) key rfl O40.out q z hqz.out rfl (n + q) hqn.out hnqm.out X40.out ?_
        intro a41 c41 u41 ho41 hg41
        have O41 : Hid (ShT.Own u41 V0.heap.size (.slice a41 (n + q) c41) (key ++ List.replicate q 0#8)) := Lib.hid ho41
        have hbl41 : ∀ k, ((.slice a36 n c36) : Value).ownBlock = some k → V0.heap.size ≤ k := fun k e => Nat.le_trans Z0.out (ShT.Own.blocks O40.out k e).1
        have M41 := Lib.hid (blkOwn M40.out hg41 (fun e => by have := hbl41 _ e; have := HS0.out.1; omega))
        have A41 := Lib.hid (blkOwn A40.out hg41 (fun e => by have := hbl41 _ e; have := HS0.out.2; omega))
        have B41 := Lib.hid (B40.out.grown hg41 B40.out.size (fun k e => by have := hbl41 k e; have := HS0.out.2; omega))
        have Z41 := Lib.hid (Nat.le_trans Z40.out hg41.size)
        have X41 := Lib.hid (Nat.le_trans X40.out hg41.size)
        have N41 := Lib.hid (blkOwn N40.out hg41 E40.out)
        clear ho41 hg41 hbl41
        refine hK.out _ _ (loadOf M41.out zM.out) (fun hS => ?_)
        clear hK K
        try simp only [Act.put, List.setIfInBounds_toArray, List.set_cons_zero, List.set_cons_succ]
        refine wpAnyH_ready (rs := [8]) (by kernel_rfl) (by simp) ?_
        refine AllReadyH.cons (by simp only [List.getElem?_toArray, List.getElem?_cons_succ, List.getElem?_cons_zero]; rfl) (fun K hK => ?_) AllReadyH.nil
        go_simp
        go_at_call 11
        refine (HMC.out (key ++ List.replicate q 0#8) _ (n + q) _ u41 u36.heap.size B41.out hqn.out hmz.out (One.own O41.out) N41.out).mono ?_
        rintro e v42 ⟨rfl, b8⟩
        have M42 := Lib.hid (M41.out.below b8 M41.out.lt)
        have A42 := Lib.hid (A41.out.below b8 A41.out.lt)
        have B42 := Lib.hid (B41.out.trans (b8.mono B41.out.size))
        clear b8
        refine hK.out _ _ (loadOf M42.out zM.out) (fun hS => ?_)
        clear hK K
        try simp only [Act.put, List.setIfInBounds_toArray, List.set_cons_zero, List.set_cons_succ]
        refine wpAnyH_take (i := 9) (v := .bool false) (by simp only [List.getElem?_toArray, List.getElem?_cons_succ, List.getElem?_cons_zero]; rfl) (by kernel_rfl) (by kernel_rfl) (by kernel_rfl) (by exact fun _ _ _ h => h) (Or.inl ⟨by rfl, ?_⟩) hS ?_
        · intro wz hSw
          exact exec_neq (.tmp 46) (.tmp 54) rfl MV MV rfl rfl _ wz (HNM.out wz)
        try simp only [Act.put, List.setIfInBounds_toArray, List.set_cons_zero, List.set_cons_succ]
        refine wpAnyH_done (by kernel_rfl) ?_ _
        go_wp2_with fail
        have M7 := Lib.hid M42.out.drew
        have A7 := Lib.hid A42.out.drew
        have B7 := Lib.hid B42.out.drew
        refine wp_region_held_drew (S := fun w' => (loadVar 28 ⟨w2.heap.size, 0, none⟩).run Tryd.prog w' = .ok (.agg MV) w' ∧ (loadVar 28 ⟨w.heap.size, 0, none⟩).run Tryd.prog w' = .ok (.agg AV) w') (by kernel_rfl) ⟨loadOf M7.out zM.out, loadOf A7.out zA.out⟩ (fun hS => ?_)
        try simp only [List.size_toArray, List.length_cons, List.length_nil, Nat.reduceAdd]
        refine wpAnyH_take (i := 0) (v := .agg MV) (by simp only [List.getElem?_toArray, List.getElem?_cons_zero]; rfl) (by kernel_rfl) (by kernel_rfl) (by kernel_rfl) (by exact fun _ _ _ h => h) (Or.inl ⟨by rfl, ?_⟩) hS ?_
        · intro wz hSw
          exact exec_load 28 (.tmp 9) rfl ⟨w2.heap.size, 0, none⟩ rfl _ wz hSw.1
        try simp only [Act.put, List.setIfInBounds_toArray, List.set_cons_zero, List.set_cons_succ]
        refine wpAnyH_take (i := 1) (v := .agg MV) (by simp only [List.getElem?_toArray, List.getElem?_cons_succ, List.getElem?_cons_zero]; rfl) (by kernel_rfl) (by kernel_rfl) (by kernel_rfl) (by exact fun _ _ _ h => h) (Or.inl ⟨by rfl, ?_⟩) hS ?_
        · intro wz hSw
          exact exec_load 28 (.tmp 9) rfl ⟨w2.heap.size, 0, none⟩ rfl _ wz hSw.1
        try simp only [Act.put, List.setIfInBounds_toArray, List.set_cons_zero, List.set_cons_succ]
        refine wpAnyH_ready (rs := [2]) (by kernel_rfl) (by simp) ?_
        refine AllReadyH.cons (by simp only [List.getElem?_toArray, List.getElem?_cons_succ, List.getElem?_cons_zero]; rfl) (fun K hK => ?_) AllReadyH.nil
        go_simp
        go_at_call 18
        refine (HEQ.out _).mono ?_
        rintro e wq ⟨rfl, bq⟩
        have M8 := Lib.hid (M7.out.below bq M7.out.lt)
        have A8 := Lib.hid (A7.out.below bq A7.out.lt)
        have B8 := Lib.hid (B7.out.trans (bq.mono B7.out.size))
        clear bq
        refine hK.out _ _ ⟨loadOf M8.out zM.out, loadOf A8.out zA.out⟩ (fun hS => ?_)
        clear hK K
        try simp only [Act.put, List.setIfInBounds_toArray, List.set_cons_zero, List.set_cons_succ]
        refine wpAnyH_take (i := 3) (v := ?_) (by simp only [List.getElem?_toArray, List.getElem?_cons_succ, List.getElem?_cons_zero]; rfl) (by kernel_rfl) (by kernel_rfl) (by kernel_rfl) (by exact fun _ _ _ h => h) (Or.inl ⟨by rfl, ?_⟩) hS ?_
        rotate_left
        · intro w hSw
          go_simp
          try with_reducible rfl
        try simp only [Act.put, List.setIfInBounds_toArray, List.set_cons_zero, List.set_cons_succ]
        refine wpAnyH_take (i := 4) (v := .agg MV) (by simp only [List.getElem?_toArray, List.getElem?_cons_succ, List.getElem?_cons_zero]; rfl) (by kernel_rfl) (by kernel_rfl) (by kernel_rfl) (by exact fun _ _ _ h => h) (Or.inl ⟨by rfl, ?_⟩) hS ?_
        · intro wz hSw
          exact exec_load 28 (.tmp 9) rfl ⟨w2.heap.size, 0, none⟩ rfl _ wz hSw.1
        try simp only [Act.put, List.setIfInBounds_toArray, List.set_cons_zero, List.set_cons_succ]
        refine wpAnyH_take (i := 5) (v := .agg AV) (by simp only [List.getElem?_toArray, List.getElem?_cons_succ, List.getElem?_cons_zero]; rfl) (by kernel_rfl) (by kernel_rfl) (by kernel_rfl) (by exact fun _ _ _ h => h) (Or.inl ⟨by rfl, ?_⟩) hS ?_
        · intro wz hSw
          exact exec_load 28 (.tmp 7) rfl ⟨w.heap.size, 0, none⟩ rfl _ wz hSw.2
        try simp only [Act.put, List.setIfInBounds_toArray, List.set_cons_zero, List.set_cons_succ]
        refine wpAnyH_take (i := 7) (v := .agg MV) (by simp only [List.getElem?_toArray, List.getElem?_cons_succ, List.getElem?_cons_zero]; rfl) (by kernel_rfl) (by kernel_rfl) (by kernel_rfl) (by exact fun _ _ _ h => h) (Or.inl ⟨by rfl, ?_⟩) hS ?_
        · intro wz hSw
          exact exec_load 28 (.tmp 9) rfl ⟨w2.heap.size, 0, none⟩ rfl _ wz hSw.1
        try simp only [Act.put, List.setIfInBounds_toArray, List.set_cons_zero, List.set_cons_succ]
        refine wpAnyH_take (i := 8) (v := .agg AV) (by simp only [List.getElem?_toArray, List.getElem?_cons_succ, List.getElem?_cons_zero]; rfl) (by kernel_rfl) (by kernel_rfl) (by kernel_rfl) (by exact fun _ _ _ h => h) (Or.inl ⟨by rfl, ?_⟩) hS ?_
        · intro wz hSw
          exact exec_load 28 (.tmp 7) rfl ⟨w.heap.size, 0, none⟩ rfl _ wz hSw.2
        try simp only [Act.put, List.setIfInBounds_toArray, List.set_cons_zero, List.set_cons_succ]
        refine wpAnyH_take (i := 9) (v := .bool r) (by simp only [List.getElem?_toArray, List.getElem?_cons_succ, List.getElem?_cons_zero]; rfl) (by kernel_rfl) (by kernel_rfl) (by kernel_rfl) (by exact fun _ _ _ h => h) (Or.inl ⟨by rfl, ?_⟩) hS ?_
        · intro wz hSw
          exact exec_eql (.tmp 63) (.tmp 64) rfl MV AV rfl rfl _ wz (HEB.out wz)
        try simp only [Act.put, List.setIfInBounds_toArray, List.set_cons_zero, List.set_cons_succ]
        refine wpAnyH_ready (rs := [6]) (by kernel_rfl) (by simp) ?_
        refine AllReadyH.cons (by simp only [List.getElem?_toArray, List.getElem?_cons_succ, List.getElem?_cons_zero]; rfl) (fun K hK => ?_) AllReadyH.nil
        go_simp
        go_at_call 18
        refine (HEA.out _).mono ?_
        rintro e wq2 ⟨rfl, bq⟩
        have M9 := Lib.hid (M8.out.below bq M8.out.lt)
        have A9 := Lib.hid (A8.out.below bq A8.out.lt)
        have B9 := Lib.hid (B8.out.trans (bq.mono B8.out.size))
        clear bq
        refine hK.out _ _ ⟨loadOf M9.out zM.out, loadOf A9.out zA.out⟩ (fun hS => ?_)
        clear hK K
        try simp only [Act.put, List.setIfInBounds_toArray, List.set_cons_zero, List.set_cons_succ]
        refine wpAnyH_take (i := 10) (v := ?_) (by simp only [List.getElem?_toArray, List.getElem?_cons_succ, List.getElem?_cons_zero]; rfl) (by kernel_rfl) (by kernel_rfl) (by kernel_rfl) (by exact fun _ _ _ h => h) (Or.inl ⟨by rfl, ?_⟩) hS ?_
        rotate_left
        · intro w hSw
          go_simp
          try with_reducible rfl
        try simp only [Act.put, List.setIfInBounds_toArray, List.set_cons_zero, List.set_cons_succ]
        refine wpAnyH_take (i := 11) (v := ?_) (by simp only [List.getElem?_toArray, List.getElem?_cons_succ, List.getElem?_cons_zero]; rfl) (by kernel_rfl) (by kernel_rfl) (by kernel_rfl) (by exact fun _ _ _ h => h) (Or.inl ⟨by rfl, ?_⟩) hS ?_
        rotate_left
        · intro w hSw
          go_simp
          try with_reducible rfl
        try simp only [Act.put, List.setIfInBounds_toArray, List.set_cons_zero, List.set_cons_succ]
        refine wpAnyH_take (i := 12) (v := ?_) (by simp only [List.getElem?_toArray, List.getElem?_cons_succ, List.getElem?_cons_zero]; rfl) (by kernel_rfl) (by kernel_rfl) (by kernel_rfl) (by exact fun _ _ _ h => h) (Or.inl ⟨by rfl, ?_⟩) hS ?_
        rotate_left
        · intro w hSw
          go_simp
          try with_reducible rfl
        try simp only [Act.put, List.setIfInBounds_toArray, List.set_cons_zero, List.set_cons_succ]
        refine wpAnyH_done (by kernel_rfl) ?_ _
        go_wp2_with fail
        go_ret
        exact ⟨by simp, B9.out⟩
    · go_simp
      have M43 := Lib.hid (M35.out.alloc (.cells #[.slice ab nb cb] 22))
      have A43 := Lib.hid (A35.out.alloc (.cells #[.slice ab nb cb] 22))
      have B43 := Lib.hid (B35.out.alloc B35.out.size (.cells #[.slice ab nb cb] 22))
      have Z43 : Hid (V0.heap.size ≤ (u35.alloc (.cells #[.slice ab nb cb] 22)).heap.size) := Lib.hid (by have := Z35.out; simp <;> omega)
      have N43 := Lib.hid (Mem.Blk.new u35 22 #[.slice ab nb cb])
      have O43 := Lib.hid (ShT.Own.alloc O35.out (.cells #[.slice ab nb cb] 22))
      have X43 : Hid (V0.heap.size ≤ (u35.alloc (.cells #[.slice ab nb cb] 22)).heap.size) := Lib.hid (by have := X35.out; simp <;> omega)
      have E43 : Hid (((.slice (some ⟨V0.heap.size, 0, none⟩) 0 0) : Value).ownBlock ≠ some u35.heap.size) := Lib.hid (by intro e; have := (ShT.Own.blocks O35.out _ e).2; omega)
      generalize u35.alloc (.cells #[.slice ab nb cb] 22) = u43 at M43  A43  B43  Z43  N43  O43  X43 ⊢
      refine hK.out _ _ (loadOf M43.out zM.out) (fun hS => ?_)
      clear hK K
      try simp only [Act.put, List.setIfInBounds_toArray, List.set_cons_zero, List.set_cons_succ]
      refine wpAnyH_ready (rs := [3]) (by kernel_rfl) (by simp) ?_
      refine AllReadyH.cons (by simp only [List.getElem?_toArray, List.getElem?_cons_succ, List.getElem?_cons_zero]; rfl) (fun K hK => ?_) AllReadyH.nil
      obtain ⟨ka44, kc44, ke44, kr44, _⟩ := HK1.out u43 B43.out
      injection ke44 with ke1 ke2 ke3
      subst ke1 ke3
      clear ke2
      refine stepApp rfl (.tmp 47) (.tmp 48) rfl V0.heap.size (.slice (some ⟨V0.heap.size, 0, none⟩) 0 0) [] rfl O43.out a key n c rfl HN.out kr44 n HN.out hn1m.out X43.out ?_
      intro a44 c44 u44 ho44 hg44 ne44
      have O44 : Hid (ShT.Own u44 V0.heap.size (.slice a44 n c44) key) := Lib.hid ho44
      have hbl44 : ∀ k, ((.slice (some ⟨V0.heap.size, 0, none⟩) 0 0) : Value).ownBlock = some k → V0.heap.size ≤ k := fun k e => Nat.le_trans Z0.out (ShT.Own.blocks O43.out k e).1
      have M44 := Lib.hid (blkOwn M43.out hg44 (fun e => by have := hbl44 _ e; have := HS0.out.1; omega))
      have A44 := Lib.hid (blkOwn A43.out hg44 (fun e => by have := hbl44 _ e; have := HS0.out.2; omega))
      have B44 := Lib.hid (B43.out.grown hg44 B43.out.size (fun k e => by have := hbl44 k e; have := HS0.out.2; omega))
      have Z44 := Lib.hid (Nat.le_trans Z43.out hg44.size)
      have X44 := Lib.hid (Nat.le_trans X43.out hg44.size)
      have N44 := Lib.hid (blkOwn N43.out hg44 E43.out)
      have E44 : Hid (((.slice a44 n c44) : Value).ownBlock ≠ some u35.heap.size) := Lib.hid (by
        rcases ne44 with e | e
        · rw [e]; exact E43.out
        · rw [e]; intro e2; injection e2 with e2; have e3 : u43.heap.size = u35.heap.size := e2; have := N43.out.lt; omega)
      clear ho44 hg44 hbl44 ne44
      refine hK.out _ _ (loadOf M44.out zM.out) (fun hS => ?_)
      clear hK K
      try simp only [Act.put, List.setIfInBounds_toArray, List.set_cons_zero, List.set_cons_succ]
      refine wpAnyH_ready (rs := [5]) (by kernel_rfl) (by simp) ?_
      refine AllReadyH.cons (by simp only [List.getElem?_toArray, List.getElem?_cons_succ, List.getElem?_cons_zero]; rfl) (fun K hK => ?_) AllReadyH.nil
      refine stepZeros rfl (.tmp 49) (.tmp 50) rfl V0.heap.size (.slice a44 n c44) key rfl O44.out q z hqz.out rfl (n + q) hqn.out hnqm.out X44.out ?_
      intro a45 c45 u45 ho45 hg45
      have O45 : Hid (ShT.Own u45 V0.heap.size (.slice a45 (n + q) c45) (key ++ List.replicate q 0#8)) := Lib.hid ho45
      have hbl45 : ∀ k, ((.slice a44 n c44) : Value).ownBlock = some k → V0.heap.size ≤ k := fun k e => Nat.le_trans Z0.out (ShT.Own.blocks O44.out k e).1
      have M45 := Lib.hid (blkOwn M44.out hg45 (fun e => by have := hbl45 _ e; have := HS0.out.1; omega))
      have A45 := Lib.hid (blkOwn A44.out hg45 (fun e => by have := hbl45 _ e; have := HS0.out.2; omega))
      have B45 := Lib.hid (B44.out.grown hg45 B44.out.size (fun k e => by have := hbl45 k e; have := HS0.out.2; omega))
      have Z45 := Lib.hid (Nat.le_trans Z44.out hg45.size)
      have X45 := Lib.hid (Nat.le_trans X44.out hg45.size)
      have N45 := Lib.hid (blkOwn N44.out hg45 E44.out)
      clear ho45 hg45 hbl45
      refine hK.out _ _ (loadOf M45.out zM.out) (fun hS => ?_)
      clear hK K
      try simp only [Act.put, List.setIfInBounds_toArray, List.set_cons_zero, List.set_cons_succ]
      refine wpAnyH_ready (rs := [8]) (by kernel_rfl) (by simp) ?_
      refine AllReadyH.cons (by simp only [List.getElem?_toArray, List.getElem?_cons_succ, List.getElem?_cons_zero]; rfl) (fun K hK => ?_) AllReadyH.nil
      go_simp
      go_at_call 11
      refine (HMC.out (key ++ List.replicate q 0#8) _ (n + q) _ u45 u35.heap.size B45.out hqn.out hmz.out (One.own O45.out) N45.out).mono ?_
      rintro e v46 ⟨rfl, b8⟩
      have M46 := Lib.hid (M45.out.below b8 M45.out.lt)
      have A46 := Lib.hid (A45.out.below b8 A45.out.lt)
      have B46 := Lib.hid (B45.out.trans (b8.mono B45.out.size))
      clear b8
      refine hK.out _ _ (loadOf M46.out zM.out) (fun hS => ?_)
      clear hK K
      try simp only [Act.put, List.setIfInBounds_toArray, List.set_cons_zero, List.set_cons_succ]
      refine wpAnyH_take (i := 9) (v := .bool false) (by simp only [List.getElem?_toArray, List.getElem?_cons_succ, List.getElem?_cons_zero]; rfl) (by kernel_rfl) (by kernel_rfl) (by kernel_rfl) (by exact fun _ _ _ h => h) (Or.inl ⟨by rfl, ?_⟩) hS ?_
      · intro wz hSw
        exact exec_neq (.tmp 46) (.tmp 54) rfl MV MV rfl rfl _ wz (HNM.out wz)
      try simp only [Act.put, List.setIfInBounds_toArray, List.set_cons_zero, List.set_cons_succ]
      refine wpAnyH_done (by kernel_rfl) ?_ _
      go_wp2_with fail
      have M7 := Lib.hid M46.out.drew
      have A7 := Lib.hid A46.out.drew
      have B7 := Lib.hid B46.out.drew
      refine wp_region_held_drew (S := fun w' => (loadVar 28 ⟨w2.heap.size, 0, none⟩).run Tryd.prog w' = .ok (.agg MV) w' ∧ (loadVar 28 ⟨w.heap.size, 0, none⟩).run Tryd.prog w' = .ok (.agg AV) w') (by kernel_rfl) ⟨loadOf M7.out zM.out, loadOf A7.out zA.out⟩ (fun hS => ?_)
      try simp only [List.size_toArray, List.length_cons, List.length_nil, Nat.reduceAdd]
      refine wpAnyH_take (i := 0) (v := .agg MV) (by simp only [List.getElem?_toArray, List.getElem?_cons_zero]; rfl) (by kernel_rfl) (by kernel_rfl) (by kernel_rfl) (by exact fun _ _ _ h => h) (Or.inl ⟨by rfl, ?_⟩) hS ?_
      · intro wz hSw
        exact exec_load 28 (.tmp 9) rfl ⟨w2.heap.size, 0, none⟩ rfl _ wz hSw.1
      try simp only [Act.put, List.setIfInBounds_toArray, List.set_cons_zero, List.set_cons_succ]
      refine wpAnyH_take (i := 1) (v := .agg MV) (by simp only [List.getElem?_toArray, List.getElem?_cons_succ, List.getElem?_cons_zero]; rfl) (by kernel_rfl) (by kernel_rfl) (by kernel_rfl) (by exact fun _ _ _ h => h) (Or.inl ⟨by rfl, ?_⟩) hS ?_
      · intro wz hSw
        exact exec_load 28 (.tmp 9) rfl ⟨w2.heap.size, 0, none⟩ rfl _ wz hSw.1
      try simp only [Act.put, List.setIfInBounds_toArray, List.set_cons_zero, List.set_cons_succ]
      refine wpAnyH_ready (rs := [2]) (by kernel_rfl) (by simp) ?_
      refine AllReadyH.cons (by simp only [List.getElem?_toArray, List.getElem?_cons_succ, List.getElem?_cons_zero]; rfl) (fun K hK => ?_) AllReadyH.nil
      go_simp
      go_at_call 18
      refine (HEQ.out _).mono ?_
      rintro e wq ⟨rfl, bq⟩
      have M8 := Lib.hid (M7.out.below bq M7.out.lt)
      have A8 := Lib.hid (A7.out.below bq A7.out.lt)
      have B8 := Lib.hid (B7.out.trans (bq.mono B7.out.size))
      clear bq
      refine hK.out _ _ ⟨loadOf M8.out zM.out, loadOf A8.out zA.out⟩ (fun hS => ?_)
      clear hK K
      try simp only [Act.put, List.setIfInBounds_toArray, List.set_cons_zero, List.set_cons_succ]
      refine wpAnyH_take (i := 3) (v := ?_) (by simp only [List.getElem?_toArray, List.getElem?_cons_succ, List.getElem?_cons_zero]; rfl) (by kernel_rfl) (by kernel_rfl) (by kernel_rfl) (by exact fun _ _ _ h => h) (Or.inl ⟨by rfl, ?_⟩) hS ?_
      rotate_left
      · intro w hSw
        go_simp
        try with_reducible rfl
      try simp only [Act.put, List.setIfInBounds_toArray, List.set_cons_zero, List.set_cons_succ]
      refine wpAnyH_take (i := 4) (v := .agg MV) (by simp only [List.getElem?_toArray, List.getElem?_cons_succ, List.getElem?_cons_zero]; rfl) (by kernel_rfl) (by kernel_rfl) (by kernel_rfl) (by exact fun _ _ _ h => h) (Or.inl ⟨by rfl, ?_⟩) hS ?_
      · intro wz hSw
        exact exec_load 28 (.tmp 9) rfl ⟨w2.heap.size, 0, none⟩ rfl _ wz hSw.1
      try simp only [Act.put, List.setIfInBounds_toArray, List.set_cons_zero, List.set_cons_succ]
      refine wpAnyH_take (i := 5) (v := .agg AV) (by simp only [List.getElem?_toArray, List.getElem?_cons_succ, List.getElem?_cons_zero]; rfl) (by kernel_rfl) (by kernel_rfl) (by kernel_rfl) (by exact fun _ _ _ h => h) (Or.inl ⟨by rfl, ?_⟩) hS ?_
      · intro wz hSw
        exact exec_load 28 (.tmp 7) rfl ⟨w.heap.size, 0, none⟩ rfl _ wz hSw.2
      try simp only [Act.put, List.setIfInBounds_toArray, List.set_cons_zero, List.set_cons_succ]
      refine wpAnyH_take (i := 7) (v := .agg MV) (by simp only [List.getElem?_toArray, List.getElem?_cons_succ, List.getElem?_cons_zero]; rfl) (by kernel_rfl) (by kernel_rfl) (by kernel_rfl) (by exact fun _ _ _ h => h) (Or.inl ⟨by rfl, ?_⟩) hS ?_
      · intro wz hSw
        exact exec_load 28 (.tmp 9) rfl ⟨w2.heap.size, 0, none⟩ rfl _ wz hSw.1
      try simp only [Act.put, List.setIfInBounds_toArray, List.set_cons_zero, List.set_cons_succ]
      refine wpAnyH_take (i := 8) (v := .agg AV) (by simp only [List.getElem?_toArray, List.getElem?_cons_succ, List.getElem?_cons_zero]; rfl) (by kernel_rfl) (by kernel_rfl) (by kernel_rfl) (by exact fun _ _ _ h => h) (Or.inl ⟨by rfl, ?_⟩) hS ?_
      · intro wz hSw
        exact exec_load 28 (.tmp 7) rfl ⟨w.heap.size, 0, none⟩ rfl _ wz hSw.2
      try simp only [Act.put, List.setIfInBounds_toArray, List.set_cons_zero, List.set_cons_succ]
      refine wpAnyH_take (i := 9) (v := .bool r) (by simp only [List.getElem?_toArray, List.getElem?_cons_succ, List.getElem?_cons_zero]; rfl) (by kernel_rfl) (by kernel_rfl) (by kernel_rfl) (by exact fun _ _ _ h => h) (Or.inl ⟨by rfl, ?_⟩) hS ?_
      · intro wz hSw
        exact exec_eql (.tmp 63) (.tmp 64) rfl MV AV rfl rfl _ wz (HEB.out wz)
      try simp only [Act.put, List.setIfInBounds_toArray, List.set_cons_zero, List.set_cons_succ]
      refine wpAnyH_ready (rs := [6]) (by kernel_rfl) (by simp) ?_
      refine AllReadyH.cons (by simp only [List.getElem?_toArray, List.getElem?_cons_succ, List.getElem?_cons_zero]; rfl) (fun K hK => ?_) AllReadyH.nil
      go_simp
      go_at_call 18
      refine (HEA.out _).mono ?_
      rintro e wq2 ⟨rfl, bq⟩
      have M9 := Lib.hid (M8.out.below bq M8.out.lt)
      have A9 := Lib.hid (A8.out.below bq A8.out.lt)
      have B9 := Lib.hid (B8.out.trans (bq.mono B8.out.size))
      clear bq
      refine hK.out _ _ ⟨loadOf M9.out zM.out, loadOf A9.out zA.out⟩ (fun hS => ?_)
      clear hK K
      try simp only [Act.put, List.setIfInBounds_toArray, List.set_cons_zero, List.set_cons_succ]
      refine wpAnyH_take (i := 10) (v := ?_) (by simp only [List.getElem?_toArray, List.getElem?_cons_succ, List.getElem?_cons_zero]; rfl) (by kernel_rfl) (by kernel_rfl) (by kernel_rfl) (by exact fun _ _ _ h => h) (Or.inl ⟨by rfl, ?_⟩) hS ?_
      rotate_left
      · intro w hSw
        go_simp
        try with_reducible rfl
      try simp only [Act.put, List.setIfInBounds_toArray, List.set_cons_zero, List.set_cons_succ]
      refine wpAnyH_take (i := 11) (v := ?_) (by simp only [List.getElem?_toArray, List.getElem?_cons_succ, List.getElem?_cons_zero]; rfl) (by kernel_rfl) (by kernel_rfl) (by kernel_rfl) (by exact fun _ _ _ h => h) (Or.inl ⟨by rfl, ?_⟩) hS ?_
      rotate_left
      · intro w hSw
        go_simp
        try with_reducible rfl
      try simp only [Act.put, List.setIfInBounds_toArray, List.set_cons_zero, List.set_cons_succ]
      refine wpAnyH_take (i := 12) (v := ?_) (by simp only [List.getElem?_toArray, List.getElem?_cons_succ, List.getElem?_cons_zero]; rfl) (by kernel_rfl) (by kernel_rfl) (by kernel_rfl) (by exact fun _ _ _ h => h) (Or.inl ⟨by rfl, ?_⟩) hS ?_
      rotate_left
      · intro w hSw
        go_simp
        try with_reducible rfl
      try simp only [Act.put, List.setIfInBounds_toArray, List.set_cons_zero, List.set_cons_succ]
      refine wpAnyH_done (by kernel_rfl) ?_ _
      go_wp2_with fail
      go_ret
      exact ⟨by simp, B9.out⟩
  · go_simp
    have M47 := Lib.hid (M0.out.alloc (.cells #[.slice ab nb cb] 22))
    have A47 := Lib.hid (A0.out.alloc (.cells #[.slice ab nb cb] 22))
    have B47 := Lib.hid (B0.out.alloc B0.out.size (.cells #[.slice ab nb cb] 22))
    have Z47 : Hid (V0.heap.size ≤ (V0.alloc (.cells #[.slice ab nb cb] 22)).heap.size) := Lib.hid (by have := Z0.out; simp <;> omega)
    have N47 := Lib.hid (Mem.Blk.new V0 22 #[.slice ab nb cb])
    generalize V0.alloc (.cells #[.slice ab nb cb] 22) = u47 at M47  A47  B47  Z47  N47 ⊢
    refine hK.out _ _ (loadOf M47.out zM.out) (fun hS => ?_)
    clear hK K
    try simp only [Act.put, List.setIfInBounds_toArray, List.set_cons_zero, List.set_cons_succ]
    refine wpAnyH_ready (rs := [1]) (by kernel_rfl) (by simp) ?_
    refine AllReadyH.cons (by simp only [List.getElem?_toArray, List.getElem?_cons_succ, List.getElem?_cons_zero]; rfl) (fun K hK => ?_) AllReadyH.nil
    go_simp
    have M48 := Lib.hid (M47.out.alloc (.cells #[] 5))
    have A48 := Lib.hid (A47.out.alloc (.cells #[] 5))
    have B48 := Lib.hid (B47.out.alloc B47.out.size (.cells #[] 5))
    have Z48 : Hid (V0.heap.size ≤ (u47.alloc (.cells #[] 5)).heap.size) := Lib.hid (by have := Z47.out; simp <;> omega)
    have O48 : Hid (ShT.Own (u47.alloc (.cells #[] 5)) u47.heap.size (.slice (some ⟨u47.heap.size, 0, none⟩) 0 0) []) := Lib.hid (ShT.Own.made u47 u47.heap.size (Nat.le_refl _) #[] 0 [] rfl (Nat.zero_le _) rfl)
    have X48 : Hid (u47.heap.size ≤ (u47.alloc (.cells #[] 5)).heap.size) := Lib.hid (by simp)
    have N48 := Lib.hid (N47.out.alloc (.cells #[] 5))
    have E48 : Hid (((.slice (some ⟨u47.heap.size, 0, none⟩) 0 0) : Value).ownBlock ≠ some V0.heap.size) := Lib.hid (by intro e; injection e with e; have e' : u47.heap.size = V0.heap.size := e; have := N47.out.lt; omega)
    generalize u47.alloc (.cells #[] 5) = u48 at M48  A48  B48  Z48  O48  X48  N48 ⊢
    refine hK.out _ _ (loadOf M48.out zM.out) (fun hS => ?_)
    clear hK K
    try simp only [Act.put, List.setIfInBounds_toArray, List.set_cons_zero, List.set_cons_succ]
    refine wpAnyH_ready (rs := [3]) (by kernel_rfl) (by simp) ?_
    refine AllReadyH.cons (by simp only [List.getElem?_toArray, List.getElem?_cons_succ, List.getElem?_cons_zero]; rfl) (fun K hK => ?_) AllReadyH.nil
    obtain ⟨ka49, kc49, ke49, kr49, _⟩ := HK1.out u48 B48.out
    injection ke49 with ke1 ke2 ke3
    subst ke1 ke3
    clear ke2
    refine stepApp rfl (.tmp 47) (.tmp 48) rfl u47.heap.size (.slice (some ⟨u47.heap.size, 0, none⟩) 0 0) [] rfl O48.out a key n c rfl HN.out kr49 n HN.out hn1m.out X48.out ?_
    intro a49 c49 u49 ho49 hg49 ne49
    have O49 : Hid (ShT.Own u49 u47.heap.size (.slice a49 n c49) key) := Lib.hid ho49
    have hbl49 : ∀ k, ((.slice (some ⟨u47.heap.size, 0, none⟩) 0 0) : Value).ownBlock = some k → V0.heap.size ≤ k := fun k e => Nat.le_trans Z47.out (ShT.Own.blocks O48.out k e).1
    have M49 := Lib.hid (blkOwn M48.out hg49 (fun e => by have := hbl49 _ e; have := HS0.out.1; omega))
    have A49 := Lib.hid (blkOwn A48.out hg49 (fun e => by have := hbl49 _ e; have := HS0.out.2; omega))
    have B49 := Lib.hid (B48.out.grown hg49 B48.out.size (fun k e => by have := hbl49 k e; have := HS0.out.2; omega))
    have Z49 := Lib.hid (Nat.le_trans Z48.out hg49.size)
    have X49 := Lib.hid (Nat.le_trans X48.out hg49.size)
    have N49 := Lib.hid (blkOwn N48.out hg49 E48.out)
    have E49 : Hid (((.slice a49 n c49) : Value).ownBlock ≠ some V0.heap.size) := Lib.hid (by
      rcases ne49 with e | e
      · rw [e]; exact E48.out
      · rw [e]; intro e2; injection e2 with e2; have e3 : u48.heap.size = V0.heap.size := e2; have := N48.out.lt; omega)
    clear ho49 hg49 hbl49 ne49
    refine hK.out _ _ (loadOf M49.out zM.out) (fun hS => ?_)
    clear hK K
    try simp only [Act.put, List.setIfInBounds_toArray, List.set_cons_zero, List.set_cons_succ]
    refine wpAnyH_ready (rs := [5]) (by kernel_rfl) (by simp) ?_
    refine AllReadyH.cons (by simp only [List.getElem?_toArray, List.getElem?_cons_succ, List.getElem?_cons_zero]; rfl) (fun K hK => ?_) AllReadyH.nil
    refine stepZeros rfl (.tmp 49) (.tmp 50) rfl u47.heap.size (.slice a49 n c49) key rfl O49.out q z hqz.out rfl (n + q) hqn.out hnqm.out X49.out ?_
    intro a50 c50 u50 ho50 hg50
    have O50 : Hid (ShT.Own u50 u47.heap.size (.slice a50 (n + q) c50) (key ++ List.replicate q 0#8)) := Lib.hid ho50
    have hbl50 : ∀ k, ((.slice a49 n c49) : Value).ownBlock = some k → V0.heap.size ≤ k := fun k e => Nat.le_trans Z47.out (ShT.Own.blocks O49.out k e).1
    have M50 := Lib.hid (blkOwn M49.out hg50 (fun e => by have := hbl50 _ e; have := HS0.out.1; omega))
    have A50 := Lib.hid (blkOwn A49.out hg50 (fun e => by have := hbl50 _ e; have := HS0.out.2; omega))
    have B50 := Lib.hid (B49.out.grown hg50 B49.out.size (fun k e => by have := hbl50 k e; have := HS0.out.2; omega))
    have Z50 := Lib.hid (Nat.le_trans Z49.out hg50.size)
    have X50 := Lib.hid (Nat.le_trans X49.out hg50.size)
    have N50 := Lib.hid (blkOwn N49.out hg50 E49.out)
    clear ho50 hg50 hbl50
    refine hK.out _ _ (loadOf M50.out zM.out) (fun hS => ?_)
    clear hK K
    try simp only [Act.put, List.setIfInBounds_toArray, List.set_cons_zero, List.set_cons_succ]
    refine wpAnyH_ready (rs := [8]) (by kernel_rfl) (by simp) ?_
    refine AllReadyH.cons (by simp only [List.getElem?_toArray, List.getElem?_cons_succ, List.getElem?_cons_zero]; rfl) (fun K hK => ?_) AllReadyH.nil
    go_simp
    go_at_call 11
    refine (HMC.out (key ++ List.replicate q 0#8) _ (n + q) _ u50 V0.heap.size B50.out hqn.out hmz.out (One.own O50.out) N50.out).mono ?_
    rintro e v51 ⟨rfl, b8⟩
    have M51 := Lib.hid (M50.out.below b8 M50.out.lt)
    have A51 := Lib.hid (A50.out.below b8 A50.out.lt)
    have B51 := Lib.hid (B50.out.trans (b8.mono B50.out.size))
    clear b8
    refine hK.out _ _ (loadOf M51.out zM.out) (fun hS => ?_)
    clear hK K
    try simp only [Act.put, List.setIfInBounds_toArray, List.set_cons_zero, List.set_cons_succ]
    refine wpAnyH_take (i := 9) (v := .bool false) (by simp only [List.getElem?_toArray, List.getElem?_cons_succ, List.getElem?_cons_zero]; rfl) (by kernel_rfl) (by kernel_rfl) (by kernel_rfl) (by exact fun _ _ _ h => h) (Or.inl ⟨by rfl, ?_⟩) hS ?_
    · intro wz hSw
      exact exec_neq (.tmp 46) (.tmp 54) rfl MV MV rfl rfl _ wz (HNM.out wz)
    try simp only [Act.put, List.setIfInBounds_toArray, List.set_cons_zero, List.set_cons_succ]
    refine wpAnyH_done (by kernel_rfl) ?_ _
    go_wp2_with fail
    have M7 := Lib.hid M51.out.drew
    have A7 := Lib.hid A51.out.drew
    have B7 := Lib.hid B51.out.drew
    refine wp_region_held_drew (S := fun w' => (loadVar 28 ⟨w2.heap.size, 0, none⟩).run Tryd.prog w' = .ok (.agg MV) w' ∧ (loadVar 28 ⟨w.heap.size, 0, none⟩).run Tryd.prog w' = .ok (.agg AV) w') (by kernel_rfl) ⟨loadOf M7.out zM.out, loadOf A7.out zA.out⟩ (fun hS => ?_)
    try simp only [List.size_toArray, List.length_cons, List.length_nil, Nat.reduceAdd]
    refine wpAnyH_take (i := 0) (v := .agg MV) (by simp only [List.getElem?_toArray, List.getElem?_cons_zero]; rfl) (by kernel_rfl) (by kernel_rfl) (by kernel_rfl) (by exact fun _ _ _ h => h) (Or.inl ⟨by rfl, ?_⟩) hS ?_
    · intro wz hSw
      exact exec_load 28 (.tmp 9) rfl ⟨w2.heap.size, 0, none⟩ rfl _ wz hSw.1
    try simp only [Act.put, List.setIfInBounds_toArray, List.set_cons_zero, List.set_cons_succ]
    refine wpAnyH_take (i := 1) (v := .agg MV) (by simp only [List.getElem?_toArray, List.getElem?_cons_succ, List.getElem?_cons_zero]; rfl) (by kernel_rfl) (by kernel_rfl) (by kernel_rfl) (by exact fun _ _ _ h => h) (Or.inl ⟨by rfl, ?_⟩) hS ?_
    · intro wz hSw
      exact exec_load 28 (.tmp 9) rfl ⟨w2.heap.size, 0, none⟩ rfl _ wz hSw.1
    try simp only [Act.put, List.setIfInBounds_toArray, List.set_cons_zero, List.set_cons_succ]
    refine wpAnyH_ready (rs := [2]) (by kernel_rfl) (by simp) ?_
    refine AllReadyH.cons (by simp only [List.getElem?_toArray, List.getElem?_cons_succ, List.getElem?_cons_zero]; rfl) (fun K hK => ?_) AllReadyH.nil
    go_simp
    go_at_call 18
    refine (HEQ.out _).mono ?_
    rintro e wq ⟨rfl, bq⟩
    have M8 := Lib.hid (M7.out.below bq M7.out.lt)
    have A8 := Lib.hid (A7.out.below bq A7.out.lt)
    have B8 := Lib.hid (B7.out.trans (bq.mono B7.out.size))
    clear bq
    refine hK.out _ _ ⟨loadOf M8.out zM.out, loadOf A8.out zA.out⟩ (fun hS => ?_)
    clear hK K
    try simp only [Act.put, List.setIfInBounds_toArray, List.set_cons_zero, List.set_cons_succ]
    refine wpAnyH_take (i := 3) (v := ?_) (by simp only [List.getElem?_toArray, List.getElem?_cons_succ, List.getElem?_cons_zero]; rfl) (by kernel_rfl) (by kernel_rfl) (by kernel_rfl) (by exact fun _ _ _ h => h) (Or.inl ⟨by rfl, ?_⟩) hS ?_
    rotate_left
    · intro w hSw
      go_simp
      try with_reducible rfl
    try simp only [Act.put, List.setIfInBounds_toArray, List.set_cons_zero, List.set_cons_succ]
    refine wpAnyH_take (i := 4) (v := .agg MV) (by simp only [List.getElem?_toArray, List.getElem?_cons_succ, List.getElem?_cons_zero]; rfl) (by kernel_rfl) (by kernel_rfl) (by kernel_rfl) (by exact fun _ _ _ h => h) (Or.inl ⟨by rfl, ?_⟩) hS ?_
    · intro wz hSw
      exact exec_load 28 (.tmp 9) rfl ⟨w2.heap.size, 0, none⟩ rfl _ wz hSw.1
    try simp only [Act.put, List.setIfInBounds_toArray, List.set_cons_zero, List.set_cons_succ]
    refine wpAnyH_take (i := 5) (v := .agg AV) (by simp only [List.getElem?_toArray, List.getElem?_cons_succ, List.getElem?_cons_zero]; rfl) (by kernel_rfl) (by kernel_rfl) (by kernel_rfl) (by exact fun _ _ _ h => h) (Or.inl ⟨by rfl, ?_⟩) hS ?_
    · intro wz hSw
      exact exec_load 28 (.tmp 7) rfl ⟨w.heap.size, 0, none⟩ rfl _ wz hSw.2
    try simp only [Act.put, List.setIfInBounds_toArray, List.set_cons_zero, List.set_cons_succ]
    refine wpAnyH_take (i := 7) (v := .agg MV) (by simp only [List.getElem?_toArray, List.getElem?_cons_succ, List.getElem?_cons_zero]; rfl) (by kernel_rfl) (by kernel_rfl) (by kernel_rfl) (by exact fun _ _ _ h => h) (Or.inl ⟨by rfl, ?_⟩) hS ?_
    · intro wz hSw
      exact exec_load 28 (.tmp 9) rfl ⟨w2.heap.size, 0, none⟩ rfl _ wz hSw.1
    try simp only [Act.put, List.setIfInBounds_toArray, List.set_cons_zero, List.set_cons_succ]
    refine wpAnyH_take (i := 8) (v := .agg AV) (by simp only [List.getElem?_toArray, List.getElem?_cons_succ, List.getElem?_cons_zero]; rfl) (by kernel_rfl) (by kernel_rfl) (by kernel_rfl) (by exact fun _ _ _ h => h) (Or.inl ⟨by rfl, ?_⟩) hS ?_
    · intro wz hSw
      exact exec_load 28 (.tmp 7) rfl ⟨w.heap.size, 0, none⟩ rfl _ wz hSw.2
    try simp only [Act.put, List.setIfInBounds_toArray, List.set_cons_zero, List.set_cons_succ]
    refine wpAnyH_take (i := 9) (v := .bool r) (by simp only [List.getElem?_toArray, List.getElem?_cons_succ, List.getElem?_cons_zero]; rfl) (by kernel_rfl) (by kernel_rfl) (by kernel_rfl) (by exact fun _ _ _ h => h) (Or.inl ⟨by rfl, ?_⟩) hS ?_
    · intro wz hSw
      exact exec_eql (.tmp 63) (.tmp 64) rfl MV AV rfl rfl _ wz (HEB.out wz)
    try simp only [Act.put, List.setIfInBounds_toArray, List.set_cons_zero, List.set_cons_succ]
    refine wpAnyH_ready (rs := [6]) (by kernel_rfl) (by simp) ?_
    refine AllReadyH.cons (by simp only [List.getElem?_toArray, List.getElem?_cons_succ, List.getElem?_cons_zero]; rfl) (fun K hK => ?_) AllReadyH.nil
    go_simp
    go_at_call 18
    refine (HEA.out _).mono ?_
    rintro e wq2 ⟨rfl, bq⟩
    have M9 := Lib.hid (M8.out.below bq M8.out.lt)
    have A9 := Lib.hid (A8.out.below bq A8.out.lt)
    have B9 := Lib.hid (B8.out.trans (bq.mono B8.out.size))
    clear bq
    refine hK.out _ _ ⟨loadOf M9.out zM.out, loadOf A9.out zA.out⟩ (fun hS => ?_)
    clear hK K
    try simp only [Act.put, List.setIfInBounds_toArray, List.set_cons_zero, List.set_cons_succ]
    refine wpAnyH_take (i := 10) (v := ?_) (by simp only [List.getElem?_toArray, List.getElem?_cons_succ, List.getElem?_cons_zero]; rfl) (by kernel_rfl) (by kernel_rfl) (by kernel_rfl) (by exact fun _ _ _ h => h) (Or.inl ⟨by rfl, ?_⟩) hS ?_
    rotate_left
    · intro w hSw
      go_simp
      try with_reducible rfl
    try simp only [Act.put, List.setIfInBounds_toArray, List.set_cons_zero, List.set_cons_succ]
    refine wpAnyH_take (i := 11) (v := ?_) (by simp only [List.getElem?_toArray, List.getElem?_cons_succ, List.getElem?_cons_zero]; rfl) (by kernel_rfl) (by kernel_rfl) (by kernel_rfl) (by exact fun _ _ _ h => h) (Or.inl ⟨by rfl, ?_⟩) hS ?_
    rotate_left
    · intro w hSw
      go_simp
      try with_reducible rfl
    try simp only [Act.put, List.setIfInBounds_toArray, List.set_cons_zero, List.set_cons_succ]
    refine wpAnyH_take (i := 12) (v := ?_) (by simp only [List.getElem?_toArray, List.getElem?_cons_succ, List.getElem?_cons_zero]; rfl) (by kernel_rfl) (by kernel_rfl) (by kernel_rfl) (by exact fun _ _ _ h => h) (Or.inl ⟨by rfl, ?_⟩) hS ?_
    rotate_left
    · intro w hSw
      go_simp
      try with_reducible rfl
    try simp only [Act.put, List.setIfInBounds_toArray, List.set_cons_zero, List.set_cons_succ]
    refine wpAnyH_done (by kernel_rfl) ?_ _
    go_wp2_with fail
    go_ret
    exact ⟨by simp, B9.out⟩

end Go.Proofs.YtlfohiejlajmaaaDoor.ShV3
