/- The law of digests that go on. -/
import Derived.Test.YtlfohiejlajmaaaDoorRfJ
namespace Go.Proofs.YtlfohiejlajmaaaDoor.RfK
open Go.ChangeShapes Go.WideShapes Go.ChangeAt Go.RowKit
open ShM ShA ShB ShC ShD ShE ShF ShG ShH ShI ShJ ShK ShL ShN ShO ShP ShS RfF RfG RfH RfJ Mem
open ShT (Rd vals vals_length vals_one)
set_option linter.unusedVariables false
set_option maxHeartbeats 20000000

set_option maxRecDepth 100000 in
theorem goesOn (key : List ShM.B8) (ak : Option Addr) (nk ck : Nat) (kd : Bool) (ps : List (List ShM.B8)) (a : Option Addr) (n c : Nat) (ar : Option Addr) (nr cr : Nat) (w : World) (hl : Laid w) (hnk : key.length = nk) (hk : ShN.One w (.slice ak nk ck) key) (hn : ps.length = n) (ha : Arg w a ps) (hr : Bools w ar nr) (hnr : nr ≤ 2000000) (hb : ps.flatten.length ≤ 1500000) (hnm : n ≤ 2000000) :
    Calls Tryd.prog 4 #[.slice ak nk ck, .bool kd, .slice a n c, .slice ar nr cr] w fun e w' => e = .returned (.bool true) ∧ Below w.heap.size w w' := by
  have hw2 := Lib.hid (Laid.two hl)
  have HKN := Lib.hid (knownW w hl)
  have HJ := Lib.hid (fun w' (hbb : Below w.heap.size w w') => joinedW ps a n c w' hn (ha.below hbb) hb hnm)
  have HNEW : Hid (∀ w', Below w.heap.size w w' → Calls Tryd.prog 13 #[] w' fun e w'' => ∃ g, w'.heap.size ≤ g ∧ e = .returned (.pointer (some ⟨g, 0, none⟩)) ∧ Dd w'' g none [] ∧ Below w'.heap.size w' w'') := Lib.hid fun w' hb => newDd w' (hl.below hb)
  have HKEY : Hid (∀ w', Below w.heap.size w w' → Calls Tryd.prog 14 #[.slice ak nk ck] w' fun e w'' => ∃ g, w'.heap.size ≤ g ∧ e = .returned (.pointer (some ⟨g, 0, none⟩)) ∧ Dd w'' g (some (wk key)) [] ∧ Below w'.heap.size w' w'') := Lib.hid fun w' hb => ShR.keyedW key ak nk ck w' (hl.below hb) hnk (hk.below hb)
  have HRST := Lib.hid resetDd
  have HWR : Hid (∀ g K m l a n c w', Below w.heap.size w w' → w.heap.size ≤ g → Dd w' g K m → ShN.One w (.slice a n c) l → Calls Tryd.prog 16 #[.pointer (some ⟨g, 0, none⟩), .slice a n c] w' fun e w'' => e = .returned (.tuple #[.int .i64 (n : Int), .nilIface]) ∧ Dd w'' g K (m ++ l) ∧ w'.grownBy w'' (some g)) := Lib.hid fun g K m l a n c w' hb hg hd h1 => by
    obtain ⟨hs, e1, e2, e3⟩ := ShY.One.sr h1 hb hg
    exact writeDd g K m l a n c w' (hl.below hb) (by have := hw2.out; omega) hd e1 hs e2 e3
  have HSUM : Hid (∀ g K m w', Below w.heap.size w w' → Dd w' g K m → Calls Tryd.prog 17 #[.pointer (some ⟨g, 0, none⟩)] w' fun e w'' => e = .returned (.agg (b32 (dig K m))) ∧ Below w'.heap.size w' w'') := Lib.hid fun g K m w' hb hd => sumW g K m w' (hl.below hb) hd
  have HRS : Hid (∀ (m : List ShM.B8) N a' c' w', ShT.Own w' w.heap.size (.slice a' N c') m → N ≤ 4096 → Calls Tryd.prog 10 #[.slice a' N c'] w' fun e w'' => e = .returned (.agg (b32 (dig none m))) ∧ Below w'.heap.size w' w'') := Lib.hid fun m N a' c' w' h1 h2 => refSum m a' N c' w' (ShT.Own.rd h1).2.1 (one_own h1) (by omega)
  have HRM : Hid (∀ (m : List ShM.B8) N a' c' w', Below w.heap.size w w' → nk ≤ 4096 → ShT.Own w' w.heap.size (.slice a' N c') m → N ≤ 4096 → Calls Tryd.prog 12 #[.slice ak nk ck, .slice a' N c'] w' fun e w'' => e = .returned (.agg (b32 (dig (some (wk key)) m))) ∧ Below w'.heap.size w' w'') := Lib.hid fun m N a' c' w' hbb h0 h1 h2 => refMac key m ak nk ck a' N c' w' hnk (hk.below hbb) (ShT.Own.rd h1).2.1 (one_own h1) (by omega) (by omega)
  have HP : Hid (∀ i, i < n → ∃ b off ax nx cx, a = some ⟨b, off, none⟩ ∧ (∀ w', Below w.heap.size w w' → w'.cell? ⟨b, off + i, none⟩ = some (.slice ax nx cx)) ∧ (ps.getD i []).length = nx ∧ ShN.One w (.slice ax nx cx) (ps.getD i []) ∧ ∀ w', Below w.heap.size w w' → Rd w' ax (ps.getD i [])) := Lib.hid fun i hi => by
    obtain ⟨b, off, u, e, hc, hl', h⟩ := ha i (by omega)
    have h' := h
    obtain ⟨ax, cx, rfl, hr, h1, h2, h3⟩ := h'
    exact ⟨b, off, ax, _, cx, e, fun w' hbb => (hbb.cell (p := ⟨b, off + i, none⟩) hl').trans hc, rfl, h, fun w' hbb => ShT.Rd.below hr hbb h3⟩
  have HR : Hid (∀ i, i < nr → ∃ b off r, ar = some ⟨b, off, none⟩ ∧ ∀ w', Below w.heap.size w w' → w'.cell? ⟨b, off + i, none⟩ = some (.bool r)) := Lib.hid fun i hi => by
    obtain ⟨b, off, r, e, hc, hl'⟩ := hr i hi
    exact ⟨b, off, r, e, fun w' hbb => (hbb.cell (p := ⟨b, off + i, none⟩) hl').trans hc⟩
  have HFT := Lib.hid (fun i (h : i < n) => flat_take ps i (by omega))
  have HFL := Lib.hid (fun i => flat_le ps i)
  have HJP : Hid (∀ e w', JPost ps n e w' → ∃ v ok, e = .returned (.tuple #[v, .bool ok]) ∧ (ok = true → ps.flatten.length ≤ 4096)) := Lib.hid fun e w' h => by
    obtain ⟨v, ok, h1, h2⟩ := h
    exact ⟨v, ok, h1, fun h => by obtain ⟨_, _, _, _, h, _⟩ := h2 h; exact h⟩
  have hkm : nk ≤ 9223372036854775807 := by
    obtain ⟨_, _, e, _, h1, h2, _⟩ := hk
    injection e with _ e2 e3
    simp only [maxLen] at h2; omega
  clear hl hk ha hn hnk hb hr
  go_enter Tryd.func4, Tryd.ntmps4
  go_wp2_with fail
  refine HKN.out.mono ?_
  rintro e w1 ⟨rfl, b1⟩
  have B1 := Lib.hid b1
  clear b1
  go_wp2_with fail
  refine (HJ.out w1 B1.out).mono ?_
  rintro e w2 ⟨hJP, b2⟩
  obtain ⟨v, ok, rfl, hok⟩ := HJP.out e w2 hJP
  have B2 := Lib.hid (B1.out.trans (b2.mono B1.out.size))
  clear b2 hJP
  cases ok with
  | false =>
    clear hok
    go_wp2_with fail
    go_ret
    exact ⟨rfl, B2.out⟩
  | true =>
    have hT := Lib.hid (hok rfl)
    clear hok
    by_cases hbig : 4096 < nk
    · have hbig' : (4096 : Int) < (nk : Int) := by omega
      go_wp2_with fail
      go_ret
      exact ⟨rfl, B2.out⟩
    · have hbig' : ¬ (4096 : Int) < (nk : Int) := by omega
      have hnk4 : Hid (nk ≤ 4096) := Lib.hid (by omega)
      clear hkm hbig
      by_cases hbn : 40 < n
      · have hbn' : (40 : Int) < (n : Int) := by omega
        go_wp2_with fail
        go_ret
        exact ⟨rfl, B2.out⟩
      · have hbn' : ¬ (40 : Int) < (n : Int) := by omega
        cases kd with
        | false =>
          obtain ⟨Z, hZ⟩ : ∃ Z, Z = b32 [] := ⟨_, rfl⟩
          replace hZ := Lib.hid hZ
          go_wp2_with fail
          refine (HNEW.out w2 B2.out).mono ?_
          rintro e w3 ⟨g, hg, rfl, hd, b3⟩
          have B3 := Lib.hid (B2.out.trans (b3.mono B2.out.size))
          have gw : Hid (w.heap.size ≤ g) := Lib.hid (by have := B2.out.size; omega)
          have hbw : Hid (w.heap.size ≤ w3.heap.size) := Lib.hid B3.out.size
          clear hg b3
          have gb : Hid (g < w3.heap.size) := Lib.hid hd.lt
          have DI := Lib.hid hd
          clear hd
          go_wp2_with fail
          go_loopw [12, 13, 14, 15, 16] (fun v12 v13 _ _ _ wr => ∃ (i N : Nat) (m : List ShM.B8) (a1 : Option Addr) (c1 : Nat), i ≤ n ∧ m.length = N ∧ N ≤ ((ps.take i).flatten).length ∧ v13 = .int .i64 (i : Int) ∧ v12 = .slice a1 N c1 ∧ ShT.Own wr w3.heap.size (.slice a1 N c1) m ∧ Dd wr g none m ∧ Below w.heap.size w wr ∧ w3.heap.size ≤ wr.heap.size) (fun _ v13 _ _ _ _ => 50 - (intOf v13).toNat)
          case atStart => exact ⟨0, 0, [], none, 0, by omega, rfl, by omega, rfl, rfl, ShT.Own.nil _ _, DI.out, B3.out, Nat.le_refl _⟩
          case round =>
            clear DI
            obtain ⟨i, N, m, a1, c1, hi, hml, hNle, rfl, rfl, hO, hD, hB, hsz⟩ := hrel
            by_cases hlt : i < n
            · have hlt' : (i : Int) < (n : Int) := by omega
              obtain ⟨b, off, ax, nx, cx, rfl, hcell, hnx, hone, hrd⟩ := HP.out i hlt
              replace hcell : ∀ w', Below w.heap.size w w' → w'.cell? ⟨b, off + i, none⟩ = some (.slice ax nx cx) := hcell
              replace hnx := Lib.hid hnx
              replace hone := Lib.hid hone
              replace hrd := Lib.hid hrd
              have OO := Lib.hid hO
              have DD := Lib.hid hD
              have DB := Lib.hid hB
              have SZ := Lib.hid hsz
              clear hO hD hB hsz
              by_cases hir : i < nr
              · have hir' : (i : Int) < (nr : Int) := by omega
                obtain ⟨rb, ro, r, rfl, hrc⟩ := HR.out i hir
                have rc4 := hrc wr DB.out
                clear hrc
                cases r with
                | true =>
                  clear hml hNle
                  go_wp2_with fail
                  refine (HRST.out g none m wr DD.out).mono ?_
                  rintro e wv ⟨rfl, hdv, hgv⟩
                  have DV := Lib.hid hdv
                  have BV := Lib.hid (Below.gb DB.out hgv gw.out DB.out.size)
                  have SV := Lib.hid (Nat.le_trans SZ.out hgv.size)
                  have OV := Lib.hid (ShT.Own.nil wv w3.heap.size)
                  have hml : Hid (([] : List ShM.B8).length = 0) := Lib.hid rfl
                  have hNle : Hid (0 ≤ ((ps.take i).flatten).length) := Lib.hid (Nat.zero_le _)
                  clear hdv hgv rc4
                  have pc4 := hcell wv BV.out
                  go_wp2_with fail
                  refine (HWR.out g none [] (ps.getD i []) ax nx cx wv BV.out gw.out DV.out hone.out).mono ?_
                  rintro e w5 ⟨rfl, hd5, hg5⟩
                  clear pc4
                  have D5 : Hid (Dd w5 g none (ps.getD i [])) := Lib.hid hd5
                  have O5 := Lib.hid (own_gb OV.out hg5 (fun q e1 e2 => by have h1 := (OV.out.blocks q e1).1; injection e2 with e2; have := gb.out; omega))
                  have B5 := Lib.hid (Below.gb BV.out hg5 gw.out BV.out.size)
                  have S5 := Lib.hid (Nat.le_trans SV.out hg5.size)
                  have rd5 := Lib.hid (hrd.out w5 B5.out)
                  clear hd5 hg5
                  have pc5 := hcell w5 B5.out
                  have hlen : Hid ((ps.getD i []).length = nx) := Lib.hid (by first | exact hnx.out | rw [List.length_append, hnx.out, hml.out])
                  have hroom : Hid (nx ≤ 4096 ∧ nx ≤ ((ps.take (i + 1)).flatten).length) := Lib.hid (by
                    have h5 := HFL.out (i + 1)
                    have h6 := HFT.out i hlt
                    have h7 := hT.out
                    have h8 := hNle.out
                    rw [← h6, List.length_append, hnx.out] at h5 ⊢
                    omega)
                  go_wp2_with (at_builtin; refine RfH.wpList_app2 rfl (.tmp 69) (.tmp 73) rfl w3.heap.size (.slice none 0 0) [] rfl O5.out ax (ps.getD i []) nx cx rfl hnx.out rd5.out (ps.getD i []) nx rfl hlen.out (by have := hroom.out; omega) S5.out ?_; intro a2 c2 w6 hO6 hg6)
                  clear pc5
                  have hne6 : ∀ k, (Value.slice none 0 0).ownBlock = some k → w3.heap.size ≤ k := fun k e => (O5.out.blocks k e).1
                  have D6 := Lib.hid (ShY.Dd.gb D5.out hg6 (fun e => by have := hne6 _ e; have := gb.out; omega))
                  have B6 := Lib.hid (B5.out.grown hg6 B5.out.size (fun k e => by have := hne6 k e; have := hbw.out; omega))
                  have O6 := Lib.hid hO6
                  have S6 := Lib.hid (Nat.le_trans S5.out hg6.size)
                  clear hO6 hg6 hne6 D5 O5 B5 S5 rd5
                  go_wp2_with fail
                  refine (HRS.out _ nx a2 c2 w6 (own_base O6.out hbw.out) hroom.out.1).mono ?_
                  rintro e w7 ⟨rfl, b7⟩
                  have D7 := Lib.hid (D6.out.below b7 D6.out.lt)
                  have O7 := Lib.hid (own_below O6.out b7)
                  have B7 := Lib.hid (B6.out.trans (b7.mono B6.out.size))
                  have S7 := Lib.hid (Nat.le_trans S6.out b7.size)
                  obtain ⟨RV, hRV⟩ : ∃ RV, RV = b32 (dig none (ps.getD i [])) := ⟨_, rfl⟩
                  rw [← hRV]
                  have iR : Hid ((Tryd.prog.info? 27).map (·.size) = some RV.size) := Lib.hid (by rw [hRV, b32_size]; exact i27)
                  have sR : Hid (Z.size = RV.size) := Lib.hid (by rw [hRV, hZ.out, b32_size, b32_size])
                  have oR : Hid (RV.all (·.oneCell') = true) := Lib.hid (by rw [hRV]; exact b32_one _)
                  clear b7 D6 O6 B6 S6
                  replace hRV := Lib.hid hRV
                  go_wp2_with (first
                    | ((with_reducible show wpList _ _ _ (Oper.mk (some 16) (Op.alloc 27) _ _ _ _ :: _) _ _); refine RfF.alloc27 rfl rfl Z hZ.out ?_; intro w8 hB8 hb8 hn8; clear hn8)
                    | ((with_reducible show wpList _ _ _ (Oper.mk _ (Op.store 27 (.tmp 16) (.tmp 76)) _ _ _ _ :: _) _ _); refine Mem.storeBlk 27 (.tmp 16) (.tmp 76) rfl w7.heap.size rfl Z RV rfl 27 hB8 iR.out sR.out oR.out w7.heap.size w7 hb8 (Nat.le_refl _) rfl ?_; intro w9 hB9 hb9
                       have Q9 := Lib.hid hB9
                       have L9 := Lib.hid hb9
                       have X9 := Lib.hid (B7.out.trans (hb9.mono B7.out.size))
                       clear hB8 hb8 hB9 hb9))
                  have HNM : Hid (∀ w, (binOp .neq 27 (.agg RV) (.agg RV)).run Tryd.prog w = .ok (.bool false) w) := Lib.hid (by rw [hRV.out]; exact neqSame27 _)
                  have HSM : Hid (∀ w', Below w7.heap.size w7 w' → Calls Tryd.prog 17 #[.pointer (some ⟨g, 0, none⟩)] w' fun e w'' => e = .returned (.agg RV) ∧ Below w'.heap.size w' w'') := Lib.hid fun w' hbb => by
                    rw [hRV.out]
                    exact HSUM.out g none _ w' (B7.out.trans (hbb.mono B7.out.size)) (D7.out.below hbb D7.out.lt)
                  have HCL : Hid (∀ w', Below w7.heap.size w7 w' → w'.cell? ⟨b, off + i, none⟩ = some (.slice ax nx cx)) := Lib.hid fun w' hbb => hcell w' (B7.out.trans (hbb.mono B7.out.size))
                  have Lq := Lib.hid L9.out.drew
                  have Qq := Lib.hid Q9.out.drew
                  clear L9 Q9
                  refine wp_region_held_drew (S := fun w' => w'.cell? ⟨b, off + i, none⟩ = some (.slice ax nx cx) ∧ (loadVar 27 ⟨w7.heap.size, 0, none⟩).run Tryd.prog w' = .ok (.agg RV) w') (by kernel_rfl) ⟨HCL.out _ Lq.out, loadOf27 Qq.out iR.out⟩ (fun hS => ?_)
                  try simp only [List.size_toArray, List.length_cons, List.length_nil, Nat.reduceAdd]
                  refine wpAnyH_take (i := 0) (v := ?_) (by simp only [List.getElem?_toArray, List.getElem?_cons_zero]; rfl) (by kernel_rfl) (by kernel_rfl) (by kernel_rfl) (by exact fun _ _ _ h => h) (Or.inl ⟨by rfl, ?_⟩) hS ?_
                  rotate_left
                  · intro w hSw
                    go_simp
                    try with_reducible rfl
                  try simp only [Act.put, List.setIfInBounds_toArray, List.set_cons_zero, List.set_cons_succ]
                  refine wpAnyH_take (i := 1) (v := ?_) (by simp only [List.getElem?_toArray, List.getElem?_cons_succ, List.getElem?_cons_zero]; rfl) (by kernel_rfl) (by kernel_rfl) (by kernel_rfl) (by exact fun _ _ _ h => h) (Or.inl ⟨by rfl, ?_⟩) hS ?_
                  rotate_left
                  · intro w hSw
                    go_simp
                    try with_reducible rfl
                  try simp only [Act.put, List.setIfInBounds_toArray, List.set_cons_zero, List.set_cons_succ]
                  refine wpAnyH_take (i := 2) (v := ?_) (by simp only [List.getElem?_toArray, List.getElem?_cons_succ, List.getElem?_cons_zero]; rfl) (by kernel_rfl) (by kernel_rfl) (by kernel_rfl) (by exact fun _ _ _ h => h) (Or.inl ⟨by rfl, ?_⟩) hS ?_
                  rotate_left
                  · intro w hSw
                    go_simp
                    try with_reducible rfl
                  try simp only [Act.put, List.setIfInBounds_toArray, List.set_cons_zero, List.set_cons_succ]
                  refine wpAnyH_take (i := 3) (v := ?_) (by simp only [List.getElem?_toArray, List.getElem?_cons_succ, List.getElem?_cons_zero]; rfl) (by kernel_rfl) (by kernel_rfl) (by kernel_rfl) (by exact fun _ _ _ h => h) (Or.inl ⟨by rfl, ?_⟩) hS ?_
                  rotate_left
                  · intro w hSw
                    go_simp
                    try with_reducible rfl
                  try simp only [Act.put, List.setIfInBounds_toArray, List.set_cons_zero, List.set_cons_succ]
                  refine wpAnyH_take (i := 4) (v := ?_) (by simp only [List.getElem?_toArray, List.getElem?_cons_succ, List.getElem?_cons_zero]; rfl) (by kernel_rfl) (by kernel_rfl) (by kernel_rfl) (by exact fun _ _ _ h => h) (Or.inl ⟨by rfl, ?_⟩) hS ?_
                  rotate_left
                  · intro w hSw
                    have hcl := hSw.1
                    go_simp
                    try with_reducible rfl
                  try simp only [Act.put, List.setIfInBounds_toArray, List.set_cons_zero, List.set_cons_succ]
                  refine wpAnyH_take (i := 5) (v := ?_) (by simp only [List.getElem?_toArray, List.getElem?_cons_succ, List.getElem?_cons_zero]; rfl) (by kernel_rfl) (by kernel_rfl) (by kernel_rfl) (by exact fun _ _ _ h => h) (Or.inl ⟨by rfl, ?_⟩) hS ?_
                  rotate_left
                  · intro w hSw
                    go_simp
                    try with_reducible rfl
                  try simp only [Act.put, List.setIfInBounds_toArray, List.set_cons_zero, List.set_cons_succ]
                  refine wpAnyH_take (i := 6) (v := ?_) (by simp only [List.getElem?_toArray, List.getElem?_cons_succ, List.getElem?_cons_zero]; rfl) (by kernel_rfl) (by kernel_rfl) (by kernel_rfl) (by exact fun _ _ _ h => h) (Or.inl ⟨by rfl, ?_⟩) hS ?_
                  rotate_left
                  · intro w hSw
                    go_simp
                    try with_reducible rfl
                  try simp only [Act.put, List.setIfInBounds_toArray, List.set_cons_zero, List.set_cons_succ]
                  refine wpAnyH_take (i := 7) (v := ?_) (by simp only [List.getElem?_toArray, List.getElem?_cons_succ, List.getElem?_cons_zero]; rfl) (by kernel_rfl) (by kernel_rfl) (by kernel_rfl) (by exact fun _ _ _ h => h) (Or.inl ⟨by rfl, ?_⟩) hS ?_
                  rotate_left
                  · intro w hSw
                    go_simp
                    try with_reducible rfl
                  try simp only [Act.put, List.setIfInBounds_toArray, List.set_cons_zero, List.set_cons_succ]
                  refine wpAnyH_take (i := 8) (v := ?_) (by simp only [List.getElem?_toArray, List.getElem?_cons_succ, List.getElem?_cons_zero]; rfl) (by kernel_rfl) (by kernel_rfl) (by kernel_rfl) (by exact fun _ _ _ h => h) (Or.inl ⟨by rfl, ?_⟩) hS ?_
                  rotate_left
                  · intro w hSw
                    go_simp
                    try with_reducible rfl
                  try simp only [Act.put, List.setIfInBounds_toArray, List.set_cons_zero, List.set_cons_succ]
                  refine wpAnyH_take (i := 9) (v := ?_) (by simp only [List.getElem?_toArray, List.getElem?_cons_succ, List.getElem?_cons_zero]; rfl) (by kernel_rfl) (by kernel_rfl) (by kernel_rfl) (by exact fun _ _ _ h => h) (Or.inl ⟨by rfl, ?_⟩) hS ?_
                  rotate_left
                  · intro w hSw
                    go_simp
                    try with_reducible rfl
                  try simp only [Act.put, List.setIfInBounds_toArray, List.set_cons_zero, List.set_cons_succ]
                  refine wpAnyH_take (i := 10) (v := ?_) (by simp only [List.getElem?_toArray, List.getElem?_cons_succ, List.getElem?_cons_zero]; rfl) (by kernel_rfl) (by kernel_rfl) (by kernel_rfl) (by exact fun _ _ _ h => h) (Or.inl ⟨by rfl, ?_⟩) hS ?_
                  rotate_left
                  · intro w hSw
                    go_simp
                    try with_reducible rfl
                  try simp only [Act.put, List.setIfInBounds_toArray, List.set_cons_zero, List.set_cons_succ]
                  refine wpAnyH_take (i := 11) (v := ?_) (by simp only [List.getElem?_toArray, List.getElem?_cons_succ, List.getElem?_cons_zero]; rfl) (by kernel_rfl) (by kernel_rfl) (by kernel_rfl) (by exact fun _ _ _ h => h) (Or.inl ⟨by rfl, ?_⟩) hS ?_
                  rotate_left
                  · intro w hSw
                    go_simp
                    try with_reducible rfl
                  try simp only [Act.put, List.setIfInBounds_toArray, List.set_cons_zero, List.set_cons_succ]
                  refine wpAnyH_take (i := 12) (v := ?_) (by simp only [List.getElem?_toArray, List.getElem?_cons_succ, List.getElem?_cons_zero]; rfl) (by kernel_rfl) (by kernel_rfl) (by kernel_rfl) (by exact fun _ _ _ h => h) (Or.inl ⟨by rfl, ?_⟩) hS ?_
                  rotate_left
                  · intro w hSw
                    go_simp
                    try with_reducible rfl
                  try simp only [Act.put, List.setIfInBounds_toArray, List.set_cons_zero, List.set_cons_succ]
                  refine wpAnyH_take (i := 14) (v := .agg RV) (by simp only [List.getElem?_toArray, List.getElem?_cons_succ, List.getElem?_cons_zero]; rfl) (by kernel_rfl) (by kernel_rfl) (by kernel_rfl) (by exact fun _ _ _ h => h) (Or.inl ⟨by rfl, ?_⟩) hS ?_
                  · intro wz hSw
                    exact ShU.exec_load 27 (.tmp 16) rfl ⟨w7.heap.size, 0, none⟩ rfl _ wz hSw.2
                  try simp only [Act.put, List.setIfInBounds_toArray, List.set_cons_zero, List.set_cons_succ]
                  refine wpAnyH_ready (rs := [13]) (by kernel_rfl) (by simp) ?_
                  refine AllReadyH.cons (by simp only [List.getElem?_toArray, List.getElem?_cons_succ, List.getElem?_cons_zero]; rfl) (fun K hK => ?_) AllReadyH.nil
                  go_simp
                  go_at_call 17
                  refine (HSM.out _ Lq.out).mono ?_
                  rintro e wq ⟨rfl, bq⟩
                  have L12 := Lib.hid (Lq.out.trans (bq.mono Lq.out.size))
                  have Q12 := Lib.hid (Qq.out.below bq Qq.out.lt)
                  clear bq Lq Qq
                  refine hK.out _ _ ⟨HCL.out _ L12.out, loadOf27 Q12.out iR.out⟩ (fun hS => ?_)
                  clear hK K
                  try simp only [Act.put, List.setIfInBounds_toArray, List.set_cons_zero, List.set_cons_succ]
                  refine wpAnyH_take (i := 15) (v := .bool false) (by simp only [List.getElem?_toArray, List.getElem?_cons_succ, List.getElem?_cons_zero]; rfl) (by kernel_rfl) (by kernel_rfl) (by kernel_rfl) (by exact fun _ _ _ h => h) (Or.inl ⟨by rfl, ?_⟩) hS ?_
                  · intro wz hSw
                    exact exec_neq27 (.tmp 94) (.tmp 95) rfl RV RV rfl rfl _ wz (HNM.out wz)
                  try simp only [Act.put, List.setIfInBounds_toArray, List.set_cons_zero, List.set_cons_succ]
                  refine wpAnyH_take (i := 16) (v := ?_) (by simp only [List.getElem?_toArray, List.getElem?_cons_succ, List.getElem?_cons_zero]; rfl) (by kernel_rfl) (by kernel_rfl) (by kernel_rfl) (by exact fun _ _ _ h => h) (Or.inl ⟨by rfl, ?_⟩) hS ?_
                  rotate_left
                  · intro w hSw
                    go_simp
                    try with_reducible rfl
                  try simp only [Act.put, List.setIfInBounds_toArray, List.set_cons_zero, List.set_cons_succ]
                  refine wpAnyH_take (i := 17) (v := ?_) (by simp only [List.getElem?_toArray, List.getElem?_cons_succ, List.getElem?_cons_zero]; rfl) (by kernel_rfl) (by kernel_rfl) (by kernel_rfl) (by exact fun _ _ _ h => h) (Or.inl ⟨by rfl, ?_⟩) hS ?_
                  rotate_left
                  · intro w hSw
                    go_simp
                    try with_reducible rfl
                  try simp only [Act.put, List.setIfInBounds_toArray, List.set_cons_zero, List.set_cons_succ]
                  refine wpAnyH_take (i := 18) (v := ?_) (by simp only [List.getElem?_toArray, List.getElem?_cons_succ, List.getElem?_cons_zero]; rfl) (by kernel_rfl) (by kernel_rfl) (by kernel_rfl) (by exact fun _ _ _ h => h) (Or.inl ⟨by rfl, ?_⟩) hS ?_
                  rotate_left
                  · intro w hSw
                    go_simp
                    try with_reducible rfl
                  try simp only [Act.put, List.setIfInBounds_toArray, List.set_cons_zero, List.set_cons_succ]
                  refine wpAnyH_take (i := 20) (v := .agg RV) (by simp only [List.getElem?_toArray, List.getElem?_cons_succ, List.getElem?_cons_zero]; rfl) (by kernel_rfl) (by kernel_rfl) (by kernel_rfl) (by exact fun _ _ _ h => h) (Or.inl ⟨by rfl, ?_⟩) hS ?_
                  · intro wz hSw
                    exact ShU.exec_load 27 (.tmp 16) rfl ⟨w7.heap.size, 0, none⟩ rfl _ wz hSw.2
                  try simp only [Act.put, List.setIfInBounds_toArray, List.set_cons_zero, List.set_cons_succ]
                  refine wpAnyH_ready (rs := [19]) (by kernel_rfl) (by simp) ?_
                  refine AllReadyH.cons (by simp only [List.getElem?_toArray, List.getElem?_cons_succ, List.getElem?_cons_zero]; rfl) (fun K hK => ?_) AllReadyH.nil
                  go_simp
                  go_at_call 17
                  refine (HSM.out _ L12.out).mono ?_
                  rintro e wr2 ⟨rfl, bq⟩
                  have L13 := Lib.hid (L12.out.trans (bq.mono L12.out.size))
                  have Q13 := Lib.hid (Q12.out.below bq Q12.out.lt)
                  clear bq L12 Q12
                  refine hK.out _ _ ⟨HCL.out _ L13.out, loadOf27 Q13.out iR.out⟩ (fun hS => ?_)
                  clear hK K
                  try simp only [Act.put, List.setIfInBounds_toArray, List.set_cons_zero, List.set_cons_succ]
                  refine wpAnyH_take (i := 21) (v := .bool false) (by simp only [List.getElem?_toArray, List.getElem?_cons_succ, List.getElem?_cons_zero]; rfl) (by kernel_rfl) (by kernel_rfl) (by kernel_rfl) (by exact fun _ _ _ h => h) (Or.inl ⟨by rfl, ?_⟩) hS ?_
                  · intro wz hSw
                    exact exec_neq27 (.tmp 100) (.tmp 101) rfl RV RV rfl rfl _ wz (HNM.out wz)
                  try simp only [Act.put, List.setIfInBounds_toArray, List.set_cons_zero, List.set_cons_succ]
                  refine wpAnyH_take (i := 22) (v := ?_) (by simp only [List.getElem?_toArray, List.getElem?_cons_succ, List.getElem?_cons_zero]; rfl) (by kernel_rfl) (by kernel_rfl) (by kernel_rfl) (by exact fun _ _ _ h => h) (Or.inl ⟨by rfl, ?_⟩) hS ?_
                  rotate_left
                  · intro w hSw
                    go_simp
                    try with_reducible rfl
                  try simp only [Act.put, List.setIfInBounds_toArray, List.set_cons_zero, List.set_cons_succ]
                  refine wpAnyH_done (by kernel_rfl) ?_ _
                  have D14 := Lib.hid (D7.out.below L13.out D7.out.lt)
                  have O14 := Lib.hid (own_below O7.out L13.out)
                  have B14 := Lib.hid (B7.out.trans (L13.out.mono B7.out.size))
                  have S14 := Lib.hid (Nat.le_trans S7.out L13.out.size)
                  go_wp2_with fail
                  go_roundw
                  case rel => exact ⟨i + 1, nx, (ps.getD i []), a2, c2, by omega, hlen.out, hroom.out.2, by go_num, rfl, O14.out, D14.out, B14.out, S14.out⟩
                  case measure => simp [intOf]; omega
                | false =>
                  replace hml := Lib.hid hml
                  replace hNle := Lib.hid hNle
                  have pc4 := hcell wr DB.out
                  go_wp2_with fail
                  refine (HWR.out g none m (ps.getD i []) ax nx cx wr DB.out gw.out DD.out hone.out).mono ?_
                  rintro e w5 ⟨rfl, hd5, hg5⟩
                  clear pc4
                  have D5 : Hid (Dd w5 g none (m ++ ps.getD i [])) := Lib.hid hd5
                  have O5 := Lib.hid (own_gb OO.out hg5 (fun q e1 e2 => by have h1 := (OO.out.blocks q e1).1; injection e2 with e2; have := gb.out; omega))
                  have B5 := Lib.hid (Below.gb DB.out hg5 gw.out DB.out.size)
                  have S5 := Lib.hid (Nat.le_trans SZ.out hg5.size)
                  have rd5 := Lib.hid (hrd.out w5 B5.out)
                  clear hd5 hg5
                  have pc5 := hcell w5 B5.out
                  have hlen : Hid ((m ++ ps.getD i []).length = (N + nx)) := Lib.hid (by first | exact hnx.out | rw [List.length_append, hnx.out, hml.out])
                  have hroom : Hid ((N + nx) ≤ 4096 ∧ (N + nx) ≤ ((ps.take (i + 1)).flatten).length) := Lib.hid (by
                    have h5 := HFL.out (i + 1)
                    have h6 := HFT.out i hlt
                    have h7 := hT.out
                    have h8 := hNle.out
                    rw [← h6, List.length_append, hnx.out] at h5 ⊢
                    omega)
                  go_wp2_with (at_builtin; refine RfH.wpList_app2 rfl (.tmp 69) (.tmp 73) rfl w3.heap.size (.slice a1 N c1) m rfl O5.out ax (ps.getD i []) nx cx rfl hnx.out rd5.out (m ++ ps.getD i []) (N + nx) rfl hlen.out (by have := hroom.out; omega) S5.out ?_; intro a2 c2 w6 hO6 hg6)
                  clear pc5
                  have hne6 : ∀ k, (Value.slice a1 N c1).ownBlock = some k → w3.heap.size ≤ k := fun k e => (O5.out.blocks k e).1
                  have D6 := Lib.hid (ShY.Dd.gb D5.out hg6 (fun e => by have := hne6 _ e; have := gb.out; omega))
                  have B6 := Lib.hid (B5.out.grown hg6 B5.out.size (fun k e => by have := hne6 k e; have := hbw.out; omega))
                  have O6 := Lib.hid hO6
                  have S6 := Lib.hid (Nat.le_trans S5.out hg6.size)
                  clear hO6 hg6 hne6 D5 O5 B5 S5 rd5
                  go_wp2_with fail
                  refine (HRS.out _ (N + nx) a2 c2 w6 (own_base O6.out hbw.out) hroom.out.1).mono ?_
                  rintro e w7 ⟨rfl, b7⟩
                  have D7 := Lib.hid (D6.out.below b7 D6.out.lt)
                  have O7 := Lib.hid (own_below O6.out b7)
                  have B7 := Lib.hid (B6.out.trans (b7.mono B6.out.size))
                  have S7 := Lib.hid (Nat.le_trans S6.out b7.size)
                  obtain ⟨RV, hRV⟩ : ∃ RV, RV = b32 (dig none (m ++ ps.getD i [])) := ⟨_, rfl⟩
                  rw [← hRV]
                  have iR : Hid ((Tryd.prog.info? 27).map (·.size) = some RV.size) := Lib.hid (by rw [hRV, b32_size]; exact i27)
                  have sR : Hid (Z.size = RV.size) := Lib.hid (by rw [hRV, hZ.out, b32_size, b32_size])
                  have oR : Hid (RV.all (·.oneCell') = true) := Lib.hid (by rw [hRV]; exact b32_one _)
                  clear b7 D6 O6 B6 S6
                  replace hRV := Lib.hid hRV
                  go_wp2_with (first
                    | ((with_reducible show wpList _ _ _ (Oper.mk (some 16) (Op.alloc 27) _ _ _ _ :: _) _ _); refine RfF.alloc27 rfl rfl Z hZ.out ?_; intro w8 hB8 hb8 hn8; clear hn8)
                    | ((with_reducible show wpList _ _ _ (Oper.mk _ (Op.store 27 (.tmp 16) (.tmp 76)) _ _ _ _ :: _) _ _); refine Mem.storeBlk 27 (.tmp 16) (.tmp 76) rfl w7.heap.size rfl Z RV rfl 27 hB8 iR.out sR.out oR.out w7.heap.size w7 hb8 (Nat.le_refl _) rfl ?_; intro w9 hB9 hb9
                       have Q9 := Lib.hid hB9
                       have L9 := Lib.hid hb9
                       have X9 := Lib.hid (B7.out.trans (hb9.mono B7.out.size))
                       clear hB8 hb8 hB9 hb9))
                  have HNM : Hid (∀ w, (binOp .neq 27 (.agg RV) (.agg RV)).run Tryd.prog w = .ok (.bool false) w) := Lib.hid (by rw [hRV.out]; exact neqSame27 _)
                  have HSM : Hid (∀ w', Below w7.heap.size w7 w' → Calls Tryd.prog 17 #[.pointer (some ⟨g, 0, none⟩)] w' fun e w'' => e = .returned (.agg RV) ∧ Below w'.heap.size w' w'') := Lib.hid fun w' hbb => by
                    rw [hRV.out]
                    exact HSUM.out g none _ w' (B7.out.trans (hbb.mono B7.out.size)) (D7.out.below hbb D7.out.lt)
                  have HCL : Hid (∀ w', Below w7.heap.size w7 w' → w'.cell? ⟨b, off + i, none⟩ = some (.slice ax nx cx)) := Lib.hid fun w' hbb => hcell w' (B7.out.trans (hbb.mono B7.out.size))
                  have Lq := Lib.hid L9.out.drew
                  have Qq := Lib.hid Q9.out.drew
                  clear L9 Q9
                  refine wp_region_held_drew (S := fun w' => w'.cell? ⟨b, off + i, none⟩ = some (.slice ax nx cx) ∧ (loadVar 27 ⟨w7.heap.size, 0, none⟩).run Tryd.prog w' = .ok (.agg RV) w') (by kernel_rfl) ⟨HCL.out _ Lq.out, loadOf27 Qq.out iR.out⟩ (fun hS => ?_)
                  try simp only [List.size_toArray, List.length_cons, List.length_nil, Nat.reduceAdd]
                  refine wpAnyH_take (i := 0) (v := ?_) (by simp only [List.getElem?_toArray, List.getElem?_cons_zero]; rfl) (by kernel_rfl) (by kernel_rfl) (by kernel_rfl) (by exact fun _ _ _ h => h) (Or.inl ⟨by rfl, ?_⟩) hS ?_
                  rotate_left
                  · intro w hSw
                    go_simp
                    try with_reducible rfl
                  try simp only [Act.put, List.setIfInBounds_toArray, List.set_cons_zero, List.set_cons_succ]
                  refine wpAnyH_take (i := 1) (v := ?_) (by simp only [List.getElem?_toArray, List.getElem?_cons_succ, List.getElem?_cons_zero]; rfl) (by kernel_rfl) (by kernel_rfl) (by kernel_rfl) (by exact fun _ _ _ h => h) (Or.inl ⟨by rfl, ?_⟩) hS ?_
                  rotate_left
                  · intro w hSw
                    go_simp
                    try with_reducible rfl
                  try simp only [Act.put, List.setIfInBounds_toArray, List.set_cons_zero, List.set_cons_succ]
                  refine wpAnyH_take (i := 2) (v := ?_) (by simp only [List.getElem?_toArray, List.getElem?_cons_succ, List.getElem?_cons_zero]; rfl) (by kernel_rfl) (by kernel_rfl) (by kernel_rfl) (by exact fun _ _ _ h => h) (Or.inl ⟨by rfl, ?_⟩) hS ?_
                  rotate_left
                  · intro w hSw
                    go_simp
                    try with_reducible rfl
                  try simp only [Act.put, List.setIfInBounds_toArray, List.set_cons_zero, List.set_cons_succ]
                  refine wpAnyH_take (i := 3) (v := ?_) (by simp only [List.getElem?_toArray, List.getElem?_cons_succ, List.getElem?_cons_zero]; rfl) (by kernel_rfl) (by kernel_rfl) (by kernel_rfl) (by exact fun _ _ _ h => h) (Or.inl ⟨by rfl, ?_⟩) hS ?_
                  rotate_left
                  · intro w hSw
                    go_simp
                    try with_reducible rfl
                  try simp only [Act.put, List.setIfInBounds_toArray, List.set_cons_zero, List.set_cons_succ]
                  refine wpAnyH_take (i := 4) (v := ?_) (by simp only [List.getElem?_toArray, List.getElem?_cons_succ, List.getElem?_cons_zero]; rfl) (by kernel_rfl) (by kernel_rfl) (by kernel_rfl) (by exact fun _ _ _ h => h) (Or.inl ⟨by rfl, ?_⟩) hS ?_
                  rotate_left
                  · intro w hSw
                    have hcl := hSw.1
                    go_simp
                    try with_reducible rfl
                  try simp only [Act.put, List.setIfInBounds_toArray, List.set_cons_zero, List.set_cons_succ]
                  refine wpAnyH_take (i := 5) (v := ?_) (by simp only [List.getElem?_toArray, List.getElem?_cons_succ, List.getElem?_cons_zero]; rfl) (by kernel_rfl) (by kernel_rfl) (by kernel_rfl) (by exact fun _ _ _ h => h) (Or.inl ⟨by rfl, ?_⟩) hS ?_
                  rotate_left
                  · intro w hSw
                    go_simp
                    try with_reducible rfl
                  try simp only [Act.put, List.setIfInBounds_toArray, List.set_cons_zero, List.set_cons_succ]
                  refine wpAnyH_take (i := 6) (v := ?_) (by simp only [List.getElem?_toArray, List.getElem?_cons_succ, List.getElem?_cons_zero]; rfl) (by kernel_rfl) (by kernel_rfl) (by kernel_rfl) (by exact fun _ _ _ h => h) (Or.inl ⟨by rfl, ?_⟩) hS ?_
                  rotate_left
                  · intro w hSw
                    go_simp
                    try with_reducible rfl
                  try simp only [Act.put, List.setIfInBounds_toArray, List.set_cons_zero, List.set_cons_succ]
                  refine wpAnyH_take (i := 7) (v := ?_) (by simp only [List.getElem?_toArray, List.getElem?_cons_succ, List.getElem?_cons_zero]; rfl) (by kernel_rfl) (by kernel_rfl) (by kernel_rfl) (by exact fun _ _ _ h => h) (Or.inl ⟨by rfl, ?_⟩) hS ?_
                  rotate_left
                  · intro w hSw
                    go_simp
                    try with_reducible rfl
                  try simp only [Act.put, List.setIfInBounds_toArray, List.set_cons_zero, List.set_cons_succ]
                  refine wpAnyH_take (i := 8) (v := ?_) (by simp only [List.getElem?_toArray, List.getElem?_cons_succ, List.getElem?_cons_zero]; rfl) (by kernel_rfl) (by kernel_rfl) (by kernel_rfl) (by exact fun _ _ _ h => h) (Or.inl ⟨by rfl, ?_⟩) hS ?_
                  rotate_left
                  · intro w hSw
                    go_simp
                    try with_reducible rfl
                  try simp only [Act.put, List.setIfInBounds_toArray, List.set_cons_zero, List.set_cons_succ]
                  refine wpAnyH_take (i := 9) (v := ?_) (by simp only [List.getElem?_toArray, List.getElem?_cons_succ, List.getElem?_cons_zero]; rfl) (by kernel_rfl) (by kernel_rfl) (by kernel_rfl) (by exact fun _ _ _ h => h) (Or.inl ⟨by rfl, ?_⟩) hS ?_
                  rotate_left
                  · intro w hSw
                    go_simp
                    try with_reducible rfl
                  try simp only [Act.put, List.setIfInBounds_toArray, List.set_cons_zero, List.set_cons_succ]
                  refine wpAnyH_take (i := 10) (v := ?_) (by simp only [List.getElem?_toArray, List.getElem?_cons_succ, List.getElem?_cons_zero]; rfl) (by kernel_rfl) (by kernel_rfl) (by kernel_rfl) (by exact fun _ _ _ h => h) (Or.inl ⟨by rfl, ?_⟩) hS ?_
                  rotate_left
                  · intro w hSw
                    go_simp
                    try with_reducible rfl
                  try simp only [Act.put, List.setIfInBounds_toArray, List.set_cons_zero, List.set_cons_succ]
                  refine wpAnyH_take (i := 11) (v := ?_) (by simp only [List.getElem?_toArray, List.getElem?_cons_succ, List.getElem?_cons_zero]; rfl) (by kernel_rfl) (by kernel_rfl) (by kernel_rfl) (by exact fun _ _ _ h => h) (Or.inl ⟨by rfl, ?_⟩) hS ?_
                  rotate_left
                  · intro w hSw
                    go_simp
                    try with_reducible rfl
                  try simp only [Act.put, List.setIfInBounds_toArray, List.set_cons_zero, List.set_cons_succ]
                  refine wpAnyH_take (i := 12) (v := ?_) (by simp only [List.getElem?_toArray, List.getElem?_cons_succ, List.getElem?_cons_zero]; rfl) (by kernel_rfl) (by kernel_rfl) (by kernel_rfl) (by exact fun _ _ _ h => h) (Or.inl ⟨by rfl, ?_⟩) hS ?_
                  rotate_left
                  · intro w hSw
                    go_simp
                    try with_reducible rfl
                  try simp only [Act.put, List.setIfInBounds_toArray, List.set_cons_zero, List.set_cons_succ]
                  refine wpAnyH_take (i := 14) (v := .agg RV) (by simp only [List.getElem?_toArray, List.getElem?_cons_succ, List.getElem?_cons_zero]; rfl) (by kernel_rfl) (by kernel_rfl) (by kernel_rfl) (by exact fun _ _ _ h => h) (Or.inl ⟨by rfl, ?_⟩) hS ?_
                  · intro wz hSw
                    exact ShU.exec_load 27 (.tmp 16) rfl ⟨w7.heap.size, 0, none⟩ rfl _ wz hSw.2
                  try simp only [Act.put, List.setIfInBounds_toArray, List.set_cons_zero, List.set_cons_succ]
                  refine wpAnyH_ready (rs := [13]) (by kernel_rfl) (by simp) ?_
                  refine AllReadyH.cons (by simp only [List.getElem?_toArray, List.getElem?_cons_succ, List.getElem?_cons_zero]; rfl) (fun K hK => ?_) AllReadyH.nil
                  go_simp
                  go_at_call 17
                  refine (HSM.out _ Lq.out).mono ?_
                  rintro e wq ⟨rfl, bq⟩
                  have L12 := Lib.hid (Lq.out.trans (bq.mono Lq.out.size))
                  have Q12 := Lib.hid (Qq.out.below bq Qq.out.lt)
                  clear bq Lq Qq
                  refine hK.out _ _ ⟨HCL.out _ L12.out, loadOf27 Q12.out iR.out⟩ (fun hS => ?_)
                  clear hK K
                  try simp only [Act.put, List.setIfInBounds_toArray, List.set_cons_zero, List.set_cons_succ]
                  refine wpAnyH_take (i := 15) (v := .bool false) (by simp only [List.getElem?_toArray, List.getElem?_cons_succ, List.getElem?_cons_zero]; rfl) (by kernel_rfl) (by kernel_rfl) (by kernel_rfl) (by exact fun _ _ _ h => h) (Or.inl ⟨by rfl, ?_⟩) hS ?_
                  · intro wz hSw
                    exact exec_neq27 (.tmp 94) (.tmp 95) rfl RV RV rfl rfl _ wz (HNM.out wz)
                  try simp only [Act.put, List.setIfInBounds_toArray, List.set_cons_zero, List.set_cons_succ]
                  refine wpAnyH_take (i := 16) (v := ?_) (by simp only [List.getElem?_toArray, List.getElem?_cons_succ, List.getElem?_cons_zero]; rfl) (by kernel_rfl) (by kernel_rfl) (by kernel_rfl) (by exact fun _ _ _ h => h) (Or.inl ⟨by rfl, ?_⟩) hS ?_
                  rotate_left
                  · intro w hSw
                    go_simp
                    try with_reducible rfl
                  try simp only [Act.put, List.setIfInBounds_toArray, List.set_cons_zero, List.set_cons_succ]
                  refine wpAnyH_take (i := 17) (v := ?_) (by simp only [List.getElem?_toArray, List.getElem?_cons_succ, List.getElem?_cons_zero]; rfl) (by kernel_rfl) (by kernel_rfl) (by kernel_rfl) (by exact fun _ _ _ h => h) (Or.inl ⟨by rfl, ?_⟩) hS ?_
                  rotate_left
                  · intro w hSw
                    go_simp
                    try with_reducible rfl
                  try simp only [Act.put, List.setIfInBounds_toArray, List.set_cons_zero, List.set_cons_succ]
                  refine wpAnyH_take (i := 18) (v := ?_) (by simp only [List.getElem?_toArray, List.getElem?_cons_succ, List.getElem?_cons_zero]; rfl) (by kernel_rfl) (by kernel_rfl) (by kernel_rfl) (by exact fun _ _ _ h => h) (Or.inl ⟨by rfl, ?_⟩) hS ?_
                  rotate_left
                  · intro w hSw
                    go_simp
                    try with_reducible rfl
                  try simp only [Act.put, List.setIfInBounds_toArray, List.set_cons_zero, List.set_cons_succ]
                  refine wpAnyH_take (i := 20) (v := .agg RV) (by simp only [List.getElem?_toArray, List.getElem?_cons_succ, List.getElem?_cons_zero]; rfl) (by kernel_rfl) (by kernel_rfl) (by kernel_rfl) (by exact fun _ _ _ h => h) (Or.inl ⟨by rfl, ?_⟩) hS ?_
                  · intro wz hSw
                    exact ShU.exec_load 27 (.tmp 16) rfl ⟨w7.heap.size, 0, none⟩ rfl _ wz hSw.2
                  try simp only [Act.put, List.setIfInBounds_toArray, List.set_cons_zero, List.set_cons_succ]
                  refine wpAnyH_ready (rs := [19]) (by kernel_rfl) (by simp) ?_
                  refine AllReadyH.cons (by simp only [List.getElem?_toArray, List.getElem?_cons_succ, List.getElem?_cons_zero]; rfl) (fun K hK => ?_) AllReadyH.nil
                  go_simp
                  go_at_call 17
                  refine (HSM.out _ L12.out).mono ?_
                  rintro e wr2 ⟨rfl, bq⟩
                  have L13 := Lib.hid (L12.out.trans (bq.mono L12.out.size))
                  have Q13 := Lib.hid (Q12.out.below bq Q12.out.lt)
                  clear bq L12 Q12
                  refine hK.out _ _ ⟨HCL.out _ L13.out, loadOf27 Q13.out iR.out⟩ (fun hS => ?_)
                  clear hK K
                  try simp only [Act.put, List.setIfInBounds_toArray, List.set_cons_zero, List.set_cons_succ]
                  refine wpAnyH_take (i := 21) (v := .bool false) (by simp only [List.getElem?_toArray, List.getElem?_cons_succ, List.getElem?_cons_zero]; rfl) (by kernel_rfl) (by kernel_rfl) (by kernel_rfl) (by exact fun _ _ _ h => h) (Or.inl ⟨by rfl, ?_⟩) hS ?_
                  · intro wz hSw
                    exact exec_neq27 (.tmp 100) (.tmp 101) rfl RV RV rfl rfl _ wz (HNM.out wz)
                  try simp only [Act.put, List.setIfInBounds_toArray, List.set_cons_zero, List.set_cons_succ]
                  refine wpAnyH_take (i := 22) (v := ?_) (by simp only [List.getElem?_toArray, List.getElem?_cons_succ, List.getElem?_cons_zero]; rfl) (by kernel_rfl) (by kernel_rfl) (by kernel_rfl) (by exact fun _ _ _ h => h) (Or.inl ⟨by rfl, ?_⟩) hS ?_
                  rotate_left
                  · intro w hSw
                    go_simp
                    try with_reducible rfl
                  try simp only [Act.put, List.setIfInBounds_toArray, List.set_cons_zero, List.set_cons_succ]
                  refine wpAnyH_done (by kernel_rfl) ?_ _
                  have D14 := Lib.hid (D7.out.below L13.out D7.out.lt)
                  have O14 := Lib.hid (own_below O7.out L13.out)
                  have B14 := Lib.hid (B7.out.trans (L13.out.mono B7.out.size))
                  have S14 := Lib.hid (Nat.le_trans S7.out L13.out.size)
                  go_wp2_with fail
                  go_roundw
                  case rel => exact ⟨i + 1, (N + nx), (m ++ ps.getD i []), a2, c2, by omega, hlen.out, hroom.out.2, by go_num, rfl, O14.out, D14.out, B14.out, S14.out⟩
                  case measure => simp [intOf]; omega
              · have hir' : ¬ (i : Int) < (nr : Int) := by omega
                replace hml := Lib.hid hml
                replace hNle := Lib.hid hNle
                have pc4 := hcell wr DB.out
                go_wp2_with fail
                refine (HWR.out g none m (ps.getD i []) ax nx cx wr DB.out gw.out DD.out hone.out).mono ?_
                rintro e w5 ⟨rfl, hd5, hg5⟩
                clear pc4
                have D5 : Hid (Dd w5 g none (m ++ ps.getD i [])) := Lib.hid hd5
                have O5 := Lib.hid (own_gb OO.out hg5 (fun q e1 e2 => by have h1 := (OO.out.blocks q e1).1; injection e2 with e2; have := gb.out; omega))
                have B5 := Lib.hid (Below.gb DB.out hg5 gw.out DB.out.size)
                have S5 := Lib.hid (Nat.le_trans SZ.out hg5.size)
                have rd5 := Lib.hid (hrd.out w5 B5.out)
                clear hd5 hg5
                have pc5 := hcell w5 B5.out
                have hlen : Hid ((m ++ ps.getD i []).length = (N + nx)) := Lib.hid (by first | exact hnx.out | rw [List.length_append, hnx.out, hml.out])
                have hroom : Hid ((N + nx) ≤ 4096 ∧ (N + nx) ≤ ((ps.take (i + 1)).flatten).length) := Lib.hid (by
                  have h5 := HFL.out (i + 1)
                  have h6 := HFT.out i hlt
                  have h7 := hT.out
                  have h8 := hNle.out
                  rw [← h6, List.length_append, hnx.out] at h5 ⊢
                  omega)
                go_wp2_with (at_builtin; refine RfH.wpList_app2 rfl (.tmp 69) (.tmp 73) rfl w3.heap.size (.slice a1 N c1) m rfl O5.out ax (ps.getD i []) nx cx rfl hnx.out rd5.out (m ++ ps.getD i []) (N + nx) rfl hlen.out (by have := hroom.out; omega) S5.out ?_; intro a2 c2 w6 hO6 hg6)
                clear pc5
                have hne6 : ∀ k, (Value.slice a1 N c1).ownBlock = some k → w3.heap.size ≤ k := fun k e => (O5.out.blocks k e).1
                have D6 := Lib.hid (ShY.Dd.gb D5.out hg6 (fun e => by have := hne6 _ e; have := gb.out; omega))
                have B6 := Lib.hid (B5.out.grown hg6 B5.out.size (fun k e => by have := hne6 k e; have := hbw.out; omega))
                have O6 := Lib.hid hO6
                have S6 := Lib.hid (Nat.le_trans S5.out hg6.size)
                clear hO6 hg6 hne6 D5 O5 B5 S5 rd5
                go_wp2_with fail
                refine (HRS.out _ (N + nx) a2 c2 w6 (own_base O6.out hbw.out) hroom.out.1).mono ?_
                rintro e w7 ⟨rfl, b7⟩
                have D7 := Lib.hid (D6.out.below b7 D6.out.lt)
                have O7 := Lib.hid (own_below O6.out b7)
                have B7 := Lib.hid (B6.out.trans (b7.mono B6.out.size))
                have S7 := Lib.hid (Nat.le_trans S6.out b7.size)
                obtain ⟨RV, hRV⟩ : ∃ RV, RV = b32 (dig none (m ++ ps.getD i [])) := ⟨_, rfl⟩
                rw [← hRV]
                have iR : Hid ((Tryd.prog.info? 27).map (·.size) = some RV.size) := Lib.hid (by rw [hRV, b32_size]; exact i27)
                have sR : Hid (Z.size = RV.size) := Lib.hid (by rw [hRV, hZ.out, b32_size, b32_size])
                have oR : Hid (RV.all (·.oneCell') = true) := Lib.hid (by rw [hRV]; exact b32_one _)
                clear b7 D6 O6 B6 S6
                replace hRV := Lib.hid hRV
                go_wp2_with (first
                  | ((with_reducible show wpList _ _ _ (Oper.mk (some 16) (Op.alloc 27) _ _ _ _ :: _) _ _); refine RfF.alloc27 rfl rfl Z hZ.out ?_; intro w8 hB8 hb8 hn8; clear hn8)
                  | ((with_reducible show wpList _ _ _ (Oper.mk _ (Op.store 27 (.tmp 16) (.tmp 76)) _ _ _ _ :: _) _ _); refine Mem.storeBlk 27 (.tmp 16) (.tmp 76) rfl w7.heap.size rfl Z RV rfl 27 hB8 iR.out sR.out oR.out w7.heap.size w7 hb8 (Nat.le_refl _) rfl ?_; intro w9 hB9 hb9
                     have Q9 := Lib.hid hB9
                     have L9 := Lib.hid hb9
                     have X9 := Lib.hid (B7.out.trans (hb9.mono B7.out.size))
                     clear hB8 hb8 hB9 hb9))
                have HNM : Hid (∀ w, (binOp .neq 27 (.agg RV) (.agg RV)).run Tryd.prog w = .ok (.bool false) w) := Lib.hid (by rw [hRV.out]; exact neqSame27 _)
                have HSM : Hid (∀ w', Below w7.heap.size w7 w' → Calls Tryd.prog 17 #[.pointer (some ⟨g, 0, none⟩)] w' fun e w'' => e = .returned (.agg RV) ∧ Below w'.heap.size w' w'') := Lib.hid fun w' hbb => by
                  rw [hRV.out]
                  exact HSUM.out g none _ w' (B7.out.trans (hbb.mono B7.out.size)) (D7.out.below hbb D7.out.lt)
                have HCL : Hid (∀ w', Below w7.heap.size w7 w' → w'.cell? ⟨b, off + i, none⟩ = some (.slice ax nx cx)) := Lib.hid fun w' hbb => hcell w' (B7.out.trans (hbb.mono B7.out.size))
                have Lq := Lib.hid L9.out.drew
                have Qq := Lib.hid Q9.out.drew
                clear L9 Q9
                refine wp_region_held_drew (S := fun w' => w'.cell? ⟨b, off + i, none⟩ = some (.slice ax nx cx) ∧ (loadVar 27 ⟨w7.heap.size, 0, none⟩).run Tryd.prog w' = .ok (.agg RV) w') (by kernel_rfl) ⟨HCL.out _ Lq.out, loadOf27 Qq.out iR.out⟩ (fun hS => ?_)
                try simp only [List.size_toArray, List.length_cons, List.length_nil, Nat.reduceAdd]
                refine wpAnyH_take (i := 0) (v := ?_) (by simp only [List.getElem?_toArray, List.getElem?_cons_zero]; rfl) (by kernel_rfl) (by kernel_rfl) (by kernel_rfl) (by exact fun _ _ _ h => h) (Or.inl ⟨by rfl, ?_⟩) hS ?_
                rotate_left
                · intro w hSw
                  go_simp
                  try with_reducible rfl
                try simp only [Act.put, List.setIfInBounds_toArray, List.set_cons_zero, List.set_cons_succ]
                refine wpAnyH_take (i := 1) (v := ?_) (by simp only [List.getElem?_toArray, List.getElem?_cons_succ, List.getElem?_cons_zero]; rfl) (by kernel_rfl) (by kernel_rfl) (by kernel_rfl) (by exact fun _ _ _ h => h) (Or.inl ⟨by rfl, ?_⟩) hS ?_
                rotate_left
                · intro w hSw
                  go_simp
                  try with_reducible rfl
                try simp only [Act.put, List.setIfInBounds_toArray, List.set_cons_zero, List.set_cons_succ]
                refine wpAnyH_take (i := 2) (v := ?_) (by simp only [List.getElem?_toArray, List.getElem?_cons_succ, List.getElem?_cons_zero]; rfl) (by kernel_rfl) (by kernel_rfl) (by kernel_rfl) (by exact fun _ _ _ h => h) (Or.inl ⟨by rfl, ?_⟩) hS ?_
                rotate_left
                · intro w hSw
                  go_simp
                  try with_reducible rfl
                try simp only [Act.put, List.setIfInBounds_toArray, List.set_cons_zero, List.set_cons_succ]
                refine wpAnyH_take (i := 3) (v := ?_) (by simp only [List.getElem?_toArray, List.getElem?_cons_succ, List.getElem?_cons_zero]; rfl) (by kernel_rfl) (by kernel_rfl) (by kernel_rfl) (by exact fun _ _ _ h => h) (Or.inl ⟨by rfl, ?_⟩) hS ?_
                rotate_left
                · intro w hSw
                  go_simp
                  try with_reducible rfl
                try simp only [Act.put, List.setIfInBounds_toArray, List.set_cons_zero, List.set_cons_succ]
                refine wpAnyH_take (i := 4) (v := ?_) (by simp only [List.getElem?_toArray, List.getElem?_cons_succ, List.getElem?_cons_zero]; rfl) (by kernel_rfl) (by kernel_rfl) (by kernel_rfl) (by exact fun _ _ _ h => h) (Or.inl ⟨by rfl, ?_⟩) hS ?_
                rotate_left
                · intro w hSw
                  have hcl := hSw.1
                  go_simp
                  try with_reducible rfl
                try simp only [Act.put, List.setIfInBounds_toArray, List.set_cons_zero, List.set_cons_succ]
                refine wpAnyH_take (i := 5) (v := ?_) (by simp only [List.getElem?_toArray, List.getElem?_cons_succ, List.getElem?_cons_zero]; rfl) (by kernel_rfl) (by kernel_rfl) (by kernel_rfl) (by exact fun _ _ _ h => h) (Or.inl ⟨by rfl, ?_⟩) hS ?_
                rotate_left
                · intro w hSw
                  go_simp
                  try with_reducible rfl
                try simp only [Act.put, List.setIfInBounds_toArray, List.set_cons_zero, List.set_cons_succ]
                refine wpAnyH_take (i := 6) (v := ?_) (by simp only [List.getElem?_toArray, List.getElem?_cons_succ, List.getElem?_cons_zero]; rfl) (by kernel_rfl) (by kernel_rfl) (by kernel_rfl) (by exact fun _ _ _ h => h) (Or.inl ⟨by rfl, ?_⟩) hS ?_
                rotate_left
                · intro w hSw
                  go_simp
                  try with_reducible rfl
                try simp only [Act.put, List.setIfInBounds_toArray, List.set_cons_zero, List.set_cons_succ]
                refine wpAnyH_take (i := 7) (v := ?_) (by simp only [List.getElem?_toArray, List.getElem?_cons_succ, List.getElem?_cons_zero]; rfl) (by kernel_rfl) (by kernel_rfl) (by kernel_rfl) (by exact fun _ _ _ h => h) (Or.inl ⟨by rfl, ?_⟩) hS ?_
                rotate_left
                · intro w hSw
                  go_simp
                  try with_reducible rfl
                try simp only [Act.put, List.setIfInBounds_toArray, List.set_cons_zero, List.set_cons_succ]
                refine wpAnyH_take (i := 8) (v := ?_) (by simp only [List.getElem?_toArray, List.getElem?_cons_succ, List.getElem?_cons_zero]; rfl) (by kernel_rfl) (by kernel_rfl) (by kernel_rfl) (by exact fun _ _ _ h => h) (Or.inl ⟨by rfl, ?_⟩) hS ?_
                rotate_left
                · intro w hSw
                  go_simp
                  try with_reducible rfl
                try simp only [Act.put, List.setIfInBounds_toArray, List.set_cons_zero, List.set_cons_succ]
                refine wpAnyH_take (i := 9) (v := ?_) (by simp only [List.getElem?_toArray, List.getElem?_cons_succ, List.getElem?_cons_zero]; rfl) (by kernel_rfl) (by kernel_rfl) (by kernel_rfl) (by exact fun _ _ _ h => h) (Or.inl ⟨by rfl, ?_⟩) hS ?_
                rotate_left
                · intro w hSw
                  go_simp
                  try with_reducible rfl
                try simp only [Act.put, List.setIfInBounds_toArray, List.set_cons_zero, List.set_cons_succ]
                refine wpAnyH_take (i := 10) (v := ?_) (by simp only [List.getElem?_toArray, List.getElem?_cons_succ, List.getElem?_cons_zero]; rfl) (by kernel_rfl) (by kernel_rfl) (by kernel_rfl) (by exact fun _ _ _ h => h) (Or.inl ⟨by rfl, ?_⟩) hS ?_
                rotate_left
                · intro w hSw
                  go_simp
                  try with_reducible rfl
                try simp only [Act.put, List.setIfInBounds_toArray, List.set_cons_zero, List.set_cons_succ]
                refine wpAnyH_take (i := 11) (v := ?_) (by simp only [List.getElem?_toArray, List.getElem?_cons_succ, List.getElem?_cons_zero]; rfl) (by kernel_rfl) (by kernel_rfl) (by kernel_rfl) (by exact fun _ _ _ h => h) (Or.inl ⟨by rfl, ?_⟩) hS ?_
                rotate_left
                · intro w hSw
                  go_simp
                  try with_reducible rfl
                try simp only [Act.put, List.setIfInBounds_toArray, List.set_cons_zero, List.set_cons_succ]
                refine wpAnyH_take (i := 12) (v := ?_) (by simp only [List.getElem?_toArray, List.getElem?_cons_succ, List.getElem?_cons_zero]; rfl) (by kernel_rfl) (by kernel_rfl) (by kernel_rfl) (by exact fun _ _ _ h => h) (Or.inl ⟨by rfl, ?_⟩) hS ?_
                rotate_left
                · intro w hSw
                  go_simp
                  try with_reducible rfl
                try simp only [Act.put, List.setIfInBounds_toArray, List.set_cons_zero, List.set_cons_succ]
                refine wpAnyH_take (i := 14) (v := .agg RV) (by simp only [List.getElem?_toArray, List.getElem?_cons_succ, List.getElem?_cons_zero]; rfl) (by kernel_rfl) (by kernel_rfl) (by kernel_rfl) (by exact fun _ _ _ h => h) (Or.inl ⟨by rfl, ?_⟩) hS ?_
                · intro wz hSw
                  exact ShU.exec_load 27 (.tmp 16) rfl ⟨w7.heap.size, 0, none⟩ rfl _ wz hSw.2
                try simp only [Act.put, List.setIfInBounds_toArray, List.set_cons_zero, List.set_cons_succ]
                refine wpAnyH_ready (rs := [13]) (by kernel_rfl) (by simp) ?_
                refine AllReadyH.cons (by simp only [List.getElem?_toArray, List.getElem?_cons_succ, List.getElem?_cons_zero]; rfl) (fun K hK => ?_) AllReadyH.nil
                go_simp
                go_at_call 17
                refine (HSM.out _ Lq.out).mono ?_
                rintro e wq ⟨rfl, bq⟩
                have L12 := Lib.hid (Lq.out.trans (bq.mono Lq.out.size))
                have Q12 := Lib.hid (Qq.out.below bq Qq.out.lt)
                clear bq Lq Qq
                refine hK.out _ _ ⟨HCL.out _ L12.out, loadOf27 Q12.out iR.out⟩ (fun hS => ?_)
                clear hK K
                try simp only [Act.put, List.setIfInBounds_toArray, List.set_cons_zero, List.set_cons_succ]
                refine wpAnyH_take (i := 15) (v := .bool false) (by simp only [List.getElem?_toArray, List.getElem?_cons_succ, List.getElem?_cons_zero]; rfl) (by kernel_rfl) (by kernel_rfl) (by kernel_rfl) (by exact fun _ _ _ h => h) (Or.inl ⟨by rfl, ?_⟩) hS ?_
                · intro wz hSw
                  exact exec_neq27 (.tmp 94) (.tmp 95) rfl RV RV rfl rfl _ wz (HNM.out wz)
                try simp only [Act.put, List.setIfInBounds_toArray, List.set_cons_zero, List.set_cons_succ]
                refine wpAnyH_take (i := 16) (v := ?_) (by simp only [List.getElem?_toArray, List.getElem?_cons_succ, List.getElem?_cons_zero]; rfl) (by kernel_rfl) (by kernel_rfl) (by kernel_rfl) (by exact fun _ _ _ h => h) (Or.inl ⟨by rfl, ?_⟩) hS ?_
                rotate_left
                · intro w hSw
                  go_simp
                  try with_reducible rfl
                try simp only [Act.put, List.setIfInBounds_toArray, List.set_cons_zero, List.set_cons_succ]
                refine wpAnyH_take (i := 17) (v := ?_) (by simp only [List.getElem?_toArray, List.getElem?_cons_succ, List.getElem?_cons_zero]; rfl) (by kernel_rfl) (by kernel_rfl) (by kernel_rfl) (by exact fun _ _ _ h => h) (Or.inl ⟨by rfl, ?_⟩) hS ?_
                rotate_left
                · intro w hSw
                  go_simp
                  try with_reducible rfl
                try simp only [Act.put, List.setIfInBounds_toArray, List.set_cons_zero, List.set_cons_succ]
                refine wpAnyH_take (i := 18) (v := ?_) (by simp only [List.getElem?_toArray, List.getElem?_cons_succ, List.getElem?_cons_zero]; rfl) (by kernel_rfl) (by kernel_rfl) (by kernel_rfl) (by exact fun _ _ _ h => h) (Or.inl ⟨by rfl, ?_⟩) hS ?_
                rotate_left
                · intro w hSw
                  go_simp
                  try with_reducible rfl
                try simp only [Act.put, List.setIfInBounds_toArray, List.set_cons_zero, List.set_cons_succ]
                refine wpAnyH_take (i := 20) (v := .agg RV) (by simp only [List.getElem?_toArray, List.getElem?_cons_succ, List.getElem?_cons_zero]; rfl) (by kernel_rfl) (by kernel_rfl) (by kernel_rfl) (by exact fun _ _ _ h => h) (Or.inl ⟨by rfl, ?_⟩) hS ?_
                · intro wz hSw
                  exact ShU.exec_load 27 (.tmp 16) rfl ⟨w7.heap.size, 0, none⟩ rfl _ wz hSw.2
                try simp only [Act.put, List.setIfInBounds_toArray, List.set_cons_zero, List.set_cons_succ]
                refine wpAnyH_ready (rs := [19]) (by kernel_rfl) (by simp) ?_
                refine AllReadyH.cons (by simp only [List.getElem?_toArray, List.getElem?_cons_succ, List.getElem?_cons_zero]; rfl) (fun K hK => ?_) AllReadyH.nil
                go_simp
                go_at_call 17
                refine (HSM.out _ L12.out).mono ?_
                rintro e wr2 ⟨rfl, bq⟩
                have L13 := Lib.hid (L12.out.trans (bq.mono L12.out.size))
                have Q13 := Lib.hid (Q12.out.below bq Q12.out.lt)
                clear bq L12 Q12
                refine hK.out _ _ ⟨HCL.out _ L13.out, loadOf27 Q13.out iR.out⟩ (fun hS => ?_)
                clear hK K
                try simp only [Act.put, List.setIfInBounds_toArray, List.set_cons_zero, List.set_cons_succ]
                refine wpAnyH_take (i := 21) (v := .bool false) (by simp only [List.getElem?_toArray, List.getElem?_cons_succ, List.getElem?_cons_zero]; rfl) (by kernel_rfl) (by kernel_rfl) (by kernel_rfl) (by exact fun _ _ _ h => h) (Or.inl ⟨by rfl, ?_⟩) hS ?_
                · intro wz hSw
                  exact exec_neq27 (.tmp 100) (.tmp 101) rfl RV RV rfl rfl _ wz (HNM.out wz)
                try simp only [Act.put, List.setIfInBounds_toArray, List.set_cons_zero, List.set_cons_succ]
                refine wpAnyH_take (i := 22) (v := ?_) (by simp only [List.getElem?_toArray, List.getElem?_cons_succ, List.getElem?_cons_zero]; rfl) (by kernel_rfl) (by kernel_rfl) (by kernel_rfl) (by exact fun _ _ _ h => h) (Or.inl ⟨by rfl, ?_⟩) hS ?_
                rotate_left
                · intro w hSw
                  go_simp
                  try with_reducible rfl
                try simp only [Act.put, List.setIfInBounds_toArray, List.set_cons_zero, List.set_cons_succ]
                refine wpAnyH_done (by kernel_rfl) ?_ _
                have D14 := Lib.hid (D7.out.below L13.out D7.out.lt)
                have O14 := Lib.hid (own_below O7.out L13.out)
                have B14 := Lib.hid (B7.out.trans (L13.out.mono B7.out.size))
                have S14 := Lib.hid (Nat.le_trans S7.out L13.out.size)
                go_wp2_with fail
                go_roundw
                case rel => exact ⟨i + 1, (N + nx), (m ++ ps.getD i []), a2, c2, by omega, hlen.out, hroom.out.2, by go_num, rfl, O14.out, D14.out, B14.out, S14.out⟩
                case measure => simp [intOf]; omega
            · obtain rfl : n = i := by omega
              have hlt' : ¬ (n : Int) < (n : Int) := by omega
              have DB := Lib.hid hB
              clear hO hD hB hsz hml hNle
              go_wp2_with fail
              go_ret
              exact ⟨rfl, DB.out⟩
        | true =>
          obtain ⟨Z, hZ⟩ : ∃ Z, Z = b32 [] := ⟨_, rfl⟩
          replace hZ := Lib.hid hZ
          go_wp2_with fail
          refine (HNEW.out w2 B2.out).mono ?_
          rintro e w3 ⟨g, hg, rfl, hd, b3⟩
          have B3 := Lib.hid (B2.out.trans (b3.mono B2.out.size))
          clear hg hd b3
          go_wp2_with fail
          refine (HKEY.out w3 B3.out).mono ?_
          rintro e w4 ⟨q, hq, rfl, hd, b4⟩
          have B4 := Lib.hid (B3.out.trans (b4.mono B3.out.size))
          have qw : Hid (w.heap.size ≤ q) := Lib.hid (by have := B3.out.size; omega)
          have hbw : Hid (w.heap.size ≤ w4.heap.size) := Lib.hid B4.out.size
          clear hq b4
          have qb : Hid (q < w4.heap.size) := Lib.hid hd.lt
          have DI := Lib.hid hd
          clear hd
          go_wp2_with fail
          go_loopw [12, 13, 14, 15, 16] (fun v12 v13 _ _ _ wr => ∃ (i N : Nat) (m : List ShM.B8) (a1 : Option Addr) (c1 : Nat), i ≤ n ∧ m.length = N ∧ N ≤ ((ps.take i).flatten).length ∧ v13 = .int .i64 (i : Int) ∧ v12 = .slice a1 N c1 ∧ ShT.Own wr w4.heap.size (.slice a1 N c1) m ∧ Dd wr q (some (wk key)) m ∧ Below w.heap.size w wr ∧ w4.heap.size ≤ wr.heap.size) (fun _ v13 _ _ _ _ => 50 - (intOf v13).toNat)
          case atStart => exact ⟨0, 0, [], none, 0, by omega, rfl, by omega, rfl, rfl, ShT.Own.nil _ _, DI.out, B4.out, Nat.le_refl _⟩
          case round =>
            clear DI
            obtain ⟨i, N, m, a1, c1, hi, hml, hNle, rfl, rfl, hO, hD, hB, hsz⟩ := hrel
            by_cases hlt : i < n
            · have hlt' : (i : Int) < (n : Int) := by omega
              obtain ⟨b, off, ax, nx, cx, rfl, hcell, hnx, hone, hrd⟩ := HP.out i hlt
              replace hcell : ∀ w', Below w.heap.size w w' → w'.cell? ⟨b, off + i, none⟩ = some (.slice ax nx cx) := hcell
              replace hnx := Lib.hid hnx
              replace hone := Lib.hid hone
              replace hrd := Lib.hid hrd
              have OO := Lib.hid hO
              have DD := Lib.hid hD
              have DB := Lib.hid hB
              have SZ := Lib.hid hsz
              clear hO hD hB hsz
              by_cases hir : i < nr
              · have hir' : (i : Int) < (nr : Int) := by omega
                obtain ⟨rb, ro, r, rfl, hrc⟩ := HR.out i hir
                have rc4 := hrc wr DB.out
                clear hrc
                cases r with
                | true =>
                  clear hml hNle
                  go_wp2_with fail
                  refine (HRST.out q (some (wk key)) m wr DD.out).mono ?_
                  rintro e wv ⟨rfl, hdv, hgv⟩
                  have DV := Lib.hid hdv
                  have BV := Lib.hid (Below.gb DB.out hgv qw.out DB.out.size)
                  have SV := Lib.hid (Nat.le_trans SZ.out hgv.size)
                  have OV := Lib.hid (ShT.Own.nil wv w4.heap.size)
                  have hml : Hid (([] : List ShM.B8).length = 0) := Lib.hid rfl
                  have hNle : Hid (0 ≤ ((ps.take i).flatten).length) := Lib.hid (Nat.zero_le _)
                  clear hdv hgv rc4
                  have pc4 := hcell wv BV.out
                  go_wp2_with fail
                  refine (HWR.out q (some (wk key)) [] (ps.getD i []) ax nx cx wv BV.out qw.out DV.out hone.out).mono ?_
                  rintro e w5 ⟨rfl, hd5, hg5⟩
                  clear pc4
                  have D5 : Hid (Dd w5 q (some (wk key)) (ps.getD i [])) := Lib.hid hd5
                  have O5 := Lib.hid (own_gb OV.out hg5 (fun q e1 e2 => by have h1 := (OV.out.blocks q e1).1; injection e2 with e2; have := qb.out; omega))
                  have B5 := Lib.hid (Below.gb BV.out hg5 qw.out BV.out.size)
                  have S5 := Lib.hid (Nat.le_trans SV.out hg5.size)
                  have rd5 := Lib.hid (hrd.out w5 B5.out)
                  clear hd5 hg5
                  have pc5 := hcell w5 B5.out
                  have hlen : Hid ((ps.getD i []).length = nx) := Lib.hid (by first | exact hnx.out | rw [List.length_append, hnx.out, hml.out])
                  have hroom : Hid (nx ≤ 4096 ∧ nx ≤ ((ps.take (i + 1)).flatten).length) := Lib.hid (by
                    have h5 := HFL.out (i + 1)
                    have h6 := HFT.out i hlt
                    have h7 := hT.out
                    have h8 := hNle.out
                    rw [← h6, List.length_append, hnx.out] at h5 ⊢
                    omega)
                  go_wp2_with (at_builtin; refine RfH.wpList_app2 rfl (.tmp 69) (.tmp 73) rfl w4.heap.size (.slice none 0 0) [] rfl O5.out ax (ps.getD i []) nx cx rfl hnx.out rd5.out (ps.getD i []) nx rfl hlen.out (by have := hroom.out; omega) S5.out ?_; intro a2 c2 w6 hO6 hg6)
                  clear pc5
                  have hne6 : ∀ k, (Value.slice none 0 0).ownBlock = some k → w4.heap.size ≤ k := fun k e => (O5.out.blocks k e).1
                  have D6 := Lib.hid (ShY.Dd.gb D5.out hg6 (fun e => by have := hne6 _ e; have := qb.out; omega))
                  have B6 := Lib.hid (B5.out.grown hg6 B5.out.size (fun k e => by have := hne6 k e; have := hbw.out; omega))
                  have O6 := Lib.hid hO6
                  have S6 := Lib.hid (Nat.le_trans S5.out hg6.size)
                  clear hO6 hg6 hne6 D5 O5 B5 S5 rd5
                  go_wp2_with fail
                  refine (HRS.out _ nx a2 c2 w6 (own_base O6.out hbw.out) hroom.out.1).mono ?_
                  rintro e w7 ⟨rfl, b7⟩
                  have D7 := Lib.hid (D6.out.below b7 D6.out.lt)
                  have O7 := Lib.hid (own_below O6.out b7)
                  have B7 := Lib.hid (B6.out.trans (b7.mono B6.out.size))
                  have S7 := Lib.hid (Nat.le_trans S6.out b7.size)
                  obtain ⟨RV, hRV⟩ : ∃ RV, RV = b32 (dig none (ps.getD i [])) := ⟨_, rfl⟩
                  rw [← hRV]
                  have iR : Hid ((Tryd.prog.info? 27).map (·.size) = some RV.size) := Lib.hid (by rw [hRV, b32_size]; exact i27)
                  have sR : Hid (Z.size = RV.size) := Lib.hid (by rw [hRV, hZ.out, b32_size, b32_size])
                  have oR : Hid (RV.all (·.oneCell') = true) := Lib.hid (by rw [hRV]; exact b32_one _)
                  clear b7 D6 O6 B6 S6
                  replace hRV := Lib.hid hRV
                  go_wp2_with (first
                    | ((with_reducible show wpList _ _ _ (Oper.mk (some 16) (Op.alloc 27) _ _ _ _ :: _) _ _); refine RfF.alloc27 rfl rfl Z hZ.out ?_; intro w8 hB8 hb8 hn8; clear hn8)
                    | ((with_reducible show wpList _ _ _ (Oper.mk _ (Op.store 27 (.tmp 16) (.tmp 76)) _ _ _ _ :: _) _ _); refine Mem.storeBlk 27 (.tmp 16) (.tmp 76) rfl w7.heap.size rfl Z RV rfl 27 hB8 iR.out sR.out oR.out w7.heap.size w7 hb8 (Nat.le_refl _) rfl ?_; intro w9 hB9 hb9
                       have Q9 := Lib.hid hB9
                       have L9 := Lib.hid hb9
                       have X9 := Lib.hid (B7.out.trans (hb9.mono B7.out.size))
                       clear hB8 hb8 hB9 hb9))
                  refine (HRM.out _ nx a2 c2 w9 X9.out hnk4.out (own_base (own_below O7.out L9.out) hbw.out) hroom.out.1).mono ?_
                  rintro e w10 ⟨rfl, b10⟩
                  have Q10 := Lib.hid (Q9.out.below b10 Q9.out.lt)
                  have L10 := Lib.hid (L9.out.trans (b10.mono L9.out.size))
                  obtain ⟨MV, hMV⟩ : ∃ MV, MV = b32 (dig (some (wk key)) (ps.getD i [])) := ⟨_, rfl⟩
                  rw [← hMV]
                  have iM : Hid ((Tryd.prog.info? 27).map (·.size) = some MV.size) := Lib.hid (by rw [hMV, b32_size]; exact i27)
                  have sM : Hid (RV.size = MV.size) := Lib.hid (by rw [hRV.out, hMV, b32_size, b32_size])
                  have oM : Hid (MV.all (·.oneCell') = true) := Lib.hid (by rw [hMV]; exact b32_one _)
                  clear b10 Q9 L9 X9
                  replace hMV := Lib.hid hMV
                  go_wp2_with (first
                    | ((with_reducible show wpList _ _ _ (Oper.mk _ (Op.store 27 (.tmp 16) (.tmp 80)) _ _ _ _ :: _) _ _); refine Mem.storeBlk 27 (.tmp 16) (.tmp 80) rfl w7.heap.size rfl RV MV rfl 27 Q10.out iM.out sM.out oM.out w7.heap.size w7 L10.out (Nat.le_refl _) rfl ?_; intro w11 hB11 hb11
                       have Q11 := Lib.hid hB11
                       have L11 := Lib.hid hb11
                       clear hB11 hb11))
                  have HNM : Hid (∀ w, (binOp .neq 27 (.agg MV) (.agg MV)).run Tryd.prog w = .ok (.bool false) w) := Lib.hid (by rw [hMV.out]; exact neqSame27 _)
                  have HSM : Hid (∀ w', Below w7.heap.size w7 w' → Calls Tryd.prog 17 #[.pointer (some ⟨q, 0, none⟩)] w' fun e w'' => e = .returned (.agg MV) ∧ Below w'.heap.size w' w'') := Lib.hid fun w' hbb => by
                    rw [hMV.out]
                    exact HSUM.out q (some (wk key)) _ w' (B7.out.trans (hbb.mono B7.out.size)) (D7.out.below hbb D7.out.lt)
                  have HCL : Hid (∀ w', Below w7.heap.size w7 w' → w'.cell? ⟨b, off + i, none⟩ = some (.slice ax nx cx)) := Lib.hid fun w' hbb => hcell w' (B7.out.trans (hbb.mono B7.out.size))
                  have Lq := Lib.hid L11.out.drew
                  have Qq := Lib.hid Q11.out.drew
                  clear L11 Q11
                  refine wp_region_held_drew (S := fun w' => w'.cell? ⟨b, off + i, none⟩ = some (.slice ax nx cx) ∧ (loadVar 27 ⟨w7.heap.size, 0, none⟩).run Tryd.prog w' = .ok (.agg MV) w') (by kernel_rfl) ⟨HCL.out _ Lq.out, loadOf27 Qq.out iM.out⟩ (fun hS => ?_)
                  try simp only [List.size_toArray, List.length_cons, List.length_nil, Nat.reduceAdd]
                  refine wpAnyH_take (i := 0) (v := ?_) (by simp only [List.getElem?_toArray, List.getElem?_cons_zero]; rfl) (by kernel_rfl) (by kernel_rfl) (by kernel_rfl) (by exact fun _ _ _ h => h) (Or.inl ⟨by rfl, ?_⟩) hS ?_
                  rotate_left
                  · intro w hSw
                    go_simp
                    try with_reducible rfl
                  try simp only [Act.put, List.setIfInBounds_toArray, List.set_cons_zero, List.set_cons_succ]
                  refine wpAnyH_take (i := 1) (v := ?_) (by simp only [List.getElem?_toArray, List.getElem?_cons_succ, List.getElem?_cons_zero]; rfl) (by kernel_rfl) (by kernel_rfl) (by kernel_rfl) (by exact fun _ _ _ h => h) (Or.inl ⟨by rfl, ?_⟩) hS ?_
                  rotate_left
                  · intro w hSw
                    go_simp
                    try with_reducible rfl
                  try simp only [Act.put, List.setIfInBounds_toArray, List.set_cons_zero, List.set_cons_succ]
                  refine wpAnyH_take (i := 2) (v := ?_) (by simp only [List.getElem?_toArray, List.getElem?_cons_succ, List.getElem?_cons_zero]; rfl) (by kernel_rfl) (by kernel_rfl) (by kernel_rfl) (by exact fun _ _ _ h => h) (Or.inl ⟨by rfl, ?_⟩) hS ?_
                  rotate_left
                  · intro w hSw
                    go_simp
                    try with_reducible rfl
                  try simp only [Act.put, List.setIfInBounds_toArray, List.set_cons_zero, List.set_cons_succ]
                  refine wpAnyH_take (i := 3) (v := ?_) (by simp only [List.getElem?_toArray, List.getElem?_cons_succ, List.getElem?_cons_zero]; rfl) (by kernel_rfl) (by kernel_rfl) (by kernel_rfl) (by exact fun _ _ _ h => h) (Or.inl ⟨by rfl, ?_⟩) hS ?_
                  rotate_left
                  · intro w hSw
                    go_simp
                    try with_reducible rfl
                  try simp only [Act.put, List.setIfInBounds_toArray, List.set_cons_zero, List.set_cons_succ]
                  refine wpAnyH_take (i := 4) (v := ?_) (by simp only [List.getElem?_toArray, List.getElem?_cons_succ, List.getElem?_cons_zero]; rfl) (by kernel_rfl) (by kernel_rfl) (by kernel_rfl) (by exact fun _ _ _ h => h) (Or.inl ⟨by rfl, ?_⟩) hS ?_
                  rotate_left
                  · intro w hSw
                    have hcl := hSw.1
                    go_simp
                    try with_reducible rfl
                  try simp only [Act.put, List.setIfInBounds_toArray, List.set_cons_zero, List.set_cons_succ]
                  refine wpAnyH_take (i := 5) (v := ?_) (by simp only [List.getElem?_toArray, List.getElem?_cons_succ, List.getElem?_cons_zero]; rfl) (by kernel_rfl) (by kernel_rfl) (by kernel_rfl) (by exact fun _ _ _ h => h) (Or.inl ⟨by rfl, ?_⟩) hS ?_
                  rotate_left
                  · intro w hSw
                    go_simp
                    try with_reducible rfl
                  try simp only [Act.put, List.setIfInBounds_toArray, List.set_cons_zero, List.set_cons_succ]
                  refine wpAnyH_take (i := 6) (v := ?_) (by simp only [List.getElem?_toArray, List.getElem?_cons_succ, List.getElem?_cons_zero]; rfl) (by kernel_rfl) (by kernel_rfl) (by kernel_rfl) (by exact fun _ _ _ h => h) (Or.inl ⟨by rfl, ?_⟩) hS ?_
                  rotate_left
                  · intro w hSw
                    go_simp
                    try with_reducible rfl
                  try simp only [Act.put, List.setIfInBounds_toArray, List.set_cons_zero, List.set_cons_succ]
                  refine wpAnyH_take (i := 7) (v := ?_) (by simp only [List.getElem?_toArray, List.getElem?_cons_succ, List.getElem?_cons_zero]; rfl) (by kernel_rfl) (by kernel_rfl) (by kernel_rfl) (by exact fun _ _ _ h => h) (Or.inl ⟨by rfl, ?_⟩) hS ?_
                  rotate_left
                  · intro w hSw
                    go_simp
                    try with_reducible rfl
                  try simp only [Act.put, List.setIfInBounds_toArray, List.set_cons_zero, List.set_cons_succ]
                  refine wpAnyH_take (i := 8) (v := ?_) (by simp only [List.getElem?_toArray, List.getElem?_cons_succ, List.getElem?_cons_zero]; rfl) (by kernel_rfl) (by kernel_rfl) (by kernel_rfl) (by exact fun _ _ _ h => h) (Or.inl ⟨by rfl, ?_⟩) hS ?_
                  rotate_left
                  · intro w hSw
                    go_simp
                    try with_reducible rfl
                  try simp only [Act.put, List.setIfInBounds_toArray, List.set_cons_zero, List.set_cons_succ]
                  refine wpAnyH_take (i := 9) (v := ?_) (by simp only [List.getElem?_toArray, List.getElem?_cons_succ, List.getElem?_cons_zero]; rfl) (by kernel_rfl) (by kernel_rfl) (by kernel_rfl) (by exact fun _ _ _ h => h) (Or.inl ⟨by rfl, ?_⟩) hS ?_
                  rotate_left
                  · intro w hSw
                    go_simp
                    try with_reducible rfl
                  try simp only [Act.put, List.setIfInBounds_toArray, List.set_cons_zero, List.set_cons_succ]
                  refine wpAnyH_take (i := 10) (v := ?_) (by simp only [List.getElem?_toArray, List.getElem?_cons_succ, List.getElem?_cons_zero]; rfl) (by kernel_rfl) (by kernel_rfl) (by kernel_rfl) (by exact fun _ _ _ h => h) (Or.inl ⟨by rfl, ?_⟩) hS ?_
                  rotate_left
                  · intro w hSw
                    go_simp
                    try with_reducible rfl
                  try simp only [Act.put, List.setIfInBounds_toArray, List.set_cons_zero, List.set_cons_succ]
                  refine wpAnyH_take (i := 11) (v := ?_) (by simp only [List.getElem?_toArray, List.getElem?_cons_succ, List.getElem?_cons_zero]; rfl) (by kernel_rfl) (by kernel_rfl) (by kernel_rfl) (by exact fun _ _ _ h => h) (Or.inl ⟨by rfl, ?_⟩) hS ?_
                  rotate_left
                  · intro w hSw
                    go_simp
                    try with_reducible rfl
                  try simp only [Act.put, List.setIfInBounds_toArray, List.set_cons_zero, List.set_cons_succ]
                  refine wpAnyH_take (i := 12) (v := ?_) (by simp only [List.getElem?_toArray, List.getElem?_cons_succ, List.getElem?_cons_zero]; rfl) (by kernel_rfl) (by kernel_rfl) (by kernel_rfl) (by exact fun _ _ _ h => h) (Or.inl ⟨by rfl, ?_⟩) hS ?_
                  rotate_left
                  · intro w hSw
                    go_simp
                    try with_reducible rfl
                  try simp only [Act.put, List.setIfInBounds_toArray, List.set_cons_zero, List.set_cons_succ]
                  refine wpAnyH_take (i := 14) (v := .agg MV) (by simp only [List.getElem?_toArray, List.getElem?_cons_succ, List.getElem?_cons_zero]; rfl) (by kernel_rfl) (by kernel_rfl) (by kernel_rfl) (by exact fun _ _ _ h => h) (Or.inl ⟨by rfl, ?_⟩) hS ?_
                  · intro wz hSw
                    exact ShU.exec_load 27 (.tmp 16) rfl ⟨w7.heap.size, 0, none⟩ rfl _ wz hSw.2
                  try simp only [Act.put, List.setIfInBounds_toArray, List.set_cons_zero, List.set_cons_succ]
                  refine wpAnyH_ready (rs := [13]) (by kernel_rfl) (by simp) ?_
                  refine AllReadyH.cons (by simp only [List.getElem?_toArray, List.getElem?_cons_succ, List.getElem?_cons_zero]; rfl) (fun K hK => ?_) AllReadyH.nil
                  go_simp
                  go_at_call 17
                  refine (HSM.out _ Lq.out).mono ?_
                  rintro e wq ⟨rfl, bq⟩
                  have L12 := Lib.hid (Lq.out.trans (bq.mono Lq.out.size))
                  have Q12 := Lib.hid (Qq.out.below bq Qq.out.lt)
                  clear bq Lq Qq
                  refine hK.out _ _ ⟨HCL.out _ L12.out, loadOf27 Q12.out iM.out⟩ (fun hS => ?_)
                  clear hK K
                  try simp only [Act.put, List.setIfInBounds_toArray, List.set_cons_zero, List.set_cons_succ]
                  refine wpAnyH_take (i := 15) (v := .bool false) (by simp only [List.getElem?_toArray, List.getElem?_cons_succ, List.getElem?_cons_zero]; rfl) (by kernel_rfl) (by kernel_rfl) (by kernel_rfl) (by exact fun _ _ _ h => h) (Or.inl ⟨by rfl, ?_⟩) hS ?_
                  · intro wz hSw
                    exact exec_neq27 (.tmp 94) (.tmp 95) rfl MV MV rfl rfl _ wz (HNM.out wz)
                  try simp only [Act.put, List.setIfInBounds_toArray, List.set_cons_zero, List.set_cons_succ]
                  refine wpAnyH_take (i := 16) (v := ?_) (by simp only [List.getElem?_toArray, List.getElem?_cons_succ, List.getElem?_cons_zero]; rfl) (by kernel_rfl) (by kernel_rfl) (by kernel_rfl) (by exact fun _ _ _ h => h) (Or.inl ⟨by rfl, ?_⟩) hS ?_
                  rotate_left
                  · intro w hSw
                    go_simp
                    try with_reducible rfl
                  try simp only [Act.put, List.setIfInBounds_toArray, List.set_cons_zero, List.set_cons_succ]
                  refine wpAnyH_take (i := 17) (v := ?_) (by simp only [List.getElem?_toArray, List.getElem?_cons_succ, List.getElem?_cons_zero]; rfl) (by kernel_rfl) (by kernel_rfl) (by kernel_rfl) (by exact fun _ _ _ h => h) (Or.inl ⟨by rfl, ?_⟩) hS ?_
                  rotate_left
                  · intro w hSw
                    go_simp
                    try with_reducible rfl
                  try simp only [Act.put, List.setIfInBounds_toArray, List.set_cons_zero, List.set_cons_succ]
                  refine wpAnyH_take (i := 18) (v := ?_) (by simp only [List.getElem?_toArray, List.getElem?_cons_succ, List.getElem?_cons_zero]; rfl) (by kernel_rfl) (by kernel_rfl) (by kernel_rfl) (by exact fun _ _ _ h => h) (Or.inl ⟨by rfl, ?_⟩) hS ?_
                  rotate_left
                  · intro w hSw
                    go_simp
                    try with_reducible rfl
                  try simp only [Act.put, List.setIfInBounds_toArray, List.set_cons_zero, List.set_cons_succ]
                  refine wpAnyH_take (i := 20) (v := .agg MV) (by simp only [List.getElem?_toArray, List.getElem?_cons_succ, List.getElem?_cons_zero]; rfl) (by kernel_rfl) (by kernel_rfl) (by kernel_rfl) (by exact fun _ _ _ h => h) (Or.inl ⟨by rfl, ?_⟩) hS ?_
                  · intro wz hSw
                    exact ShU.exec_load 27 (.tmp 16) rfl ⟨w7.heap.size, 0, none⟩ rfl _ wz hSw.2
                  try simp only [Act.put, List.setIfInBounds_toArray, List.set_cons_zero, List.set_cons_succ]
                  refine wpAnyH_ready (rs := [19]) (by kernel_rfl) (by simp) ?_
                  refine AllReadyH.cons (by simp only [List.getElem?_toArray, List.getElem?_cons_succ, List.getElem?_cons_zero]; rfl) (fun K hK => ?_) AllReadyH.nil
                  go_simp
                  go_at_call 17
                  refine (HSM.out _ L12.out).mono ?_
                  rintro e wr2 ⟨rfl, bq⟩
                  have L13 := Lib.hid (L12.out.trans (bq.mono L12.out.size))
                  have Q13 := Lib.hid (Q12.out.below bq Q12.out.lt)
                  clear bq L12 Q12
                  refine hK.out _ _ ⟨HCL.out _ L13.out, loadOf27 Q13.out iM.out⟩ (fun hS => ?_)
                  clear hK K
                  try simp only [Act.put, List.setIfInBounds_toArray, List.set_cons_zero, List.set_cons_succ]
                  refine wpAnyH_take (i := 21) (v := .bool false) (by simp only [List.getElem?_toArray, List.getElem?_cons_succ, List.getElem?_cons_zero]; rfl) (by kernel_rfl) (by kernel_rfl) (by kernel_rfl) (by exact fun _ _ _ h => h) (Or.inl ⟨by rfl, ?_⟩) hS ?_
                  · intro wz hSw
                    exact exec_neq27 (.tmp 100) (.tmp 101) rfl MV MV rfl rfl _ wz (HNM.out wz)
                  try simp only [Act.put, List.setIfInBounds_toArray, List.set_cons_zero, List.set_cons_succ]
                  refine wpAnyH_take (i := 22) (v := ?_) (by simp only [List.getElem?_toArray, List.getElem?_cons_succ, List.getElem?_cons_zero]; rfl) (by kernel_rfl) (by kernel_rfl) (by kernel_rfl) (by exact fun _ _ _ h => h) (Or.inl ⟨by rfl, ?_⟩) hS ?_
                  rotate_left
                  · intro w hSw
                    go_simp
                    try with_reducible rfl
                  try simp only [Act.put, List.setIfInBounds_toArray, List.set_cons_zero, List.set_cons_succ]
                  refine wpAnyH_done (by kernel_rfl) ?_ _
                  have D14 := Lib.hid (D7.out.below L13.out D7.out.lt)
                  have O14 := Lib.hid (own_below O7.out L13.out)
                  have B14 := Lib.hid (B7.out.trans (L13.out.mono B7.out.size))
                  have S14 := Lib.hid (Nat.le_trans S7.out L13.out.size)
                  go_wp2_with fail
                  go_roundw
                  case rel => exact ⟨i + 1, nx, (ps.getD i []), a2, c2, by omega, hlen.out, hroom.out.2, by go_num, rfl, O14.out, D14.out, B14.out, S14.out⟩
                  case measure => simp [intOf]; omega
                | false =>
                  replace hml := Lib.hid hml
                  replace hNle := Lib.hid hNle
                  have pc4 := hcell wr DB.out
                  go_wp2_with fail
                  refine (HWR.out q (some (wk key)) m (ps.getD i []) ax nx cx wr DB.out qw.out DD.out hone.out).mono ?_
                  rintro e w5 ⟨rfl, hd5, hg5⟩
                  clear pc4
                  have D5 : Hid (Dd w5 q (some (wk key)) (m ++ ps.getD i [])) := Lib.hid hd5
                  have O5 := Lib.hid (own_gb OO.out hg5 (fun q e1 e2 => by have h1 := (OO.out.blocks q e1).1; injection e2 with e2; have := qb.out; omega))
                  have B5 := Lib.hid (Below.gb DB.out hg5 qw.out DB.out.size)
                  have S5 := Lib.hid (Nat.le_trans SZ.out hg5.size)
                  have rd5 := Lib.hid (hrd.out w5 B5.out)
                  clear hd5 hg5
                  have pc5 := hcell w5 B5.out
                  have hlen : Hid ((m ++ ps.getD i []).length = (N + nx)) := Lib.hid (by first | exact hnx.out | rw [List.length_append, hnx.out, hml.out])
                  have hroom : Hid ((N + nx) ≤ 4096 ∧ (N + nx) ≤ ((ps.take (i + 1)).flatten).length) := Lib.hid (by
                    have h5 := HFL.out (i + 1)
                    have h6 := HFT.out i hlt
                    have h7 := hT.out
                    have h8 := hNle.out
                    rw [← h6, List.length_append, hnx.out] at h5 ⊢
                    omega)
                  go_wp2_with (at_builtin; refine RfH.wpList_app2 rfl (.tmp 69) (.tmp 73) rfl w4.heap.size (.slice a1 N c1) m rfl O5.out ax (ps.getD i []) nx cx rfl hnx.out rd5.out (m ++ ps.getD i []) (N + nx) rfl hlen.out (by have := hroom.out; omega) S5.out ?_; intro a2 c2 w6 hO6 hg6)
                  clear pc5
                  have hne6 : ∀ k, (Value.slice a1 N c1).ownBlock = some k → w4.heap.size ≤ k := fun k e => (O5.out.blocks k e).1
                  have D6 := Lib.hid (ShY.Dd.gb D5.out hg6 (fun e => by have := hne6 _ e; have := qb.out; omega))
                  have B6 := Lib.hid (B5.out.grown hg6 B5.out.size (fun k e => by have := hne6 k e; have := hbw.out; omega))
                  have O6 := Lib.hid hO6
                  have S6 := Lib.hid (Nat.le_trans S5.out hg6.size)
                  clear hO6 hg6 hne6 D5 O5 B5 S5 rd5
                  go_wp2_with fail
                  refine (HRS.out _ (N + nx) a2 c2 w6 (own_base O6.out hbw.out) hroom.out.1).mono ?_
                  rintro e w7 ⟨rfl, b7⟩
                  have D7 := Lib.hid (D6.out.below b7 D6.out.lt)
                  have O7 := Lib.hid (own_below O6.out b7)
                  have B7 := Lib.hid (B6.out.trans (b7.mono B6.out.size))
                  have S7 := Lib.hid (Nat.le_trans S6.out b7.size)
                  obtain ⟨RV, hRV⟩ : ∃ RV, RV = b32 (dig none (m ++ ps.getD i [])) := ⟨_, rfl⟩
                  rw [← hRV]
                  have iR : Hid ((Tryd.prog.info? 27).map (·.size) = some RV.size) := Lib.hid (by rw [hRV, b32_size]; exact i27)
                  have sR : Hid (Z.size = RV.size) := Lib.hid (by rw [hRV, hZ.out, b32_size, b32_size])
                  have oR : Hid (RV.all (·.oneCell') = true) := Lib.hid (by rw [hRV]; exact b32_one _)
                  clear b7 D6 O6 B6 S6
                  replace hRV := Lib.hid hRV
                  go_wp2_with (first
                    | ((with_reducible show wpList _ _ _ (Oper.mk (some 16) (Op.alloc 27) _ _ _ _ :: _) _ _); refine RfF.alloc27 rfl rfl Z hZ.out ?_; intro w8 hB8 hb8 hn8; clear hn8)
                    | ((with_reducible show wpList _ _ _ (Oper.mk _ (Op.store 27 (.tmp 16) (.tmp 76)) _ _ _ _ :: _) _ _); refine Mem.storeBlk 27 (.tmp 16) (.tmp 76) rfl w7.heap.size rfl Z RV rfl 27 hB8 iR.out sR.out oR.out w7.heap.size w7 hb8 (Nat.le_refl _) rfl ?_; intro w9 hB9 hb9
                       have Q9 := Lib.hid hB9
                       have L9 := Lib.hid hb9
                       have X9 := Lib.hid (B7.out.trans (hb9.mono B7.out.size))
                       clear hB8 hb8 hB9 hb9))
                  refine (HRM.out _ (N + nx) a2 c2 w9 X9.out hnk4.out (own_base (own_below O7.out L9.out) hbw.out) hroom.out.1).mono ?_
                  rintro e w10 ⟨rfl, b10⟩
                  have Q10 := Lib.hid (Q9.out.below b10 Q9.out.lt)
                  have L10 := Lib.hid (L9.out.trans (b10.mono L9.out.size))
                  obtain ⟨MV, hMV⟩ : ∃ MV, MV = b32 (dig (some (wk key)) (m ++ ps.getD i [])) := ⟨_, rfl⟩
                  rw [← hMV]
                  have iM : Hid ((Tryd.prog.info? 27).map (·.size) = some MV.size) := Lib.hid (by rw [hMV, b32_size]; exact i27)
                  have sM : Hid (RV.size = MV.size) := Lib.hid (by rw [hRV.out, hMV, b32_size, b32_size])
                  have oM : Hid (MV.all (·.oneCell') = true) := Lib.hid (by rw [hMV]; exact b32_one _)
                  clear b10 Q9 L9 X9
                  replace hMV := Lib.hid hMV
                  go_wp2_with (first
                    | ((with_reducible show wpList _ _ _ (Oper.mk _ (Op.store 27 (.tmp 16) (.tmp 80)) _ _ _ _ :: _) _ _); refine Mem.storeBlk 27 (.tmp 16) (.tmp 80) rfl w7.heap.size rfl RV MV rfl 27 Q10.out iM.out sM.out oM.out w7.heap.size w7 L10.out (Nat.le_refl _) rfl ?_; intro w11 hB11 hb11
                       have Q11 := Lib.hid hB11
                       have L11 := Lib.hid hb11
                       clear hB11 hb11))
                  have HNM : Hid (∀ w, (binOp .neq 27 (.agg MV) (.agg MV)).run Tryd.prog w = .ok (.bool false) w) := Lib.hid (by rw [hMV.out]; exact neqSame27 _)
                  have HSM : Hid (∀ w', Below w7.heap.size w7 w' → Calls Tryd.prog 17 #[.pointer (some ⟨q, 0, none⟩)] w' fun e w'' => e = .returned (.agg MV) ∧ Below w'.heap.size w' w'') := Lib.hid fun w' hbb => by
                    rw [hMV.out]
                    exact HSUM.out q (some (wk key)) _ w' (B7.out.trans (hbb.mono B7.out.size)) (D7.out.below hbb D7.out.lt)
                  have HCL : Hid (∀ w', Below w7.heap.size w7 w' → w'.cell? ⟨b, off + i, none⟩ = some (.slice ax nx cx)) := Lib.hid fun w' hbb => hcell w' (B7.out.trans (hbb.mono B7.out.size))
                  have Lq := Lib.hid L11.out.drew
                  have Qq := Lib.hid Q11.out.drew
                  clear L11 Q11
                  refine wp_region_held_drew (S := fun w' => w'.cell? ⟨b, off + i, none⟩ = some (.slice ax nx cx) ∧ (loadVar 27 ⟨w7.heap.size, 0, none⟩).run Tryd.prog w' = .ok (.agg MV) w') (by kernel_rfl) ⟨HCL.out _ Lq.out, loadOf27 Qq.out iM.out⟩ (fun hS => ?_)
                  try simp only [List.size_toArray, List.length_cons, List.length_nil, Nat.reduceAdd]
                  refine wpAnyH_take (i := 0) (v := ?_) (by simp only [List.getElem?_toArray, List.getElem?_cons_zero]; rfl) (by kernel_rfl) (by kernel_rfl) (by kernel_rfl) (by exact fun _ _ _ h => h) (Or.inl ⟨by rfl, ?_⟩) hS ?_
                  rotate_left
                  · intro w hSw
                    go_simp
                    try with_reducible rfl
                  try simp only [Act.put, List.setIfInBounds_toArray, List.set_cons_zero, List.set_cons_succ]
                  refine wpAnyH_take (i := 1) (v := ?_) (by simp only [List.getElem?_toArray, List.getElem?_cons_succ, List.getElem?_cons_zero]; rfl) (by kernel_rfl) (by kernel_rfl) (by kernel_rfl) (by exact fun _ _ _ h => h) (Or.inl ⟨by rfl, ?_⟩) hS ?_
                  rotate_left
                  · intro w hSw
                    go_simp
                    try with_reducible rfl
                  try simp only [Act.put, List.setIfInBounds_toArray, List.set_cons_zero, List.set_cons_succ]
                  refine wpAnyH_take (i := 2) (v := ?_) (by simp only [List.getElem?_toArray, List.getElem?_cons_succ, List.getElem?_cons_zero]; rfl) (by kernel_rfl) (by kernel_rfl) (by kernel_rfl) (by exact fun _ _ _ h => h) (Or.inl ⟨by rfl, ?_⟩) hS ?_
                  rotate_left
                  · intro w hSw
                    go_simp
                    try with_reducible rfl
                  try simp only [Act.put, List.setIfInBounds_toArray, List.set_cons_zero, List.set_cons_succ]
                  refine wpAnyH_take (i := 3) (v := ?_) (by simp only [List.getElem?_toArray, List.getElem?_cons_succ, List.getElem?_cons_zero]; rfl) (by kernel_rfl) (by kernel_rfl) (by kernel_rfl) (by exact fun _ _ _ h => h) (Or.inl ⟨by rfl, ?_⟩) hS ?_
                  rotate_left
                  · intro w hSw
                    go_simp
                    try with_reducible rfl
                  try simp only [Act.put, List.setIfInBounds_toArray, List.set_cons_zero, List.set_cons_succ]
                  refine wpAnyH_take (i := 4) (v := ?_) (by simp only [List.getElem?_toArray, List.getElem?_cons_succ, List.getElem?_cons_zero]; rfl) (by kernel_rfl) (by kernel_rfl) (by kernel_rfl) (by exact fun _ _ _ h => h) (Or.inl ⟨by rfl, ?_⟩) hS ?_
                  rotate_left
                  · intro w hSw
                    have hcl := hSw.1
                    go_simp
                    try with_reducible rfl
                  try simp only [Act.put, List.setIfInBounds_toArray, List.set_cons_zero, List.set_cons_succ]
                  refine wpAnyH_take (i := 5) (v := ?_) (by simp only [List.getElem?_toArray, List.getElem?_cons_succ, List.getElem?_cons_zero]; rfl) (by kernel_rfl) (by kernel_rfl) (by kernel_rfl) (by exact fun _ _ _ h => h) (Or.inl ⟨by rfl, ?_⟩) hS ?_
                  rotate_left
                  · intro w hSw
                    go_simp
                    try with_reducible rfl
                  try simp only [Act.put, List.setIfInBounds_toArray, List.set_cons_zero, List.set_cons_succ]
                  refine wpAnyH_take (i := 6) (v := ?_) (by simp only [List.getElem?_toArray, List.getElem?_cons_succ, List.getElem?_cons_zero]; rfl) (by kernel_rfl) (by kernel_rfl) (by kernel_rfl) (by exact fun _ _ _ h => h) (Or.inl ⟨by rfl, ?_⟩) hS ?_
                  rotate_left
                  · intro w hSw
                    go_simp
                    try with_reducible rfl
                  try simp only [Act.put, List.setIfInBounds_toArray, List.set_cons_zero, List.set_cons_succ]
                  refine wpAnyH_take (i := 7) (v := ?_) (by simp only [List.getElem?_toArray, List.getElem?_cons_succ, List.getElem?_cons_zero]; rfl) (by kernel_rfl) (by kernel_rfl) (by kernel_rfl) (by exact fun _ _ _ h => h) (Or.inl ⟨by rfl, ?_⟩) hS ?_
                  rotate_left
                  · intro w hSw
                    go_simp
                    try with_reducible rfl
                  try simp only [Act.put, List.setIfInBounds_toArray, List.set_cons_zero, List.set_cons_succ]
                  refine wpAnyH_take (i := 8) (v := ?_) (by simp only [List.getElem?_toArray, List.getElem?_cons_succ, List.getElem?_cons_zero]; rfl) (by kernel_rfl) (by kernel_rfl) (by kernel_rfl) (by exact fun _ _ _ h => h) (Or.inl ⟨by rfl, ?_⟩) hS ?_
                  rotate_left
                  · intro w hSw
                    go_simp
                    try with_reducible rfl
                  try simp only [Act.put, List.setIfInBounds_toArray, List.set_cons_zero, List.set_cons_succ]
                  refine wpAnyH_take (i := 9) (v := ?_) (by simp only [List.getElem?_toArray, List.getElem?_cons_succ, List.getElem?_cons_zero]; rfl) (by kernel_rfl) (by kernel_rfl) (by kernel_rfl) (by exact fun _ _ _ h => h) (Or.inl ⟨by rfl, ?_⟩) hS ?_
                  rotate_left
                  · intro w hSw
                    go_simp
                    try with_reducible rfl
                  try simp only [Act.put, List.setIfInBounds_toArray, List.set_cons_zero, List.set_cons_succ]
                  refine wpAnyH_take (i := 10) (v := ?_) (by simp only [List.getElem?_toArray, List.getElem?_cons_succ, List.getElem?_cons_zero]; rfl) (by kernel_rfl) (by kernel_rfl) (by kernel_rfl) (by exact fun _ _ _ h => h) (Or.inl ⟨by rfl, ?_⟩) hS ?_
                  rotate_left
                  · intro w hSw
                    go_simp
                    try with_reducible rfl
                  try simp only [Act.put, List.setIfInBounds_toArray, List.set_cons_zero, List.set_cons_succ]
                  refine wpAnyH_take (i := 11) (v := ?_) (by simp only [List.getElem?_toArray, List.getElem?_cons_succ, List.getElem?_cons_zero]; rfl) (by kernel_rfl) (by kernel_rfl) (by kernel_rfl) (by exact fun _ _ _ h => h) (Or.inl ⟨by rfl, ?_⟩) hS ?_
                  rotate_left
                  · intro w hSw
                    go_simp
                    try with_reducible rfl
                  try simp only [Act.put, List.setIfInBounds_toArray, List.set_cons_zero, List.set_cons_succ]
                  refine wpAnyH_take (i := 12) (v := ?_) (by simp only [List.getElem?_toArray, List.getElem?_cons_succ, List.getElem?_cons_zero]; rfl) (by kernel_rfl) (by kernel_rfl) (by kernel_rfl) (by exact fun _ _ _ h => h) (Or.inl ⟨by rfl, ?_⟩) hS ?_
                  rotate_left
                  · intro w hSw
                    go_simp
                    try with_reducible rfl
                  try simp only [Act.put, List.setIfInBounds_toArray, List.set_cons_zero, List.set_cons_succ]
                  refine wpAnyH_take (i := 14) (v := .agg MV) (by simp only [List.getElem?_toArray, List.getElem?_cons_succ, List.getElem?_cons_zero]; rfl) (by kernel_rfl) (by kernel_rfl) (by kernel_rfl) (by exact fun _ _ _ h => h) (Or.inl ⟨by rfl, ?_⟩) hS ?_
                  · intro wz hSw
                    exact ShU.exec_load 27 (.tmp 16) rfl ⟨w7.heap.size, 0, none⟩ rfl _ wz hSw.2
                  try simp only [Act.put, List.setIfInBounds_toArray, List.set_cons_zero, List.set_cons_succ]
                  refine wpAnyH_ready (rs := [13]) (by kernel_rfl) (by simp) ?_
                  refine AllReadyH.cons (by simp only [List.getElem?_toArray, List.getElem?_cons_succ, List.getElem?_cons_zero]; rfl) (fun K hK => ?_) AllReadyH.nil
                  go_simp
                  go_at_call 17
                  refine (HSM.out _ Lq.out).mono ?_
                  rintro e wq ⟨rfl, bq⟩
                  have L12 := Lib.hid (Lq.out.trans (bq.mono Lq.out.size))
                  have Q12 := Lib.hid (Qq.out.below bq Qq.out.lt)
                  clear bq Lq Qq
                  refine hK.out _ _ ⟨HCL.out _ L12.out, loadOf27 Q12.out iM.out⟩ (fun hS => ?_)
                  clear hK K
                  try simp only [Act.put, List.setIfInBounds_toArray, List.set_cons_zero, List.set_cons_succ]
                  refine wpAnyH_take (i := 15) (v := .bool false) (by simp only [List.getElem?_toArray, List.getElem?_cons_succ, List.getElem?_cons_zero]; rfl) (by kernel_rfl) (by kernel_rfl) (by kernel_rfl) (by exact fun _ _ _ h => h) (Or.inl ⟨by rfl, ?_⟩) hS ?_
                  · intro wz hSw
                    exact exec_neq27 (.tmp 94) (.tmp 95) rfl MV MV rfl rfl _ wz (HNM.out wz)
                  try simp only [Act.put, List.setIfInBounds_toArray, List.set_cons_zero, List.set_cons_succ]
                  refine wpAnyH_take (i := 16) (v := ?_) (by simp only [List.getElem?_toArray, List.getElem?_cons_succ, List.getElem?_cons_zero]; rfl) (by kernel_rfl) (by kernel_rfl) (by kernel_rfl) (by exact fun _ _ _ h => h) (Or.inl ⟨by rfl, ?_⟩) hS ?_
                  rotate_left
                  · intro w hSw
                    go_simp
                    try with_reducible rfl
                  try simp only [Act.put, List.setIfInBounds_toArray, List.set_cons_zero, List.set_cons_succ]
                  refine wpAnyH_take (i := 17) (v := ?_) (by simp only [List.getElem?_toArray, List.getElem?_cons_succ, List.getElem?_cons_zero]; rfl) (by kernel_rfl) (by kernel_rfl) (by kernel_rfl) (by exact fun _ _ _ h => h) (Or.inl ⟨by rfl, ?_⟩) hS ?_
                  rotate_left
                  · intro w hSw
                    go_simp
                    try with_reducible rfl
                  try simp only [Act.put, List.setIfInBounds_toArray, List.set_cons_zero, List.set_cons_succ]
                  refine wpAnyH_take (i := 18) (v := ?_) (by simp only [List.getElem?_toArray, List.getElem?_cons_succ, List.getElem?_cons_zero]; rfl) (by kernel_rfl) (by kernel_rfl) (by kernel_rfl) (by exact fun _ _ _ h => h) (Or.inl ⟨by rfl, ?_⟩) hS ?_
                  rotate_left
                  · intro w hSw
                    go_simp
                    try with_reducible rfl
                  try simp only [Act.put, List.setIfInBounds_toArray, List.set_cons_zero, List.set_cons_succ]
                  refine wpAnyH_take (i := 20) (v := .agg MV) (by simp only [List.getElem?_toArray, List.getElem?_cons_succ, List.getElem?_cons_zero]; rfl) (by kernel_rfl) (by kernel_rfl) (by kernel_rfl) (by exact fun _ _ _ h => h) (Or.inl ⟨by rfl, ?_⟩) hS ?_
                  · intro wz hSw
                    exact ShU.exec_load 27 (.tmp 16) rfl ⟨w7.heap.size, 0, none⟩ rfl _ wz hSw.2
                  try simp only [Act.put, List.setIfInBounds_toArray, List.set_cons_zero, List.set_cons_succ]
                  refine wpAnyH_ready (rs := [19]) (by kernel_rfl) (by simp) ?_
                  refine AllReadyH.cons (by simp only [List.getElem?_toArray, List.getElem?_cons_succ, List.getElem?_cons_zero]; rfl) (fun K hK => ?_) AllReadyH.nil
                  go_simp
                  go_at_call 17
                  refine (HSM.out _ L12.out).mono ?_
                  rintro e wr2 ⟨rfl, bq⟩
                  have L13 := Lib.hid (L12.out.trans (bq.mono L12.out.size))
                  have Q13 := Lib.hid (Q12.out.below bq Q12.out.lt)
                  clear bq L12 Q12
                  refine hK.out _ _ ⟨HCL.out _ L13.out, loadOf27 Q13.out iM.out⟩ (fun hS => ?_)
                  clear hK K
                  try simp only [Act.put, List.setIfInBounds_toArray, List.set_cons_zero, List.set_cons_succ]
                  refine wpAnyH_take (i := 21) (v := .bool false) (by simp only [List.getElem?_toArray, List.getElem?_cons_succ, List.getElem?_cons_zero]; rfl) (by kernel_rfl) (by kernel_rfl) (by kernel_rfl) (by exact fun _ _ _ h => h) (Or.inl ⟨by rfl, ?_⟩) hS ?_
                  · intro wz hSw
                    exact exec_neq27 (.tmp 100) (.tmp 101) rfl MV MV rfl rfl _ wz (HNM.out wz)
                  try simp only [Act.put, List.setIfInBounds_toArray, List.set_cons_zero, List.set_cons_succ]
                  refine wpAnyH_take (i := 22) (v := ?_) (by simp only [List.getElem?_toArray, List.getElem?_cons_succ, List.getElem?_cons_zero]; rfl) (by kernel_rfl) (by kernel_rfl) (by kernel_rfl) (by exact fun _ _ _ h => h) (Or.inl ⟨by rfl, ?_⟩) hS ?_
                  rotate_left
                  · intro w hSw
                    go_simp
                    try with_reducible rfl
                  try simp only [Act.put, List.setIfInBounds_toArray, List.set_cons_zero, List.set_cons_succ]
                  refine wpAnyH_done (by kernel_rfl) ?_ _
                  have D14 := Lib.hid (D7.out.below L13.out D7.out.lt)
                  have O14 := Lib.hid (own_below O7.out L13.out)
                  have B14 := Lib.hid (B7.out.trans (L13.out.mono B7.out.size))
                  have S14 := Lib.hid (Nat.le_trans S7.out L13.out.size)
                  go_wp2_with fail
                  go_roundw
                  case rel => exact ⟨i + 1, (N + nx), (m ++ ps.getD i []), a2, c2, by omega, hlen.out, hroom.out.2, by go_num, rfl, O14.out, D14.out, B14.out, S14.out⟩
                  case measure => simp [intOf]; omega
              · have hir' : ¬ (i : Int) < (nr : Int) := by omega
                replace hml := Lib.hid hml
                replace hNle := Lib.hid hNle
                have pc4 := hcell wr DB.out
                go_wp2_with fail
                refine (HWR.out q (some (wk key)) m (ps.getD i []) ax nx cx wr DB.out qw.out DD.out hone.out).mono ?_
                rintro e w5 ⟨rfl, hd5, hg5⟩
                clear pc4
                have D5 : Hid (Dd w5 q (some (wk key)) (m ++ ps.getD i [])) := Lib.hid hd5
                have O5 := Lib.hid (own_gb OO.out hg5 (fun q e1 e2 => by have h1 := (OO.out.blocks q e1).1; injection e2 with e2; have := qb.out; omega))
                have B5 := Lib.hid (Below.gb DB.out hg5 qw.out DB.out.size)
                have S5 := Lib.hid (Nat.le_trans SZ.out hg5.size)
                have rd5 := Lib.hid (hrd.out w5 B5.out)
                clear hd5 hg5
                have pc5 := hcell w5 B5.out
                have hlen : Hid ((m ++ ps.getD i []).length = (N + nx)) := Lib.hid (by first | exact hnx.out | rw [List.length_append, hnx.out, hml.out])
                have hroom : Hid ((N + nx) ≤ 4096 ∧ (N + nx) ≤ ((ps.take (i + 1)).flatten).length) := Lib.hid (by
                  have h5 := HFL.out (i + 1)
                  have h6 := HFT.out i hlt
                  have h7 := hT.out
                  have h8 := hNle.out
                  rw [← h6, List.length_append, hnx.out] at h5 ⊢
                  omega)
                go_wp2_with (at_builtin; refine RfH.wpList_app2 rfl (.tmp 69) (.tmp 73) rfl w4.heap.size (.slice a1 N c1) m rfl O5.out ax (ps.getD i []) nx cx rfl hnx.out rd5.out (m ++ ps.getD i []) (N + nx) rfl hlen.out (by have := hroom.out; omega) S5.out ?_; intro a2 c2 w6 hO6 hg6)
                clear pc5
                have hne6 : ∀ k, (Value.slice a1 N c1).ownBlock = some k → w4.heap.size ≤ k := fun k e => (O5.out.blocks k e).1
                have D6 := Lib.hid (ShY.Dd.gb D5.out hg6 (fun e => by have := hne6 _ e; have := qb.out; omega))
                have B6 := Lib.hid (B5.out.grown hg6 B5.out.size (fun k e => by have := hne6 k e; have := hbw.out; omega))
                have O6 := Lib.hid hO6
                have S6 := Lib.hid (Nat.le_trans S5.out hg6.size)
                clear hO6 hg6 hne6 D5 O5 B5 S5 rd5
                go_wp2_with fail
                refine (HRS.out _ (N + nx) a2 c2 w6 (own_base O6.out hbw.out) hroom.out.1).mono ?_
                rintro e w7 ⟨rfl, b7⟩
                have D7 := Lib.hid (D6.out.below b7 D6.out.lt)
                have O7 := Lib.hid (own_below O6.out b7)
                have B7 := Lib.hid (B6.out.trans (b7.mono B6.out.size))
                have S7 := Lib.hid (Nat.le_trans S6.out b7.size)
                obtain ⟨RV, hRV⟩ : ∃ RV, RV = b32 (dig none (m ++ ps.getD i [])) := ⟨_, rfl⟩
                rw [← hRV]
                have iR : Hid ((Tryd.prog.info? 27).map (·.size) = some RV.size) := Lib.hid (by rw [hRV, b32_size]; exact i27)
                have sR : Hid (Z.size = RV.size) := Lib.hid (by rw [hRV, hZ.out, b32_size, b32_size])
                have oR : Hid (RV.all (·.oneCell') = true) := Lib.hid (by rw [hRV]; exact b32_one _)
                clear b7 D6 O6 B6 S6
                replace hRV := Lib.hid hRV
                go_wp2_with (first
                  | ((with_reducible show wpList _ _ _ (Oper.mk (some 16) (Op.alloc 27) _ _ _ _ :: _) _ _); refine RfF.alloc27 rfl rfl Z hZ.out ?_; intro w8 hB8 hb8 hn8; clear hn8)
                  | ((with_reducible show wpList _ _ _ (Oper.mk _ (Op.store 27 (.tmp 16) (.tmp 76)) _ _ _ _ :: _) _ _); refine Mem.storeBlk 27 (.tmp 16) (.tmp 76) rfl w7.heap.size rfl Z RV rfl 27 hB8 iR.out sR.out oR.out w7.heap.size w7 hb8 (Nat.le_refl _) rfl ?_; intro w9 hB9 hb9
                     have Q9 := Lib.hid hB9
                     have L9 := Lib.hid hb9
                     have X9 := Lib.hid (B7.out.trans (hb9.mono B7.out.size))
                     clear hB8 hb8 hB9 hb9))
                refine (HRM.out _ (N + nx) a2 c2 w9 X9.out hnk4.out (own_base (own_below O7.out L9.out) hbw.out) hroom.out.1).mono ?_
                rintro e w10 ⟨rfl, b10⟩
                have Q10 := Lib.hid (Q9.out.below b10 Q9.out.lt)
                have L10 := Lib.hid (L9.out.trans (b10.mono L9.out.size))
                obtain ⟨MV, hMV⟩ : ∃ MV, MV = b32 (dig (some (wk key)) (m ++ ps.getD i [])) := ⟨_, rfl⟩
                rw [← hMV]
                have iM : Hid ((Tryd.prog.info? 27).map (·.size) = some MV.size) := Lib.hid (by rw [hMV, b32_size]; exact i27)
                have sM : Hid (RV.size = MV.size) := Lib.hid (by rw [hRV.out, hMV, b32_size, b32_size])
                have oM : Hid (MV.all (·.oneCell') = true) := Lib.hid (by rw [hMV]; exact b32_one _)
                clear b10 Q9 L9 X9
                replace hMV := Lib.hid hMV
                go_wp2_with (first
                  | ((with_reducible show wpList _ _ _ (Oper.mk _ (Op.store 27 (.tmp 16) (.tmp 80)) _ _ _ _ :: _) _ _); refine Mem.storeBlk 27 (.tmp 16) (.tmp 80) rfl w7.heap.size rfl RV MV rfl 27 Q10.out iM.out sM.out oM.out w7.heap.size w7 L10.out (Nat.le_refl _) rfl ?_; intro w11 hB11 hb11
                     have Q11 := Lib.hid hB11
                     have L11 := Lib.hid hb11
                     clear hB11 hb11))
                have HNM : Hid (∀ w, (binOp .neq 27 (.agg MV) (.agg MV)).run Tryd.prog w = .ok (.bool false) w) := Lib.hid (by rw [hMV.out]; exact neqSame27 _)
                have HSM : Hid (∀ w', Below w7.heap.size w7 w' → Calls Tryd.prog 17 #[.pointer (some ⟨q, 0, none⟩)] w' fun e w'' => e = .returned (.agg MV) ∧ Below w'.heap.size w' w'') := Lib.hid fun w' hbb => by
                  rw [hMV.out]
                  exact HSUM.out q (some (wk key)) _ w' (B7.out.trans (hbb.mono B7.out.size)) (D7.out.below hbb D7.out.lt)
                have HCL : Hid (∀ w', Below w7.heap.size w7 w' → w'.cell? ⟨b, off + i, none⟩ = some (.slice ax nx cx)) := Lib.hid fun w' hbb => hcell w' (B7.out.trans (hbb.mono B7.out.size))
                have Lq := Lib.hid L11.out.drew
                have Qq := Lib.hid Q11.out.drew
                clear L11 Q11
                refine wp_region_held_drew (S := fun w' => w'.cell? ⟨b, off + i, none⟩ = some (.slice ax nx cx) ∧ (loadVar 27 ⟨w7.heap.size, 0, none⟩).run Tryd.prog w' = .ok (.agg MV) w') (by kernel_rfl) ⟨HCL.out _ Lq.out, loadOf27 Qq.out iM.out⟩ (fun hS => ?_)
                try simp only [List.size_toArray, List.length_cons, List.length_nil, Nat.reduceAdd]
                refine wpAnyH_take (i := 0) (v := ?_) (by simp only [List.getElem?_toArray, List.getElem?_cons_zero]; rfl) (by kernel_rfl) (by kernel_rfl) (by kernel_rfl) (by exact fun _ _ _ h => h) (Or.inl ⟨by rfl, ?_⟩) hS ?_
                rotate_left
                · intro w hSw
                  go_simp
                  try with_reducible rfl
                try simp only [Act.put, List.setIfInBounds_toArray, List.set_cons_zero, List.set_cons_succ]
                refine wpAnyH_take (i := 1) (v := ?_) (by simp only [List.getElem?_toArray, List.getElem?_cons_succ, List.getElem?_cons_zero]; rfl) (by kernel_rfl) (by kernel_rfl) (by kernel_rfl) (by exact fun _ _ _ h => h) (Or.inl ⟨by rfl, ?_⟩) hS ?_
                rotate_left
                · intro w hSw
                  go_simp
                  try with_reducible rfl
                try simp only [Act.put, List.setIfInBounds_toArray, List.set_cons_zero, List.set_cons_succ]
                refine wpAnyH_take (i := 2) (v := ?_) (by simp only [List.getElem?_toArray, List.getElem?_cons_succ, List.getElem?_cons_zero]; rfl) (by kernel_rfl) (by kernel_rfl) (by kernel_rfl) (by exact fun _ _ _ h => h) (Or.inl ⟨by rfl, ?_⟩) hS ?_
                rotate_left
                · intro w hSw
                  go_simp
                  try with_reducible rfl
                try simp only [Act.put, List.setIfInBounds_toArray, List.set_cons_zero, List.set_cons_succ]
                refine wpAnyH_take (i := 3) (v := ?_) (by simp only [List.getElem?_toArray, List.getElem?_cons_succ, List.getElem?_cons_zero]; rfl) (by kernel_rfl) (by kernel_rfl) (by kernel_rfl) (by exact fun _ _ _ h => h) (Or.inl ⟨by rfl, ?_⟩) hS ?_
                rotate_left
                · intro w hSw
                  go_simp
                  try with_reducible rfl
                try simp only [Act.put, List.setIfInBounds_toArray, List.set_cons_zero, List.set_cons_succ]
                refine wpAnyH_take (i := 4) (v := ?_) (by simp only [List.getElem?_toArray, List.getElem?_cons_succ, List.getElem?_cons_zero]; rfl) (by kernel_rfl) (by kernel_rfl) (by kernel_rfl) (by exact fun _ _ _ h => h) (Or.inl ⟨by rfl, ?_⟩) hS ?_
                rotate_left
                · intro w hSw
                  have hcl := hSw.1
                  go_simp
                  try with_reducible rfl
                try simp only [Act.put, List.setIfInBounds_toArray, List.set_cons_zero, List.set_cons_succ]
                refine wpAnyH_take (i := 5) (v := ?_) (by simp only [List.getElem?_toArray, List.getElem?_cons_succ, List.getElem?_cons_zero]; rfl) (by kernel_rfl) (by kernel_rfl) (by kernel_rfl) (by exact fun _ _ _ h => h) (Or.inl ⟨by rfl, ?_⟩) hS ?_
                rotate_left
                · intro w hSw
                  go_simp
                  try with_reducible rfl
                try simp only [Act.put, List.setIfInBounds_toArray, List.set_cons_zero, List.set_cons_succ]
                refine wpAnyH_take (i := 6) (v := ?_) (by simp only [List.getElem?_toArray, List.getElem?_cons_succ, List.getElem?_cons_zero]; rfl) (by kernel_rfl) (by kernel_rfl) (by kernel_rfl) (by exact fun _ _ _ h => h) (Or.inl ⟨by rfl, ?_⟩) hS ?_
                rotate_left
                · intro w hSw
                  go_simp
                  try with_reducible rfl
                try simp only [Act.put, List.setIfInBounds_toArray, List.set_cons_zero, List.set_cons_succ]
                refine wpAnyH_take (i := 7) (v := ?_) (by simp only [List.getElem?_toArray, List.getElem?_cons_succ, List.getElem?_cons_zero]; rfl) (by kernel_rfl) (by kernel_rfl) (by kernel_rfl) (by exact fun _ _ _ h => h) (Or.inl ⟨by rfl, ?_⟩) hS ?_
                rotate_left
                · intro w hSw
                  go_simp
                  try with_reducible rfl
                try simp only [Act.put, List.setIfInBounds_toArray, List.set_cons_zero, List.set_cons_succ]
                refine wpAnyH_take (i := 8) (v := ?_) (by simp only [List.getElem?_toArray, List.getElem?_cons_succ, List.getElem?_cons_zero]; rfl) (by kernel_rfl) (by kernel_rfl) (by kernel_rfl) (by exact fun _ _ _ h => h) (Or.inl ⟨by rfl, ?_⟩) hS ?_
                rotate_left
                · intro w hSw
                  go_simp
                  try with_reducible rfl
                try simp only [Act.put, List.setIfInBounds_toArray, List.set_cons_zero, List.set_cons_succ]
                refine wpAnyH_take (i := 9) (v := ?_) (by simp only [List.getElem?_toArray, List.getElem?_cons_succ, List.getElem?_cons_zero]; rfl) (by kernel_rfl) (by kernel_rfl) (by kernel_rfl) (by exact fun _ _ _ h => h) (Or.inl ⟨by rfl, ?_⟩) hS ?_
                rotate_left
                · intro w hSw
                  go_simp
                  try with_reducible rfl
                try simp only [Act.put, List.setIfInBounds_toArray, List.set_cons_zero, List.set_cons_succ]
                refine wpAnyH_take (i := 10) (v := ?_) (by simp only [List.getElem?_toArray, List.getElem?_cons_succ, List.getElem?_cons_zero]; rfl) (by kernel_rfl) (by kernel_rfl) (by kernel_rfl) (by exact fun _ _ _ h => h) (Or.inl ⟨by rfl, ?_⟩) hS ?_
                rotate_left
                · intro w hSw
                  go_simp
                  try with_reducible rfl
                try simp only [Act.put, List.setIfInBounds_toArray, List.set_cons_zero, List.set_cons_succ]
                refine wpAnyH_take (i := 11) (v := ?_) (by simp only [List.getElem?_toArray, List.getElem?_cons_succ, List.getElem?_cons_zero]; rfl) (by kernel_rfl) (by kernel_rfl) (by kernel_rfl) (by exact fun _ _ _ h => h) (Or.inl ⟨by rfl, ?_⟩) hS ?_
                rotate_left
                · intro w hSw
                  go_simp
                  try with_reducible rfl
                try simp only [Act.put, List.setIfInBounds_toArray, List.set_cons_zero, List.set_cons_succ]
                refine wpAnyH_take (i := 12) (v := ?_) (by simp only [List.getElem?_toArray, List.getElem?_cons_succ, List.getElem?_cons_zero]; rfl) (by kernel_rfl) (by kernel_rfl) (by kernel_rfl) (by exact fun _ _ _ h => h) (Or.inl ⟨by rfl, ?_⟩) hS ?_
                rotate_left
                · intro w hSw
                  go_simp
                  try with_reducible rfl
                try simp only [Act.put, List.setIfInBounds_toArray, List.set_cons_zero, List.set_cons_succ]
                refine wpAnyH_take (i := 14) (v := .agg MV) (by simp only [List.getElem?_toArray, List.getElem?_cons_succ, List.getElem?_cons_zero]; rfl) (by kernel_rfl) (by kernel_rfl) (by kernel_rfl) (by exact fun _ _ _ h => h) (Or.inl ⟨by rfl, ?_⟩) hS ?_
                · intro wz hSw
                  exact ShU.exec_load 27 (.tmp 16) rfl ⟨w7.heap.size, 0, none⟩ rfl _ wz hSw.2
                try simp only [Act.put, List.setIfInBounds_toArray, List.set_cons_zero, List.set_cons_succ]
                refine wpAnyH_ready (rs := [13]) (by kernel_rfl) (by simp) ?_
                refine AllReadyH.cons (by simp only [List.getElem?_toArray, List.getElem?_cons_succ, List.getElem?_cons_zero]; rfl) (fun K hK => ?_) AllReadyH.nil
                go_simp
                go_at_call 17
                refine (HSM.out _ Lq.out).mono ?_
                rintro e wq ⟨rfl, bq⟩
                have L12 := Lib.hid (Lq.out.trans (bq.mono Lq.out.size))
                have Q12 := Lib.hid (Qq.out.below bq Qq.out.lt)
                clear bq Lq Qq
                refine hK.out _ _ ⟨HCL.out _ L12.out, loadOf27 Q12.out iM.out⟩ (fun hS => ?_)
                clear hK K
                try simp only [Act.put, List.setIfInBounds_toArray, List.set_cons_zero, List.set_cons_succ]
                refine wpAnyH_take (i := 15) (v := .bool false) (by simp only [List.getElem?_toArray, List.getElem?_cons_succ, List.getElem?_cons_zero]; rfl) (by kernel_rfl) (by kernel_rfl) (by kernel_rfl) (by exact fun _ _ _ h => h) (Or.inl ⟨by rfl, ?_⟩) hS ?_
                · intro wz hSw
                  exact exec_neq27 (.tmp 94) (.tmp 95) rfl MV MV rfl rfl _ wz (HNM.out wz)
                try simp only [Act.put, List.setIfInBounds_toArray, List.set_cons_zero, List.set_cons_succ]
                refine wpAnyH_take (i := 16) (v := ?_) (by simp only [List.getElem?_toArray, List.getElem?_cons_succ, List.getElem?_cons_zero]; rfl) (by kernel_rfl) (by kernel_rfl) (by kernel_rfl) (by exact fun _ _ _ h => h) (Or.inl ⟨by rfl, ?_⟩) hS ?_
                rotate_left
                · intro w hSw
                  go_simp
                  try with_reducible rfl
                try simp only [Act.put, List.setIfInBounds_toArray, List.set_cons_zero, List.set_cons_succ]
                refine wpAnyH_take (i := 17) (v := ?_) (by simp only [List.getElem?_toArray, List.getElem?_cons_succ, List.getElem?_cons_zero]; rfl) (by kernel_rfl) (by kernel_rfl) (by kernel_rfl) (by exact fun _ _ _ h => h) (Or.inl ⟨by rfl, ?_⟩) hS ?_
                rotate_left
                · intro w hSw
                  go_simp
                  try with_reducible rfl
                try simp only [Act.put, List.setIfInBounds_toArray, List.set_cons_zero, List.set_cons_succ]
                refine wpAnyH_take (i := 18) (v := ?_) (by simp only [List.getElem?_toArray, List.getElem?_cons_succ, List.getElem?_cons_zero]; rfl) (by kernel_rfl) (by kernel_rfl) (by kernel_rfl) (by exact fun _ _ _ h => h) (Or.inl ⟨by rfl, ?_⟩) hS ?_
                rotate_left
                · intro w hSw
                  go_simp
                  try with_reducible rfl
                try simp only [Act.put, List.setIfInBounds_toArray, List.set_cons_zero, List.set_cons_succ]
                refine wpAnyH_take (i := 20) (v := .agg MV) (by simp only [List.getElem?_toArray, List.getElem?_cons_succ, List.getElem?_cons_zero]; rfl) (by kernel_rfl) (by kernel_rfl) (by kernel_rfl) (by exact fun _ _ _ h => h) (Or.inl ⟨by rfl, ?_⟩) hS ?_
                · intro wz hSw
                  exact ShU.exec_load 27 (.tmp 16) rfl ⟨w7.heap.size, 0, none⟩ rfl _ wz hSw.2
                try simp only [Act.put, List.setIfInBounds_toArray, List.set_cons_zero, List.set_cons_succ]
                refine wpAnyH_ready (rs := [19]) (by kernel_rfl) (by simp) ?_
                refine AllReadyH.cons (by simp only [List.getElem?_toArray, List.getElem?_cons_succ, List.getElem?_cons_zero]; rfl) (fun K hK => ?_) AllReadyH.nil
                go_simp
                go_at_call 17
                refine (HSM.out _ L12.out).mono ?_
                rintro e wr2 ⟨rfl, bq⟩
                have L13 := Lib.hid (L12.out.trans (bq.mono L12.out.size))
                have Q13 := Lib.hid (Q12.out.below bq Q12.out.lt)
                clear bq L12 Q12
                refine hK.out _ _ ⟨HCL.out _ L13.out, loadOf27 Q13.out iM.out⟩ (fun hS => ?_)
                clear hK K
                try simp only [Act.put, List.setIfInBounds_toArray, List.set_cons_zero, List.set_cons_succ]
                refine wpAnyH_take (i := 21) (v := .bool false) (by simp only [List.getElem?_toArray, List.getElem?_cons_succ, List.getElem?_cons_zero]; rfl) (by kernel_rfl) (by kernel_rfl) (by kernel_rfl) (by exact fun _ _ _ h => h) (Or.inl ⟨by rfl, ?_⟩) hS ?_
                · intro wz hSw
                  exact exec_neq27 (.tmp 100) (.tmp 101) rfl MV MV rfl rfl _ wz (HNM.out wz)
                try simp only [Act.put, List.setIfInBounds_toArray, List.set_cons_zero, List.set_cons_succ]
                refine wpAnyH_take (i := 22) (v := ?_) (by simp only [List.getElem?_toArray, List.getElem?_cons_succ, List.getElem?_cons_zero]; rfl) (by kernel_rfl) (by kernel_rfl) (by kernel_rfl) (by exact fun _ _ _ h => h) (Or.inl ⟨by rfl, ?_⟩) hS ?_
                rotate_left
                · intro w hSw
                  go_simp
                  try with_reducible rfl
                try simp only [Act.put, List.setIfInBounds_toArray, List.set_cons_zero, List.set_cons_succ]
                refine wpAnyH_done (by kernel_rfl) ?_ _
                have D14 := Lib.hid (D7.out.below L13.out D7.out.lt)
                have O14 := Lib.hid (own_below O7.out L13.out)
                have B14 := Lib.hid (B7.out.trans (L13.out.mono B7.out.size))
                have S14 := Lib.hid (Nat.le_trans S7.out L13.out.size)
                go_wp2_with fail
                go_roundw
                case rel => exact ⟨i + 1, (N + nx), (m ++ ps.getD i []), a2, c2, by omega, hlen.out, hroom.out.2, by go_num, rfl, O14.out, D14.out, B14.out, S14.out⟩
                case measure => simp [intOf]; omega
            · obtain rfl : n = i := by omega
              have hlt' : ¬ (n : Int) < (n : Int) := by omega
              have DB := Lib.hid hB
              clear hO hD hB hsz hml hNle
              go_wp2_with fail
              go_ret
              exact ⟨rfl, DB.out⟩
end Go.Proofs.YtlfohiejlajmaaaDoor.RfK
