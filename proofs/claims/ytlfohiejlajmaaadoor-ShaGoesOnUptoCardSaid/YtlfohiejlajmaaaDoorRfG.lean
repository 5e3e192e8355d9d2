/- The document's digests: with a key. -/
import Derived.Test.YtlfohiejlajmaaaDoorRfF
import Derived.Test.YtlfohiejlajmaaaDoorShS
namespace Go.Proofs.YtlfohiejlajmaaaDoor.RfG
open Go.ChangeShapes Go.WideShapes Go.ChangeAt Go.RowKit
open ShM ShA ShB ShC ShD ShE ShF ShG ShH ShI ShJ ShK ShL ShN ShO ShP ShS RfF Mem
open ShT (Rd vals vals_length vals_one)
set_option linter.unusedVariables false
set_option maxHeartbeats 4000000

theorem own_gb {w w' : World} {base : Nat} {v : Value} {xs : List ShM.B8} {row : Option Nat} (h : ShT.Own w base v xs) (hg : w.grownBy w' row) (hne : ∀ q, v.ownBlock = some q → row ≠ some q) : ShT.Own w' base v xs := by
  refine World.ownsRow.kept (row := row) h hg ?_
  cases hv : v.ownBlock with
  | none => exact .inl rfl
  | some q => exact .inr (fun e => hne q hv e.symm)
theorem own_below {w w' : World} {base : Nat} {v : Value} {xs : List ShM.B8} (h : ShT.Own w base v xs) (hb : Below w.heap.size w w') : ShT.Own w' base v xs :=
  own_gb (row := none) h ⟨hb.os, hb.tape, hb.output, hb.size, fun i hi _ => hb.block i hi⟩ (fun q _ e => by cases e)
theorem wpList_app4 {ops : Array Oper} {rest : List Oper} {o : Oper} {a : Act} {w : World} {Q : Exit → Act → World → Prop} (hgd : Region.wanted o (yielded ops a.tmps) = true) (s x : Operand)
    (ho : o.op = .call { callee := .builtin .append, args := #[s, x], argTypes := #[22, 22] })
    (base : Nat) (v : Value) (xs : List ShM.B8) (hs : a.eval s = v) (h : ShT.Own w base v xs) (A : Option Addr) (l : List ShM.B8) (m c : Nat) (hx : a.eval x = .slice A m c) (hm : l.length = m) (hr : Rd w A l)
    (ys : List ShM.B8) (N : Nat) (hy : xs ++ l = ys) (hN : ys.length = N) (hroom : N ≤ 1000000) (hbase : base ≤ w.heap.size)
    (hK : ∀ a' c' w', ShT.Own w' base (.slice a' N c') ys → w.grownBy w' v.ownBlock → ((Value.slice a' N c').ownBlock = v.ownBlock ∨ (Value.slice a' N c').ownBlock = some w.heap.size) → wpList Tryd.prog ops Q rest (a.put o.dst (.slice a' N c')) w') : wpList Tryd.prog ops Q (o :: rest) a w :=
  BigFrame.wpList_want hgd fun _ hK' => by
    subst hy
    obtain ⟨v', w', h1, h2, h3, h4⟩ := ShT.run_app w o.type base v xs h A l m c hm hr (by rw [List.length_append] at hN; omega) hbase
    obtain ⟨a', c', rfl, _⟩ := ShT.Own.shape h2
    rw [hN] at h1 h2 h4
    unfold Oper.wp execOp
    simp only [ho, resolve, invoke, builtin, Sem.run_bind, Sem.run_pure, Result.andThen_ok, List.map_toArray, List.map_cons, List.map_nil, hs, hx, h1]
    exact hK' _ _ (hK a' c' w' h2 h3 h4)
theorem short_len (key : List ShM.B8) : (short key).length ≤ 64 := by
  unfold short
  split
  · rw [sum_len]; omega
  · omega
theorem short_pad (key : List ShM.B8) : short key ++ List.replicate (64 - (short key).length) 0 = wk key := by
  have hl := short_len key
  apply List.ext_getElem?
  intro i
  unfold wk
  rw [List.getElem?_map, List.getElem?_append]
  by_cases hi : i < 64
  · rw [List.getElem?_range hi]
    show _ = some ((short key).getD i 0)
    by_cases h1 : i < (short key).length
    · rw [if_pos h1, List.getD_eq_getElem?_getD, List.getElem?_eq_getElem h1]; rfl
    · rw [if_neg h1, List.getElem?_replicate, if_pos (by omega), List.getD_eq_getElem?_getD, List.getElem?_eq_none (by omega)]; rfl
  · rw [if_neg (by omega), List.getElem?_replicate, if_neg (by omega), List.getElem?_eq_none (by simp; omega)]
    rfl
theorem ipad_take (K : List ShM.B8) (i : Nat) (h : i < K.length) : (ipad K).take i ++ [K.getD i 0 ^^^ 0x36#8] = (ipad K).take (i + 1) := by
  rw [List.take_add_one]
  congr 1
  simp [ipad, List.getD, h]
theorem opad_take (K : List ShM.B8) (i : Nat) (h : i < K.length) : (opad K).take i ++ [K.getD i 0 ^^^ 0x5C#8] = (opad K).take (i + 1) := by
  rw [List.take_add_one]
  congr 1
  simp [opad, List.getD, h]
theorem one_own {w : World} {base N c : Nat} {a : Option Addr} {xs : List ShM.B8} (h : ShT.Own w base (.slice a N c) xs) : ShN.One w (.slice a N c) xs := ShU.One.own h
/-- A sum of the document's in memory, as a row of bytes. -/
theorem sumRd {w : World} {q : Nat} {l : List ShM.B8} (hl : l.length = 32) (h : Mem.Blk w q 27 (b32 l)) : Rd w (some ⟨q, 0, none⟩) l :=
  ⟨by rw [hl]; simp [maxLen], fun i hi => ⟨q, 0, rfl, by rw [Nat.zero_add, h.cell i, b32_at l i (by omega)]⟩⟩

set_option maxRecDepth 100000 in
theorem refMac (key m : List ShM.B8) (a : Option Addr) (n c : Nat) (ab : Option Addr) (nb cb : Nat) (w : World) (hn : key.length = n) (hk : ShN.One w (.slice a n c) key) (hnb : m.length = nb) (hb : ShN.One w (.slice ab nb cb) m) (hmax : n ≤ 5000) (hmaxb : nb ≤ 800000) :
    Calls Tryd.prog 12 #[.slice a n c, .slice ab nb cb] w fun e w' => e = .returned (.agg (b32 (mac key m))) ∧ Below w.heap.size w w' := by
  obtain ⟨Z, hZ⟩ : ∃ Z, Z = b32 [] := ⟨_, rfl⟩
  have HS : Hid (∀ (x : List ShM.B8) a n c w', x.length = n → n ≤ 900000 → ShN.One w' (.slice a n c) x → Calls Tryd.prog 10 #[.slice a n c] w' fun e w'' => e = .returned (.agg (b32 (ShM.sum x))) ∧ Below w'.heap.size w' w'') := Lib.hid fun x a n c w' h1 h2 h3 => refSum x a n c w' h1 h3 h2
  have HK := Lib.hid (fun w' (h : Below w.heap.size w w') => hk.below h)
  have HB := Lib.hid (fun w' (h : Below w.heap.size w w') => hb.below h)
  have HN := Lib.hid hn
  have HNB := Lib.hid hnb
  have hw0 := Lib.hid (Below.refl w.heap.size w)
  replace hZ := Lib.hid hZ
  clear hk hb hn hnb
  by_cases hlong : 64 < n
  · have hl1 : (64 : Int) < (n : Int) := by omega
    go_enter Tryd.func12, Tryd.ntmps12
    obtain ⟨ka, kc, ke, kr0, _⟩ := HK.out w (Below.refl _ _)
    injection ke with ke1 ke2 ke3
    subst ke1 ke3
    clear ke2
    have hkl : Hid (∀ w', Below w.heap.size w w' → Rd w' a key) := Lib.hid fun w' h => by
      obtain ⟨_, _, e, hr, _⟩ := HK.out w' h
      injection e with e1
      subst e1
      exact hr
    clear kr0
    have hmax1 : Hid (n ≤ 1000000) := Lib.hid (by omega)
    have hnil : Hid ([] ++ key = key) := Lib.hid rfl
    go_wp2_with (first
      | ((with_reducible show wpList _ _ _ (Oper.mk (some 4) (Op.alloc 27) _ _ _ _ :: _) _ _); refine RfF.alloc27 rfl rfl Z hZ.out ?_; intro w1 hB1 hb1 hn1; clear hn1
         have r1 := Lib.hid hB1
         have D1 := Lib.hid hb1
         have o1 := Lib.hid (ShT.Own.made w1 w1.heap.size (Nat.le_refl _) #[] 0 [] rfl (Nat.zero_le _) rfl)
         have r2 := Lib.hid (r1.out.alloc (.cells #[] 5))
         have D2 := Lib.hid (D1.out.alloc D1.out.size (.cells #[] 5))
         have s2 : Hid (w1.heap.size ≤ (w1.alloc (.cells #[] 5)).heap.size) := Lib.hid (by simp)
         have hw1 : Hid (w.heap.size < w1.heap.size) := Lib.hid hB1.lt
         clear hB1 hb1)
      | (at_builtin
         refine RfG.wpList_app4 rfl (.tmp 11) (.tmp 12) rfl w1.heap.size (.slice (some ⟨w1.heap.size, 0, none⟩) 0 0) [] rfl o1.out a key n c rfl HN.out (hkl.out _ D2.out) key n hnil.out HN.out hmax1.out s2.out ?_
         intro a3 c3 w3 hO3 hg3 h43))
    have hne3 : ∀ q, (Value.slice (some ⟨w1.heap.size, 0, none⟩) 0 0).ownBlock = some q → w1.heap.size ≤ q := fun q e => (o1.out.blocks q e).1
    have r3 := Lib.hid (ShU.blkOwn r2.out hg3 (fun e => by have := hne3 _ e; have := hw1.out; omega))
    have D3 := Lib.hid (D2.out.grown hg3 D2.out.size (fun q e => by have := hne3 q e; have := hw1.out; omega))
    have s3 := Lib.hid (Nat.le_trans s2.out hg3.size)
    have O3 := Lib.hid hO3
    clear hO3 hg3 h43 hne3 o1 r1 r2 D1 D2 s2
    go_wp2_with fail
    refine (HS.out key a3 n c3 w3 HN.out (by omega) (one_own O3.out)).mono ?_
    rintro e w4 ⟨rfl, b4⟩
    have r4 := Lib.hid (r3.out.below b4 r3.out.lt)
    have D4 := Lib.hid (D3.out.trans (b4.mono D3.out.size))
    have s4 := Lib.hid (Nat.le_trans s3.out b4.size)
    obtain ⟨SV, hSV⟩ : ∃ SV, SV = b32 (ShM.sum key) := ⟨_, rfl⟩
    rw [← hSV]
    have iS : Hid ((Tryd.prog.info? 27).map (·.size) = some SV.size) := Lib.hid (by rw [hSV, b32_size]; exact i27)
    have sS : Hid (Z.size = SV.size) := Lib.hid (by rw [hSV, hZ.out, b32_size, b32_size])
    have oS : Hid (SV.all (·.oneCell') = true) := Lib.hid (by rw [hSV]; exact b32_one _)
    replace hSV := Lib.hid hSV
    have hsh : Hid ([] ++ ShM.sum key = short key) := Lib.hid (by unfold short; rw [if_pos (by rw [HN.out]; exact hlong)]; rfl)
    have hshl : Hid ((short key).length = 32) := Lib.hid (by rw [← hsh.out]; exact sum_len _)
    clear b4 r3 D3 s3 O3
    go_wp2_with (first
      | ((with_reducible show wpList _ _ _ (Oper.mk (some 6) (Op.alloc 27) _ _ _ _ :: _) _ _); refine RfF.alloc27 rfl rfl Z hZ.out ?_; intro w5 hB5 hb5 hn5; clear hn5)
      | ((with_reducible show wpList _ _ _ (Oper.mk _ (Op.store 27 (.tmp 6) (.tmp 18)) _ _ _ _ :: _) _ _); refine Mem.storeBlk 27 (.tmp 6) (.tmp 18) rfl w4.heap.size rfl Z SV rfl 27 hB5 iS.out sS.out oS.out w4.heap.size w4 hb5 (Nat.le_refl _) rfl ?_; intro w6 hB6 hb6
         have r6 := Lib.hid (r4.out.below hb6 r4.out.lt)
         have D6 := Lib.hid (D4.out.trans (hb6.mono D4.out.size))
         have s6 := Lib.hid (Nat.le_trans s4.out hb6.size)
         have o7 := Lib.hid (ShT.Own.made w6 w1.heap.size s6.out #[] 0 [] rfl (Nat.zero_le _) rfl)
         have r7 := Lib.hid (r6.out.alloc (.cells #[] 5))
         have D7 := Lib.hid (D6.out.alloc D6.out.size (.cells #[] 5))
         have s7 : Hid (w1.heap.size ≤ (w6.alloc (.cells #[] 5)).heap.size) := Lib.hid (by have := s6.out; simp; omega)
         have rd7 : Hid (Rd (w6.alloc (.cells #[] 5)) (some ⟨w4.heap.size, 0, none⟩) (ShM.sum key)) := Lib.hid (sumRd (sum_len _) (by rw [hSV.out] at hB6; exact hB6.alloc _))
         clear hB5 hb5 hB6 hb6)
      | (at_builtin
         refine RfG.wpList_app4 rfl (.tmp 19) (.tmp 20) rfl w1.heap.size (.slice (some ⟨w6.heap.size, 0, none⟩) 0 0) [] rfl o7.out (some ⟨w4.heap.size, 0, none⟩) (ShM.sum key) 32 32 rfl (sum_len _) rd7.out (short key) 32 hsh.out hshl.out (by omega) s7.out ?_
         intro ak ck wt hOt hgt h4t))
    have hne7 : ∀ q, (Value.slice (some ⟨w6.heap.size, 0, none⟩) 0 0).ownBlock = some q → w1.heap.size ≤ q := fun q e => (o7.out.blocks q e).1
    have rt := Lib.hid (ShU.blkOwn r7.out hgt (fun e => by have := hne7 _ e; have := hw1.out; omega))
    have Dt := Lib.hid (D7.out.grown hgt D7.out.size (fun q e => by have := hne7 q e; have := hw1.out; omega))
    have st := Lib.hid (Nat.le_trans s7.out hgt.size)
    have OK : Hid (ShT.Own wt w1.heap.size (.slice ak (32 + 0) ck) (short key ++ List.replicate 0 0)) := Lib.hid (by rw [List.replicate_zero, List.append_nil]; exact hOt)
    clear hOt hgt h4t hne7 o7 r7 D7 s7 rd7 r6 D6 s6 r4 D4 s4
    have hshb := Lib.hid (short_len key)
    have hpad := Lib.hid (short_pad key)
    go_loopw [5] (fun v5 wr => ∃ (j : Nat) (a' : Option Addr) (c' : Nat), 32 + j ≤ 64 ∧ v5 = .slice a' (32 + j) c' ∧ ShT.Own wr w1.heap.size (.slice a' (32 + j) c') (short key ++ List.replicate j 0) ∧ Mem.Blk wr w.heap.size 27 Z ∧ Below w.heap.size w wr ∧ w1.heap.size ≤ wr.heap.size) (fun v5 _ => match v5 with | .slice _ x _ => 100 - x | _ => 0)
    case atStart => exact ⟨0, ak, ck, by omega, rfl, OK.out, rt.out, Dt.out, st.out⟩
    case round =>
      clear OK rt Dt st
      obtain ⟨j, a', c', hj, rfl, hO, hR, hD, hS⟩ := hrel
      obtain ⟨ln, hln⟩ : ∃ ln, ln = 32 + j := ⟨_, rfl⟩
      rw [← hln] at hO ⊢
      by_cases hlt : ln < 64
      · have hlt' : (ln : Int) < 64 := by omega
        have O5 := Lib.hid (hO.alloc (.cells #[.int .u8 0] 5))
        have R5 := Lib.hid (hR.alloc (.cells #[.int .u8 0] 5))
        have D5 := Lib.hid (hD.alloc hD.size (.cells #[.int .u8 0] 5))
        have s5 : Hid (w1.heap.size ≤ (wr.alloc (.cells #[.int .u8 0] 5)).heap.size) := Lib.hid (by simp; omega)
        have r5 := Lib.hid (oneRd wr 0#8 0 rfl)
        have e5 := Lib.hid (zero_row (short key) j)
        have l5 : Hid ((short key ++ List.replicate (j + 1) (0 : ShM.B8)).length = ln + 1 ∧ ln + 1 ≤ 1000000) := Lib.hid ⟨by have := hshl.out; simp; omega, by omega⟩
        have hl2 : Hid (ln + 1 = 32 + (j + 1)) := Lib.hid (by omega)
        replace hln := Lib.hid hln
        clear hO hR hD hS
        go_wp2_with (at_builtin; refine RfG.wpList_app4 rfl (.tmp 25) (.tmp 26) rfl w1.heap.size (.slice a' ln c') _ rfl O5.out (some ⟨wr.heap.size, 0, none⟩) [0#8] 1 1 rfl rfl r5.out _ (ln + 1) e5.out l5.out.1 l5.out.2 s5.out ?_; intro a6 c6 w6' hO6 hg6 h46)
        have hne6 : ∀ q, (Value.slice a' ln c').ownBlock = some q → w1.heap.size ≤ q := fun q e => (O5.out.blocks q e).1
        have R6 := Lib.hid (ShU.blkOwn R5.out hg6 (fun e => by have := hne6 _ e; have := hw1.out; omega))
        have D6' := Lib.hid (D5.out.grown hg6 D5.out.size (fun q e => by have := hne6 q e; have := hw1.out; omega))
        have s6' := Lib.hid (Nat.le_trans s5.out hg6.size)
        have O6 := Lib.hid hO6
        clear hO6 hg6 h46 hne6
        go_wp2_with fail
        go_roundw
        case rel => exact ⟨j + 1, _, _, by have := hl2.out; omega, by rw [hl2.out], by rw [← hl2.out]; exact O6.out, R6.out, D6'.out, s6'.out⟩
        case measure => simp; omega
      · have h64 : ln = 64 := by omega
        have hW : Hid (short key ++ List.replicate j 0 = wk key) := Lib.hid (by rw [← hpad.out, hshl.out, show j = 64 - 32 by omega])
        have hlt' : ¬ (ln : Int) < 64 := by omega
        rw [hW.out] at hO
        subst h64
        have OW := Lib.hid hO
        have R5 := Lib.hid hR
        have D5 := Lib.hid hD
        obtain ⟨Kk, hKk⟩ : ∃ Kk, Kk = wk key := ⟨_, rfl⟩
        rw [← hKk] at OW
        have hKl : Hid (Kk.length = 64) := Lib.hid (by rw [hKk]; exact wk_len key)
        have HIP := Lib.hid (fun i h => ipad_take Kk i h)
        have HOP := Lib.hid (fun i h => opad_take Kk i h)
        have hIF : Hid ((ipad Kk).take 64 = ipad Kk ∧ (opad Kk).take 64 = opad Kk) := Lib.hid ⟨List.take_of_length_le (by unfold ipad; rw [List.length_map, hKl.out]; omega), List.take_of_length_le (by unfold opad; rw [List.length_map, hKl.out]; omega)⟩
        have hIL : Hid (∀ i, i ≤ 64 → ((ipad Kk).take i).length = i ∧ ((opad Kk).take i).length = i) := Lib.hid fun i hi => ⟨by rw [List.length_take]; unfold ipad; rw [List.length_map, hKl.out]; omega, by rw [List.length_take]; unfold opad; rw [List.length_map, hKl.out]; omega⟩
        have hMC : Hid (ShM.sum (opad Kk ++ ShM.sum (ipad Kk ++ m)) = mac key m) := Lib.hid (by rw [hKk]; rfl)
        have B2e : Hid (∃ B2, B2 = wr.heap.size) := Lib.hid ⟨_, rfl⟩
        obtain ⟨B2, hB2⟩ := B2e.out
        have hKb : Hid (∀ q, (Value.slice a' 64 c').ownBlock = some q → w1.heap.size ≤ q ∧ q < B2) := Lib.hid fun q e => by rw [hB2]; exact OW.out.blocks q e
        have s5 : Hid (B2 ≤ wr.heap.size) := Lib.hid (by omega)
        have hw2 : Hid (w1.heap.size ≤ B2) := Lib.hid (by omega)
        obtain ⟨gk, hgk⟩ : ∃ gk, a' = some ⟨gk, 0, none⟩ := by
          obtain ⟨a2, c2, e2, _, _, _, h0, _⟩ := OW.out.shape
          injection e2 with e3
          subst e3
          obtain ⟨b3, o3, e3, _⟩ := (ShT.Own.rd OW.out).1.2 0 (by rw [hKl.out]; omega)
          have := h0 _ e3
          rw [e3, this]
          exact ⟨b3, rfl⟩
        subst hgk
        have I0 : Hid (ShT.Own wr B2 (.slice none 0 0) ((ipad Kk).take 0) ∧ ShT.Own wr B2 (.slice none 0 0) ((opad Kk).take 0)) := Lib.hid ⟨by rw [List.take_zero]; exact ShT.Own.nil _ _, by rw [List.take_zero]; exact ShT.Own.nil _ _⟩
        replace hB2 := Lib.hid hB2
        replace hKk := Lib.hid hKk
        replace hln := Lib.hid hln
        clear hO hR hD hS hW B2e hpad hshb hj hlt hlt'
        try clear hlt
        go_wp2_with fail
        go_loopw [7, 8, 9] (fun v7 v8 v9 wr => ∃ (i : Nat) (a7 a8 : Option Addr) (c7 c8 : Nat), i ≤ 64 ∧ v9 = .int .i64 (i : Int) ∧ v7 = .slice a7 i c7 ∧ v8 = .slice a8 i c8 ∧ ShT.Own wr B2 (.slice a7 i c7) ((ipad Kk).take i) ∧ ShT.Own wr B2 (.slice a8 i c8) ((opad Kk).take i) ∧ (∀ q, (Value.slice a7 i c7).ownBlock = some q → (Value.slice a8 i c8).ownBlock ≠ some q) ∧ ShT.Own wr w1.heap.size (.slice (some ⟨gk, 0, none⟩) 64 c') Kk ∧ Mem.Blk wr w.heap.size 27 Z ∧ Below w.heap.size w wr ∧ B2 ≤ wr.heap.size) (fun _ _ v9 _ => 100 - (intOf v9).toNat)
        case atStart => exact ⟨0, none, none, 0, 0, by omega, rfl, rfl, rfl, I0.out.1, I0.out.2, fun q e => by simp [Value.ownBlock] at e, OW.out, R5.out, D5.out, s5.out⟩
        case round =>
          clear I0 OW R5 D5 s5
          obtain ⟨i, a7, a8, c7, c8, hi, rfl, rfl, rfl, h7, h8, hdis, hO, hR, hD, hS⟩ := hrel
          by_cases hlt : i < 64
          · have hlt' : (i : Int) < 64 := by omega
            have hKi := (ShT.Own.rd hO).1
            obtain ⟨b3, o3, e3, ci⟩ := hKi.2 i (by rw [hKl.out]; omega)
            injection e3 with e3
            injection e3 with e4 e5
            subst e4 e5
            rw [Nat.zero_add] at ci
            have hip := HIP.out i (by rw [hKl.out]; omega)
            have hop := HOP.out i (by rw [hKl.out]; omega)
            obtain ⟨y, hy⟩ : ∃ y, y = Kk.getD i 0 := ⟨_, rfl⟩
            rw [← hy] at ci hip hop
            have x1 : bits .xor .u8 (y.toNat : Int) 54 = ((y ^^^ 0x36#8).toNat : Int) := ShT.x8 y 0x36#8
            have x2 : bits .xor .u8 (y.toNat : Int) 92 = ((y ^^^ 0x5C#8).toNat : Int) := ShT.x8 y 0x5C#8
            obtain ⟨BX, hBX⟩ : ∃ BX : Int, BX = ((y ^^^ 0x36#8).toNat : Int) := ⟨_, rfl⟩
            obtain ⟨BY, hBY⟩ : ∃ BY : Int, BY = ((y ^^^ 0x5C#8).toNat : Int) := ⟨_, rfl⟩
            rw [← hBX] at x1
            rw [← hBY] at x2
            have A7 := Lib.hid (h7.alloc (.cells #[.int .u8 BX] 5))
            have A8 := Lib.hid (h8.alloc (.cells #[.int .u8 BX] 5))
            have AK := Lib.hid (hO.alloc (.cells #[.int .u8 BX] 5))
            have AR := Lib.hid (hR.alloc (.cells #[.int .u8 BX] 5))
            have AD := Lib.hid (hD.alloc hD.size (.cells #[.int .u8 BX] 5))
            have AS : Hid (B2 ≤ (wr.alloc (.cells #[.int .u8 BX] 5)).heap.size) := Lib.hid (by simp; omega)
            have rA := Lib.hid (oneRd wr _ BX hBX)
            have lA := Lib.hid (hIL.out (i + 1) (by omega))
            have hip2 := Lib.hid hip
            have hop2 := Lib.hid hop
            have hds := Lib.hid hdis
            have h8b := Lib.hid h8.blocks
            replace hy := Lib.hid hy
            replace hBX := Lib.hid hBX
            replace hBY := Lib.hid hBY
            have him : Hid (i + 1 ≤ 1000000) := Lib.hid (by omega)
            clear h7 h8 hO hR hD hS hip hop hKi hdis
            go_wp2_with (first
              | (at_builtin
                 refine RfG.wpList_app4 rfl (.tmp 32) (.tmp 38) rfl B2 (.slice a7 i c7) _ rfl A7.out (some ⟨wr.heap.size, 0, none⟩) [y ^^^ 0x36#8] 1 1 rfl rfl rA.out _ (i + 1) hip2.out lA.out.1 him.out AS.out ?_
                 intro a9 c9 wa hOa hga h4a
                 have hnea : ∀ q, (Value.slice a7 i c7).ownBlock = some q → B2 ≤ q := fun q e => (A7.out.blocks q e).1
                 have E7 := Lib.hid hOa
                 have E8 := Lib.hid (own_gb A8.out hga (fun q e e2 => hds.out q e2 e))
                 have EK := Lib.hid (own_gb AK.out hga (fun q e e2 => by have := hnea q e2; have := (hKb.out q e).2; omega))
                 have ER := Lib.hid (ShU.blkOwn AR.out hga (fun e => by have := hnea _ e; have := hw1.out; have := hw2.out; omega))
                 have ED := Lib.hid (AD.out.grown hga AD.out.size (fun q e => by have := hnea q e; have := hw1.out; have := hw2.out; omega))
                 have ES := Lib.hid (Nat.le_trans AS.out hga.size)
                 have Edis : Hid (∀ q, (Value.slice a9 (i + 1) c9).ownBlock = some q → (Value.slice a8 i c8).ownBlock ≠ some q) := Lib.hid (fun q e e2 => by
                   rcases h4a with h | h
                   · exact hds.out q (h ▸ e) e2
                   · rw [h] at e
                     injection e with e
                     have := (h8b.out q e2).2
                     simp at e
                     omega)
                 have cj : wa.cell? ⟨gk, i, none⟩ = some (.int .u8 (y.toNat : Int)) := by
                   obtain ⟨b3, o3, e3, cj⟩ := (ShT.Own.rd EK.out).1.2 i (by rw [hKl.out]; omega)
                   injection e3 with e3
                   injection e3 with e4 e5
                   subst e4 e5
                   rw [Nat.zero_add] at cj
                   rw [cj, hy.out]
                 have F7 := Lib.hid (E7.out.alloc (.cells #[.int .u8 BY] 5))
                 have F8 := Lib.hid (E8.out.alloc (.cells #[.int .u8 BY] 5))
                 have FK := Lib.hid (EK.out.alloc (.cells #[.int .u8 BY] 5))
                 have FR := Lib.hid (ER.out.alloc (.cells #[.int .u8 BY] 5))
                 have FD := Lib.hid (ED.out.alloc ED.out.size (.cells #[.int .u8 BY] 5))
                 have FS : Hid (B2 ≤ (wa.alloc (.cells #[.int .u8 BY] 5)).heap.size) := Lib.hid (by have := ES.out; simp; omega)
                 have rF := Lib.hid (oneRd wa _ BY hBY.out)
                 have E7b := Lib.hid E7.out.blocks
                 clear hOa hga h4a hnea)
              | (at_builtin
                 refine RfG.wpList_app4 rfl (.tmp 40) (.tmp 46) rfl B2 (.slice a8 i c8) _ rfl F8.out (some ⟨wa.heap.size, 0, none⟩) [y ^^^ 0x5C#8] 1 1 rfl rfl rF.out _ (i + 1) hop2.out lA.out.2 him.out FS.out ?_
                 intro a10 c10 wb hOb hgb h4b))
            have hneb : ∀ q, (Value.slice a8 i c8).ownBlock = some q → B2 ≤ q := fun q e => (F8.out.blocks q e).1
            have H8 := Lib.hid hOb
            have H7 := Lib.hid (own_gb F7.out hgb (fun q e e2 => Edis.out q e e2))
            have HKK := Lib.hid (own_gb FK.out hgb (fun q e e2 => by have := hneb q e2; have := (hKb.out q e).2; omega))
            have HR := Lib.hid (ShU.blkOwn FR.out hgb (fun e => by have := hneb _ e; have := hw1.out; have := hw2.out; omega))
            have HD := Lib.hid (FD.out.grown hgb FD.out.size (fun q e => by have := hneb q e; have := hw1.out; have := hw2.out; omega))
            have HSz := Lib.hid (Nat.le_trans FS.out hgb.size)
            have Hdis : Hid (∀ q, (Value.slice a9 (i + 1) c9).ownBlock = some q → (Value.slice a10 (i + 1) c10).ownBlock ≠ some q) := Lib.hid (fun q e e2 => by
              rcases h4b with h | h
              · exact Edis.out q e (h ▸ e2)
              · rw [h] at e2
                injection e2 with e2
                have := (E7b.out q e).2
                simp at e2
                omega)
            clear hOb hgb h4b hneb
            go_wp2_with fail
            go_roundw
            case rel => exact ⟨i + 1, a9, a10, c9, c10, by omega, by go_num, rfl, rfl, H7.out, H8.out, Hdis.out, HKK.out, HR.out, HD.out, HSz.out⟩
            case measure => simp [intOf]; omega
          · obtain rfl : i = 64 := by omega
            have hlt' : ¬ ((64 : Nat) : Int) < 64 := by omega
            rw [hIF.out.1] at h7
            rw [hIF.out.2] at h8
            have A7 := Lib.hid h7
            have A8 := Lib.hid h8
            have AR := Lib.hid hR
            have AD := Lib.hid hD
            have AS := Lib.hid hS
            have hds := Lib.hid hdis
            have rB : Hid (Rd wr ab m) := Lib.hid (by
              obtain ⟨_, _, e, hr, _⟩ := HB.out wr hD
              injection e with e1
              subst e1
              exact hr)
            have il : Hid ((ipad Kk ++ m).length = 64 + nb ∧ 64 + nb ≤ 1000000 ∧ 64 + nb ≤ 900000) := Lib.hid ⟨by rw [List.length_append, HNB.out]; unfold ipad; rw [List.length_map, hKl.out], by omega, by omega⟩
            have ol : Hid ((opad Kk ++ ShM.sum (ipad Kk ++ m)).length = 96) := Lib.hid (by rw [List.length_append, sum_len]; unfold opad; rw [List.length_map, hKl.out])
            clear h7 h8 hdis hO hR hD hS HIP HOP hIF hIL
            go_wp2_with (at_builtin; refine RfG.wpList_app4 rfl (.tmp 48) (.tmp 49) rfl B2 (.slice a7 64 c7) (ipad Kk) rfl A7.out ab m nb cb rfl HNB.out rB.out (ipad Kk ++ m) (64 + nb) rfl il.out.1 il.out.2.1 AS.out ?_; intro a9 c9 wa hOa hga h4a)
            have hnea : ∀ q, (Value.slice a7 64 c7).ownBlock = some q → B2 ≤ q := fun q e => (A7.out.blocks q e).1
            have E7 := Lib.hid hOa
            have E8 := Lib.hid (own_gb A8.out hga (fun q e e2 => hds.out q e2 e))
            have ER := Lib.hid (ShU.blkOwn AR.out hga (fun e => by have := hnea _ e; have := hw1.out; have := hw2.out; omega))
            have ED := Lib.hid (AD.out.grown hga AD.out.size (fun q e => by have := hnea q e; have := hw1.out; have := hw2.out; omega))
            have ES := Lib.hid (Nat.le_trans AS.out hga.size)
            clear hOa hga h4a hnea
            refine (HS.out _ a9 (64 + nb) c9 wa il.out.1 il.out.2.2 (one_own E7.out)).mono ?_
            rintro e wb ⟨rfl, bb⟩
            have F8 := Lib.hid (own_below E8.out bb)
            have FR := Lib.hid (ER.out.below bb ER.out.lt)
            have FD := Lib.hid (ED.out.trans (bb.mono ED.out.size))
            have FS := Lib.hid (Nat.le_trans ES.out bb.size)
            obtain ⟨TV, hTV⟩ : ∃ TV, TV = b32 (ShM.sum (ipad Kk ++ m)) := ⟨_, rfl⟩
            rw [← hTV]
            have iT : Hid ((Tryd.prog.info? 27).map (·.size) = some TV.size) := Lib.hid (by rw [hTV, b32_size]; exact i27)
            have sT : Hid (Z.size = TV.size) := Lib.hid (by rw [hTV, hZ.out, b32_size, b32_size])
            have oT : Hid (TV.all (·.oneCell') = true) := Lib.hid (by rw [hTV]; exact b32_one _)
            replace hTV := Lib.hid hTV
            clear bb
            go_wp2_with (first
              | ((with_reducible show wpList _ _ _ (Oper.mk (some 10) (Op.alloc 27) _ _ _ _ :: _) _ _); refine RfF.alloc27 rfl rfl Z hZ.out ?_; intro wc hBc hbc hnc; clear hnc)
              | ((with_reducible show wpList _ _ _ (Oper.mk _ (Op.store 27 (.tmp 10) (.tmp 51)) _ _ _ _ :: _) _ _); refine Mem.storeBlk 27 (.tmp 10) (.tmp 51) rfl wb.heap.size rfl Z TV rfl 27 hBc iT.out sT.out oT.out wb.heap.size wb hbc (Nat.le_refl _) rfl ?_; intro wd hBd hbd
                 have G8 := Lib.hid (own_below F8.out hbd)
                 have GR := Lib.hid (FR.out.below hbd FR.out.lt)
                 have GD := Lib.hid (FD.out.trans (hbd.mono FD.out.size))
                 have GS := Lib.hid (Nat.le_trans FS.out hbd.size)
                 have GT : Hid (Rd wd (some ⟨wb.heap.size, 0, none⟩) (ShM.sum (ipad Kk ++ m))) := Lib.hid (sumRd (sum_len _) (by rw [hTV.out] at hBd; exact hBd))
                 clear hBc hbc hBd hbd)
              | (at_builtin
                 refine RfG.wpList_app4 rfl (.tmp 52) (.tmp 53) rfl B2 (.slice a8 64 c8) (opad Kk) rfl G8.out (some ⟨wb.heap.size, 0, none⟩) (ShM.sum (ipad Kk ++ m)) 32 32 rfl (sum_len _) GT.out (opad Kk ++ ShM.sum (ipad Kk ++ m)) 96 rfl ol.out (by omega) GS.out ?_
                 intro a11 c11 we hOe hge h4e))
            have hnee : ∀ q, (Value.slice a8 64 c8).ownBlock = some q → B2 ≤ q := fun q e => (G8.out.blocks q e).1
            have K8 := Lib.hid hOe
            have KR := Lib.hid (ShU.blkOwn GR.out hge (fun e => by have := hnee _ e; have := hw1.out; have := hw2.out; omega))
            have KD := Lib.hid (GD.out.grown hge GD.out.size (fun q e => by have := hnee q e; have := hw1.out; have := hw2.out; omega))
            clear hOe hge h4e hnee
            refine (HS.out _ a11 96 c11 we ol.out (by omega) (one_own K8.out)).mono ?_
            rintro e wf ⟨rfl, bf⟩
            have LR := Lib.hid (KR.out.below bf KR.out.lt)
            have LD := Lib.hid (KD.out.trans (bf.mono KD.out.size))
            obtain ⟨UV, hUV⟩ : ∃ UV, UV = b32 (ShM.sum (opad Kk ++ ShM.sum (ipad Kk ++ m))) := ⟨_, rfl⟩
            rw [← hUV]
            have iU : Hid ((Tryd.prog.info? 27).map (·.size) = some UV.size) := Lib.hid (by rw [hUV, b32_size]; exact i27)
            have sU : Hid (Z.size = UV.size) := Lib.hid (by rw [hUV, hZ.out, b32_size, b32_size])
            have oU : Hid (UV.all (·.oneCell') = true) := Lib.hid (by rw [hUV]; exact b32_one _)
            have hfin : Hid (UV = b32 (mac key m)) := Lib.hid (by rw [hUV, hMC.out])
            clear bf hUV
            go_wp2_with ((with_reducible show wpList _ _ _ (Oper.mk _ (Op.store 27 (.tmp 4) (.tmp 55)) _ _ _ _ :: _) _ _); refine Mem.storeBlk 27 (.tmp 4) (.tmp 55) rfl w.heap.size rfl Z UV rfl 27 LR.out iU.out sU.out oU.out w.heap.size w LD.out (Nat.le_refl _) rfl ?_; intro wz hBz hbz)
            exact bodyPost_ret (results_cell_row Tryd.results12 _ _ w.heap.size 27 _ (0, 0) _ rfl hBz Tryd.underlying27 rfl iU.out) rfl ⟨by rw [hfin.out], hbz⟩
  · have hl1 : ¬ (64 : Int) < (n : Int) := by omega
    go_enter Tryd.func12, Tryd.ntmps12
    obtain ⟨ka, kc, ke, kr0, _⟩ := HK.out w (Below.refl _ _)
    injection ke with ke1 ke2 ke3
    subst ke1 ke3
    clear ke2
    have hkl : Hid (∀ w', Below w.heap.size w w' → Rd w' a key) := Lib.hid fun w' h => by
      obtain ⟨_, _, e, hr, _⟩ := HK.out w' h
      injection e with e1
      subst e1
      exact hr
    clear kr0
    have hmax1 : Hid (n ≤ 1000000) := Lib.hid (by omega)
    have hnil : Hid ([] ++ key = key) := Lib.hid rfl
    go_wp2_with (first
      | ((with_reducible show wpList _ _ _ (Oper.mk (some 4) (Op.alloc 27) _ _ _ _ :: _) _ _); refine RfF.alloc27 rfl rfl Z hZ.out ?_; intro w1 hB1 hb1 hn1; clear hn1
         have r1 := Lib.hid hB1
         have D1 := Lib.hid hb1
         have o1 := Lib.hid (ShT.Own.made w1 w1.heap.size (Nat.le_refl _) #[] 0 [] rfl (Nat.zero_le _) rfl)
         have r2 := Lib.hid (r1.out.alloc (.cells #[] 5))
         have D2 := Lib.hid (D1.out.alloc D1.out.size (.cells #[] 5))
         have s2 : Hid (w1.heap.size ≤ (w1.alloc (.cells #[] 5)).heap.size) := Lib.hid (by simp)
         have hw1 : Hid (w.heap.size < w1.heap.size) := Lib.hid hB1.lt
         clear hB1 hb1)
      | (at_builtin
         refine RfG.wpList_app4 rfl (.tmp 11) (.tmp 12) rfl w1.heap.size (.slice (some ⟨w1.heap.size, 0, none⟩) 0 0) [] rfl o1.out a key n c rfl HN.out (hkl.out _ D2.out) key n hnil.out HN.out hmax1.out s2.out ?_
         intro a3 c3 w3 hO3 hg3 h43))
    have hne3 : ∀ q, (Value.slice (some ⟨w1.heap.size, 0, none⟩) 0 0).ownBlock = some q → w1.heap.size ≤ q := fun q e => (o1.out.blocks q e).1
    have r3 := Lib.hid (ShU.blkOwn r2.out hg3 (fun e => by have := hne3 _ e; have := hw1.out; omega))
    have D3 := Lib.hid (D2.out.grown hg3 D2.out.size (fun q e => by have := hne3 q e; have := hw1.out; omega))
    have s3 := Lib.hid (Nat.le_trans s2.out hg3.size)
    have O3 := Lib.hid hO3
    clear hO3 hg3 h43 hne3 o1 r1 r2 D1 D2 s2
    have hshl : Hid ((short key).length = n) := Lib.hid (by unfold short; rw [if_neg (by rw [HN.out]; exact hlong), HN.out])
    have hsk : Hid (short key = key) := Lib.hid (by unfold short; rw [if_neg (by rw [HN.out]; exact hlong)])
    have OK : Hid (ShT.Own w3 w1.heap.size (.slice a3 (n + 0) c3) (short key ++ List.replicate 0 0)) := Lib.hid (by rw [List.replicate_zero, List.append_nil, hsk.out]; exact O3.out)
    have rt := r3
    have Dt := D3
    have st := s3
    clear O3 r3 D3 s3
    have hshb := Lib.hid (short_len key)
    have hpad := Lib.hid (short_pad key)
    go_wp2_with fail
    go_loopw [5] (fun v5 wr => ∃ (j : Nat) (a' : Option Addr) (c' : Nat), n + j ≤ 64 ∧ v5 = .slice a' (n + j) c' ∧ ShT.Own wr w1.heap.size (.slice a' (n + j) c') (short key ++ List.replicate j 0) ∧ Mem.Blk wr w.heap.size 27 Z ∧ Below w.heap.size w wr ∧ w1.heap.size ≤ wr.heap.size) (fun v5 _ => match v5 with | .slice _ x _ => 100 - x | _ => 0)
    case atStart => exact ⟨0, a3, c3, by omega, rfl, OK.out, rt.out, Dt.out, st.out⟩
    case round =>
      clear OK rt Dt st
      obtain ⟨j, a', c', hj, rfl, hO, hR, hD, hS⟩ := hrel
      obtain ⟨ln, hln⟩ : ∃ ln, ln = n + j := ⟨_, rfl⟩
      rw [← hln] at hO ⊢
      by_cases hlt : ln < 64
      · have hlt' : (ln : Int) < 64 := by omega
        have O5 := Lib.hid (hO.alloc (.cells #[.int .u8 0] 5))
        have R5 := Lib.hid (hR.alloc (.cells #[.int .u8 0] 5))
        have D5 := Lib.hid (hD.alloc hD.size (.cells #[.int .u8 0] 5))
        have s5 : Hid (w1.heap.size ≤ (wr.alloc (.cells #[.int .u8 0] 5)).heap.size) := Lib.hid (by simp; omega)
        have r5 := Lib.hid (oneRd wr 0#8 0 rfl)
        have e5 := Lib.hid (zero_row (short key) j)
        have l5 : Hid ((short key ++ List.replicate (j + 1) (0 : ShM.B8)).length = ln + 1 ∧ ln + 1 ≤ 1000000) := Lib.hid ⟨by have := hshl.out; simp; omega, by omega⟩
        have hl2 : Hid (ln + 1 = n + (j + 1)) := Lib.hid (by omega)
        replace hln := Lib.hid hln
        clear hO hR hD hS
        go_wp2_with (at_builtin; refine RfG.wpList_app4 rfl (.tmp 25) (.tmp 26) rfl w1.heap.size (.slice a' ln c') _ rfl O5.out (some ⟨wr.heap.size, 0, none⟩) [0#8] 1 1 rfl rfl r5.out _ (ln + 1) e5.out l5.out.1 l5.out.2 s5.out ?_; intro a6 c6 w6' hO6 hg6 h46)
        have hne6 : ∀ q, (Value.slice a' ln c').ownBlock = some q → w1.heap.size ≤ q := fun q e => (O5.out.blocks q e).1
        have R6 := Lib.hid (ShU.blkOwn R5.out hg6 (fun e => by have := hne6 _ e; have := hw1.out; omega))
        have D6' := Lib.hid (D5.out.grown hg6 D5.out.size (fun q e => by have := hne6 q e; have := hw1.out; omega))
        have s6' := Lib.hid (Nat.le_trans s5.out hg6.size)
        have O6 := Lib.hid hO6
        clear hO6 hg6 h46 hne6
        go_wp2_with fail
        go_roundw
        case rel => exact ⟨j + 1, _, _, by have := hl2.out; omega, by rw [hl2.out], by rw [← hl2.out]; exact O6.out, R6.out, D6'.out, s6'.out⟩
        case measure => simp; omega
      · have h64 : ln = 64 := by omega
        have hW : Hid (short key ++ List.replicate j 0 = wk key) := Lib.hid (by rw [← hpad.out, hshl.out, show j = 64 - n by omega])
        have hlt' : ¬ (ln : Int) < 64 := by omega
        rw [hW.out] at hO
        subst h64
        have OW := Lib.hid hO
        have R5 := Lib.hid hR
        have D5 := Lib.hid hD
        obtain ⟨Kk, hKk⟩ : ∃ Kk, Kk = wk key := ⟨_, rfl⟩
        rw [← hKk] at OW
        have hKl : Hid (Kk.length = 64) := Lib.hid (by rw [hKk]; exact wk_len key)
        have HIP := Lib.hid (fun i h => ipad_take Kk i h)
        have HOP := Lib.hid (fun i h => opad_take Kk i h)
        have hIF : Hid ((ipad Kk).take 64 = ipad Kk ∧ (opad Kk).take 64 = opad Kk) := Lib.hid ⟨List.take_of_length_le (by unfold ipad; rw [List.length_map, hKl.out]; omega), List.take_of_length_le (by unfold opad; rw [List.length_map, hKl.out]; omega)⟩
        have hIL : Hid (∀ i, i ≤ 64 → ((ipad Kk).take i).length = i ∧ ((opad Kk).take i).length = i) := Lib.hid fun i hi => ⟨by rw [List.length_take]; unfold ipad; rw [List.length_map, hKl.out]; omega, by rw [List.length_take]; unfold opad; rw [List.length_map, hKl.out]; omega⟩
        have hMC : Hid (ShM.sum (opad Kk ++ ShM.sum (ipad Kk ++ m)) = mac key m) := Lib.hid (by rw [hKk]; rfl)
        have B2e : Hid (∃ B2, B2 = wr.heap.size) := Lib.hid ⟨_, rfl⟩
        obtain ⟨B2, hB2⟩ := B2e.out
        have hKb : Hid (∀ q, (Value.slice a' 64 c').ownBlock = some q → w1.heap.size ≤ q ∧ q < B2) := Lib.hid fun q e => by rw [hB2]; exact OW.out.blocks q e
        have s5 : Hid (B2 ≤ wr.heap.size) := Lib.hid (by omega)
        have hw2 : Hid (w1.heap.size ≤ B2) := Lib.hid (by omega)
        obtain ⟨gk, hgk⟩ : ∃ gk, a' = some ⟨gk, 0, none⟩ := by
          obtain ⟨a2, c2, e2, _, _, _, h0, _⟩ := OW.out.shape
          injection e2 with e3
          subst e3
          obtain ⟨b3, o3, e3, _⟩ := (ShT.Own.rd OW.out).1.2 0 (by rw [hKl.out]; omega)
          have := h0 _ e3
          rw [e3, this]
          exact ⟨b3, rfl⟩
        subst hgk
        have I0 : Hid (ShT.Own wr B2 (.slice none 0 0) ((ipad Kk).take 0) ∧ ShT.Own wr B2 (.slice none 0 0) ((opad Kk).take 0)) := Lib.hid ⟨by rw [List.take_zero]; exact ShT.Own.nil _ _, by rw [List.take_zero]; exact ShT.Own.nil _ _⟩
        replace hB2 := Lib.hid hB2
        replace hKk := Lib.hid hKk
        replace hln := Lib.hid hln
        clear hO hR hD hS hW B2e hpad hshb hj hlt hlt'
        try clear hlt
        go_wp2_with fail
        go_loopw [7, 8, 9] (fun v7 v8 v9 wr => ∃ (i : Nat) (a7 a8 : Option Addr) (c7 c8 : Nat), i ≤ 64 ∧ v9 = .int .i64 (i : Int) ∧ v7 = .slice a7 i c7 ∧ v8 = .slice a8 i c8 ∧ ShT.Own wr B2 (.slice a7 i c7) ((ipad Kk).take i) ∧ ShT.Own wr B2 (.slice a8 i c8) ((opad Kk).take i) ∧ (∀ q, (Value.slice a7 i c7).ownBlock = some q → (Value.slice a8 i c8).ownBlock ≠ some q) ∧ ShT.Own wr w1.heap.size (.slice (some ⟨gk, 0, none⟩) 64 c') Kk ∧ Mem.Blk wr w.heap.size 27 Z ∧ Below w.heap.size w wr ∧ B2 ≤ wr.heap.size) (fun _ _ v9 _ => 100 - (intOf v9).toNat)
        case atStart => exact ⟨0, none, none, 0, 0, by omega, rfl, rfl, rfl, I0.out.1, I0.out.2, fun q e => by simp [Value.ownBlock] at e, OW.out, R5.out, D5.out, s5.out⟩
        case round =>
          clear I0 OW R5 D5 s5
          obtain ⟨i, a7, a8, c7, c8, hi, rfl, rfl, rfl, h7, h8, hdis, hO, hR, hD, hS⟩ := hrel
          by_cases hlt : i < 64
          · have hlt' : (i : Int) < 64 := by omega
            have hKi := (ShT.Own.rd hO).1
            obtain ⟨b3, o3, e3, ci⟩ := hKi.2 i (by rw [hKl.out]; omega)
            injection e3 with e3
            injection e3 with e4 e5
            subst e4 e5
            rw [Nat.zero_add] at ci
            have hip := HIP.out i (by rw [hKl.out]; omega)
            have hop := HOP.out i (by rw [hKl.out]; omega)
            obtain ⟨y, hy⟩ : ∃ y, y = Kk.getD i 0 := ⟨_, rfl⟩
            rw [← hy] at ci hip hop
            have x1 : bits .xor .u8 (y.toNat : Int) 54 = ((y ^^^ 0x36#8).toNat : Int) := ShT.x8 y 0x36#8
            have x2 : bits .xor .u8 (y.toNat : Int) 92 = ((y ^^^ 0x5C#8).toNat : Int) := ShT.x8 y 0x5C#8
            obtain ⟨BX, hBX⟩ : ∃ BX : Int, BX = ((y ^^^ 0x36#8).toNat : Int) := ⟨_, rfl⟩
            obtain ⟨BY, hBY⟩ : ∃ BY : Int, BY = ((y ^^^ 0x5C#8).toNat : Int) := ⟨_, rfl⟩
            rw [← hBX] at x1
            rw [← hBY] at x2
            have A7 := Lib.hid (h7.alloc (.cells #[.int .u8 BX] 5))
            have A8 := Lib.hid (h8.alloc (.cells #[.int .u8 BX] 5))
            have AK := Lib.hid (hO.alloc (.cells #[.int .u8 BX] 5))
            have AR := Lib.hid (hR.alloc (.cells #[.int .u8 BX] 5))
            have AD := Lib.hid (hD.alloc hD.size (.cells #[.int .u8 BX] 5))
            have AS : Hid (B2 ≤ (wr.alloc (.cells #[.int .u8 BX] 5)).heap.size) := Lib.hid (by simp; omega)
            have rA := Lib.hid (oneRd wr _ BX hBX)
            have lA := Lib.hid (hIL.out (i + 1) (by omega))
            have hip2 := Lib.hid hip
            have hop2 := Lib.hid hop
            have hds := Lib.hid hdis
            have h8b := Lib.hid h8.blocks
            replace hy := Lib.hid hy
            replace hBX := Lib.hid hBX
            replace hBY := Lib.hid hBY
            have him : Hid (i + 1 ≤ 1000000) := Lib.hid (by omega)
            clear h7 h8 hO hR hD hS hip hop hKi hdis
            go_wp2_with (first
              | (at_builtin
                 refine RfG.wpList_app4 rfl (.tmp 32) (.tmp 38) rfl B2 (.slice a7 i c7) _ rfl A7.out (some ⟨wr.heap.size, 0, none⟩) [y ^^^ 0x36#8] 1 1 rfl rfl rA.out _ (i + 1) hip2.out lA.out.1 him.out AS.out ?_
                 intro a9 c9 wa hOa hga h4a
                 have hnea : ∀ q, (Value.slice a7 i c7).ownBlock = some q → B2 ≤ q := fun q e => (A7.out.blocks q e).1
                 have E7 := Lib.hid hOa
                 have E8 := Lib.hid (own_gb A8.out hga (fun q e e2 => hds.out q e2 e))
                 have EK := Lib.hid (own_gb AK.out hga (fun q e e2 => by have := hnea q e2; have := (hKb.out q e).2; omega))
                 have ER := Lib.hid (ShU.blkOwn AR.out hga (fun e => by have := hnea _ e; have := hw1.out; have := hw2.out; omega))
                 have ED := Lib.hid (AD.out.grown hga AD.out.size (fun q e => by have := hnea q e; have := hw1.out; have := hw2.out; omega))
                 have ES := Lib.hid (Nat.le_trans AS.out hga.size)
                 have Edis : Hid (∀ q, (Value.slice a9 (i + 1) c9).ownBlock = some q → (Value.slice a8 i c8).ownBlock ≠ some q) := Lib.hid (fun q e e2 => by
                   rcases h4a with h | h
                   · exact hds.out q (h ▸ e) e2
                   · rw [h] at e
                     injection e with e
                     have := (h8b.out q e2).2
                     simp at e
                     omega)
                 have cj : wa.cell? ⟨gk, i, none⟩ = some (.int .u8 (y.toNat : Int)) := by
                   obtain ⟨b3, o3, e3, cj⟩ := (ShT.Own.rd EK.out).1.2 i (by rw [hKl.out]; omega)
                   injection e3 with e3
                   injection e3 with e4 e5
                   subst e4 e5
                   rw [Nat.zero_add] at cj
                   rw [cj, hy.out]
                 have F7 := Lib.hid (E7.out.alloc (.cells #[.int .u8 BY] 5))
                 have F8 := Lib.hid (E8.out.alloc (.cells #[.int .u8 BY] 5))
                 have FK := Lib.hid (EK.out.alloc (.cells #[.int .u8 BY] 5))
                 have FR := Lib.hid (ER.out.alloc (.cells #[.int .u8 BY] 5))
                 have FD := Lib.hid (ED.out.alloc ED.out.size (.cells #[.int .u8 BY] 5))
                 have FS : Hid (B2 ≤ (wa.alloc (.cells #[.int .u8 BY] 5)).heap.size) := Lib.hid (by have := ES.out; simp; omega)
                 have rF := Lib.hid (oneRd wa _ BY hBY.out)
                 have E7b := Lib.hid E7.out.blocks
                 clear hOa hga h4a hnea)
              | (at_builtin
                 refine RfG.wpList_app4 rfl (.tmp 40) (.tmp 46) rfl B2 (.slice a8 i c8) _ rfl F8.out (some ⟨wa.heap.size, 0, none⟩) [y ^^^ 0x5C#8] 1 1 rfl rfl rF.out _ (i + 1) hop2.out lA.out.2 him.out FS.out ?_
                 intro a10 c10 wb hOb hgb h4b))
            have hneb : ∀ q, (Value.slice a8 i c8).ownBlock = some q → B2 ≤ q := fun q e => (F8.out.blocks q e).1
            have H8 := Lib.hid hOb
            have H7 := Lib.hid (own_gb F7.out hgb (fun q e e2 => Edis.out q e e2))
            have HKK := Lib.hid (own_gb FK.out hgb (fun q e e2 => by have := hneb q e2; have := (hKb.out q e).2; omega))
            have HR := Lib.hid (ShU.blkOwn FR.out hgb (fun e => by have := hneb _ e; have := hw1.out; have := hw2.out; omega))
            have HD := Lib.hid (FD.out.grown hgb FD.out.size (fun q e => by have := hneb q e; have := hw1.out; have := hw2.out; omega))
            have HSz := Lib.hid (Nat.le_trans FS.out hgb.size)
            have Hdis : Hid (∀ q, (Value.slice a9 (i + 1) c9).ownBlock = some q → (Value.slice a10 (i + 1) c10).ownBlock ≠ some q) := Lib.hid (fun q e e2 => by
              rcases h4b with h | h
              · exact Edis.out q e (h ▸ e2)
              · rw [h] at e2
                injection e2 with e2
                have := (E7b.out q e).2
                simp at e2
                omega)
            clear hOb hgb h4b hneb
            go_wp2_with fail
            go_roundw
            case rel => exact ⟨i + 1, a9, a10, c9, c10, by omega, by go_num, rfl, rfl, H7.out, H8.out, Hdis.out, HKK.out, HR.out, HD.out, HSz.out⟩
            case measure => simp [intOf]; omega
          · obtain rfl : i = 64 := by omega
            have hlt' : ¬ ((64 : Nat) : Int) < 64 := by omega
            rw [hIF.out.1] at h7
            rw [hIF.out.2] at h8
            have A7 := Lib.hid h7
            have A8 := Lib.hid h8
            have AR := Lib.hid hR
            have AD := Lib.hid hD
            have AS := Lib.hid hS
            have hds := Lib.hid hdis
            have rB : Hid (Rd wr ab m) := Lib.hid (by
              obtain ⟨_, _, e, hr, _⟩ := HB.out wr hD
              injection e with e1
              subst e1
              exact hr)
            have il : Hid ((ipad Kk ++ m).length = 64 + nb ∧ 64 + nb ≤ 1000000 ∧ 64 + nb ≤ 900000) := Lib.hid ⟨by rw [List.length_append, HNB.out]; unfold ipad; rw [List.length_map, hKl.out], by omega, by omega⟩
            have ol : Hid ((opad Kk ++ ShM.sum (ipad Kk ++ m)).length = 96) := Lib.hid (by rw [List.length_append, sum_len]; unfold opad; rw [List.length_map, hKl.out])
            clear h7 h8 hdis hO hR hD hS HIP HOP hIF hIL
            go_wp2_with (at_builtin; refine RfG.wpList_app4 rfl (.tmp 48) (.tmp 49) rfl B2 (.slice a7 64 c7) (ipad Kk) rfl A7.out ab m nb cb rfl HNB.out rB.out (ipad Kk ++ m) (64 + nb) rfl il.out.1 il.out.2.1 AS.out ?_; intro a9 c9 wa hOa hga h4a)
            have hnea : ∀ q, (Value.slice a7 64 c7).ownBlock = some q → B2 ≤ q := fun q e => (A7.out.blocks q e).1
            have E7 := Lib.hid hOa
            have E8 := Lib.hid (own_gb A8.out hga (fun q e e2 => hds.out q e2 e))
            have ER := Lib.hid (ShU.blkOwn AR.out hga (fun e => by have := hnea _ e; have := hw1.out; have := hw2.out; omega))
            have ED := Lib.hid (AD.out.grown hga AD.out.size (fun q e => by have := hnea q e; have := hw1.out; have := hw2.out; omega))
            have ES := Lib.hid (Nat.le_trans AS.out hga.size)
            clear hOa hga h4a hnea
            refine (HS.out _ a9 (64 + nb) c9 wa il.out.1 il.out.2.2 (one_own E7.out)).mono ?_
            rintro e wb ⟨rfl, bb⟩
            have F8 := Lib.hid (own_below E8.out bb)
            have FR := Lib.hid (ER.out.below bb ER.out.lt)
            have FD := Lib.hid (ED.out.trans (bb.mono ED.out.size))
            have FS := Lib.hid (Nat.le_trans ES.out bb.size)
            obtain ⟨TV, hTV⟩ : ∃ TV, TV = b32 (ShM.sum (ipad Kk ++ m)) := ⟨_, rfl⟩
            rw [← hTV]
            have iT : Hid ((Tryd.prog.info? 27).map (·.size) = some TV.size) := Lib.hid (by rw [hTV, b32_size]; exact i27)
            have sT : Hid (Z.size = TV.size) := Lib.hid (by rw [hTV, hZ.out, b32_size, b32_size])
            have oT : Hid (TV.all (·.oneCell') = true) := Lib.hid (by rw [hTV]; exact b32_one _)
            replace hTV := Lib.hid hTV
            clear bb
            go_wp2_with (first
              | ((with_reducible show wpList _ _ _ (Oper.mk (some 10) (Op.alloc 27) _ _ _ _ :: _) _ _); refine RfF.alloc27 rfl rfl Z hZ.out ?_; intro wc hBc hbc hnc; clear hnc)
              | ((with_reducible show wpList _ _ _ (Oper.mk _ (Op.store 27 (.tmp 10) (.tmp 51)) _ _ _ _ :: _) _ _); refine Mem.storeBlk 27 (.tmp 10) (.tmp 51) rfl wb.heap.size rfl Z TV rfl 27 hBc iT.out sT.out oT.out wb.heap.size wb hbc (Nat.le_refl _) rfl ?_; intro wd hBd hbd
                 have G8 := Lib.hid (own_below F8.out hbd)
                 have GR := Lib.hid (FR.out.below hbd FR.out.lt)
                 have GD := Lib.hid (FD.out.trans (hbd.mono FD.out.size))
                 have GS := Lib.hid (Nat.le_trans FS.out hbd.size)
                 have GT : Hid (Rd wd (some ⟨wb.heap.size, 0, none⟩) (ShM.sum (ipad Kk ++ m))) := Lib.hid (sumRd (sum_len _) (by rw [hTV.out] at hBd; exact hBd))
                 clear hBc hbc hBd hbd)
              | (at_builtin
                 refine RfG.wpList_app4 rfl (.tmp 52) (.tmp 53) rfl B2 (.slice a8 64 c8) (opad Kk) rfl G8.out (some ⟨wb.heap.size, 0, none⟩) (ShM.sum (ipad Kk ++ m)) 32 32 rfl (sum_len _) GT.out (opad Kk ++ ShM.sum (ipad Kk ++ m)) 96 rfl ol.out (by omega) GS.out ?_
                 intro a11 c11 we hOe hge h4e))
            have hnee : ∀ q, (Value.slice a8 64 c8).ownBlock = some q → B2 ≤ q := fun q e => (G8.out.blocks q e).1
            have K8 := Lib.hid hOe
            have KR := Lib.hid (ShU.blkOwn GR.out hge (fun e => by have := hnee _ e; have := hw1.out; have := hw2.out; omega))
            have KD := Lib.hid (GD.out.grown hge GD.out.size (fun q e => by have := hnee q e; have := hw1.out; have := hw2.out; omega))
            clear hOe hge h4e hnee
            refine (HS.out _ a11 96 c11 we ol.out (by omega) (one_own K8.out)).mono ?_
            rintro e wf ⟨rfl, bf⟩
            have LR := Lib.hid (KR.out.below bf KR.out.lt)
            have LD := Lib.hid (KD.out.trans (bf.mono KD.out.size))
            obtain ⟨UV, hUV⟩ : ∃ UV, UV = b32 (ShM.sum (opad Kk ++ ShM.sum (ipad Kk ++ m))) := ⟨_, rfl⟩
            rw [← hUV]
            have iU : Hid ((Tryd.prog.info? 27).map (·.size) = some UV.size) := Lib.hid (by rw [hUV, b32_size]; exact i27)
            have sU : Hid (Z.size = UV.size) := Lib.hid (by rw [hUV, hZ.out, b32_size, b32_size])
            have oU : Hid (UV.all (·.oneCell') = true) := Lib.hid (by rw [hUV]; exact b32_one _)
            have hfin : Hid (UV = b32 (mac key m)) := Lib.hid (by rw [hUV, hMC.out])
            clear bf hUV
            go_wp2_with ((with_reducible show wpList _ _ _ (Oper.mk _ (Op.store 27 (.tmp 4) (.tmp 55)) _ _ _ _ :: _) _ _); refine Mem.storeBlk 27 (.tmp 4) (.tmp 55) rfl w.heap.size rfl Z UV rfl 27 LR.out iU.out sU.out oU.out w.heap.size w LD.out (Nat.le_refl _) rfl ?_; intro wz hBz hbz)
            exact bodyPost_ret (results_cell_row Tryd.results12 _ _ w.heap.size 27 _ (0, 0) _ rfl hBz Tryd.underlying27 rfl iU.out) rfl ⟨by rw [hfin.out], hbz⟩
end Go.Proofs.YtlfohiejlajmaaaDoor.RfG
