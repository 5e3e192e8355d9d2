/- The law of parts. -/
import Derived.Test.YtlfohiejlajmaaaDoorShY
namespace Go.Proofs.YtlfohiejlajmaaaDoor.ShX
open Go.ChangeShapes Go.WideShapes Go.ChangeAt Go.RowKit
open ShM ShA ShB ShC ShD ShE ShF ShG ShH ShI ShJ ShK ShL ShN ShO ShP ShQ ShR ShS ShU ShY Mem
open ShT (Rd vals vals_length vals_one)
set_option linter.unusedVariables false
set_option maxHeartbeats 4000000

theorem early (a ab ac : Option Addr) (n c nb cb nc cc : Nat) (w : World) (hl : Laid w) (h0 : n ≤ 9223372036854775807) (h1 : nb ≤ 9223372036854775807) (h2 : nc ≤ 9223372036854775807) (h : 300 < n ∨ 4096 < nb ∨ 60 < nc) :
    Calls Tryd.prog 6 #[.slice a n c, .slice ab nb cb, .slice ac nc cc] w fun e w' => e = .returned (.bool true) ∧ Below w.heap.size w w' := by
  have HK := Lib.hid (knownW w hl)
  clear hl
  rcases (show 300 < n ∨ (¬ 300 < n ∧ 4096 < nb) ∨ (¬ 300 < n ∧ ¬ 4096 < nb ∧ 60 < nc) by omega) with h | ⟨h1, h2⟩ | ⟨h1, h2, h3⟩
  all_goals
    go_enter Tryd.func6, Tryd.ntmps6
    go_wp2_with fail
    refine HK.out.mono ?_
    rintro e w1 ⟨rfl, b1⟩
    have B1 := Lib.hid b1
    clear b1
    go_wp2_with fail
    go_ret
    exact ⟨rfl, B1.out⟩
theorem tmod_bd (z : Int) (N : Nat) : -(N : Int) ≤ z.tmod ((N : Int) + 1) ∧ z.tmod ((N : Int) + 1) ≤ (N : Int) := by
  have h1 := Int.tmod_lt_of_pos z (show (0 : Int) < (N : Int) + 1 by omega)
  have h2 := Int.lt_tmod_of_pos z (show (0 : Int) < (N : Int) + 1 by omega)
  omega

set_option maxRecDepth 100000 in
theorem law (key bl : List ShM.B8) (a ab ac : Option Addr) (n c nb cb nc cc : Nat) (zc : List Int) (w : World) (hl : Laid w) (hn : key.length = n) (hk : ShN.One w (.slice a n c) key) (hnb : bl.length = nb) (hb : ShN.One w (.slice ab nb cb) bl) (hc : ShT.IsRow .i64 w ac nc cc zc) (h1 : n ≤ 300) (h2 : nb ≤ 4096) (h3 : nc ≤ 60) :
    Calls Tryd.prog 6 #[.slice a n c, .slice ab nb cb, .slice ac nc cc] w fun e w' => e = .returned (.bool true) ∧ Below w.heap.size w w' := by
  have hw2 := Laid.two hl
  have HK := Lib.hid (knownW w hl)
  have HNEW : Hid (∀ w', Below w.heap.size w w' → Calls Tryd.prog 13 #[] w' fun e w'' => ∃ g, w'.heap.size ≤ g ∧ e = .returned (.pointer (some ⟨g, 0, none⟩)) ∧ Dd w'' g none [] ∧ Below w'.heap.size w' w'') := Lib.hid fun w' hb => newDd w' (hl.below hb)
  have HKEY : Hid (∀ w', Below w.heap.size w w' → Calls Tryd.prog 14 #[.slice a n c] w' fun e w'' => ∃ g, w'.heap.size ≤ g ∧ e = .returned (.pointer (some ⟨g, 0, none⟩)) ∧ Dd w'' g (some (wk key)) [] ∧ Below w'.heap.size w' w'') := Lib.hid fun w' hb => keyedW key a n c w' (hl.below hb) hn (hk.below hb)
  have HWR : Hid (∀ g K m l a n c w', Below w.heap.size w w' → w.heap.size ≤ g → Dd w' g K m → ShN.One w (.slice a n c) l → Calls Tryd.prog 16 #[.pointer (some ⟨g, 0, none⟩), .slice a n c] w' fun e w'' => e = .returned (.tuple #[.int .i64 (n : Int), .nilIface]) ∧ Dd w'' g K (m ++ l) ∧ w'.grownBy w'' (some g)) := Lib.hid fun g K m l a n c w' hb hg hd h1 => by
    obtain ⟨hs, e1, e2, e3⟩ := One.sr h1 hb hg
    exact writeDd g K m l a n c w' (hl.below hb) (by omega) hd e1 hs e2 e3
  have HSUM : Hid (∀ g K m w', Below w.heap.size w w' → Dd w' g K m → Calls Tryd.prog 17 #[.pointer (some ⟨g, 0, none⟩)] w' fun e w'' => e = .returned (.agg (b32 (dig K m))) ∧ Below w'.heap.size w' w'') := Lib.hid fun g K m w' hb hd => sumW g K m w' (hl.below hb) hd
  have HOF : Hid (∀ ps a n c w', Below w.heap.size w w' → ps.length = n → Arg w' a ps → n ≤ 1000000 → Calls Tryd.prog 9 #[.slice a n c] w' fun e w'' => e = .returned (.agg (b32 (ShM.sum ps.flatten))) ∧ Below w'.heap.size w' w'') := Lib.hid fun ps a n c w' hb hp ha hm => ofW ps a n c w' (hl.below hb) hp ha hm
  have HMC : Hid (∀ ps a2 n2 c2 w', Below w.heap.size w w' → ps.length = n2 → Arg w' a2 ps → n2 ≤ 1000000 → Calls Tryd.prog 11 #[.slice a n c, .slice a2 n2 c2] w' fun e w'' => e = .returned (.agg (b32 (mac key ps.flatten))) ∧ Below w'.heap.size w' w'') := Lib.hid fun ps a2 n2 c2 w' hb hp ha hm => macW key a n c ps a2 n2 c2 w' (hl.below hb) hn (hk.below hb) hp ha hm
  have HB1 : Hid (∀ w', Below w.heap.size w w' → ShN.One w' (.slice ab nb cb) bl) := Lib.hid fun w' h => hb.below h
  have HBL := Lib.hid hb
  have HNB := Lib.hid hnb
  have HCUT : Hid (∀ i w', i < nc → Below w.heap.size w w' → ∃ b off z, ac = some ⟨b, off, none⟩ ∧ w'.cell? ⟨b, off + i, none⟩ = some (.int .i64 z) ∧ I64 z) := Lib.hid fun i w' hi hb => by
    rcases hc with ⟨_, h, _⟩ | ⟨x, rfl, hl', hm, hz, hcell, hw⟩
    · omega
    · obtain ⟨b, off, spot⟩ := x
      have h0 := hcell i (by omega)
      have hspot : spot = none := by simpa [Addr.add] using World.cell?_spot (hcell 0 (by omega))
      subst hspot
      rw [Addr.add_lit] at h0
      refine ⟨b, off, _, rfl, (hb.cell (p := ⟨b, off + i, none⟩) (World.block_lt_of_cell? w _ h0)).trans h0, ?_⟩
      refine I64.of (hw _ ?_)
      rw [List.getD_eq_getElem?_getD, List.getElem?_eq_getElem (by omega)]
      exact List.getElem_mem _
  have hcb : Hid (nb ≤ cb ∧ cb ≤ maxLen) := Lib.hid (by
    obtain ⟨_, _, e, _, h1, h2, _⟩ := hb
    injection e with _ e2 e3
    omega)
  have hn1 : ¬ (300 : Int) < (n : Int) := by omega
  have hn2 : ¬ (4096 : Int) < (nb : Int) := by omega
  have hn3 : ¬ (60 : Int) < (nc : Int) := by omega
  replace hw2 := Lib.hid hw2
  replace h3 := Lib.hid h3
  clear hl hk hb hc hn hnb
  go_enter Tryd.func6, Tryd.ntmps6
  go_wp2_with fail
  refine HK.out.mono ?_
  rintro e w1 ⟨rfl, b1⟩
  have B1 := Lib.hid b1
  clear b1
  go_wp2_with fail
  refine (HNEW.out w1 B1.out).mono ?_
  rintro e w2 ⟨g8, hg8, rfl, hd8, b2⟩
  have B2 := Lib.hid (B1.out.trans (b2.mono B1.out.size))
  have D8 := Lib.hid hd8
  have hg8w : Hid (w.heap.size ≤ g8) := Lib.hid (by have := B1.out.size; omega)
  clear hd8 b2 hg8
  go_wp2_with fail
  refine (HKEY.out w2 B2.out).mono ?_
  rintro e w3 ⟨gk, hgk, rfl, hdk, b3⟩
  have B3 := Lib.hid (B2.out.trans (b3.mono B2.out.size))
  have D83 := Lib.hid (D8.out.below b3 D8.out.lt)
  have DK3 := Lib.hid hdk
  have hgkw : Hid (g8 < gk) := Lib.hid (by have := D8.out.lt; omega)
  have hlt3 : Hid (g8 < w3.heap.size ∧ gk < w3.heap.size) := Lib.hid ⟨D83.out.lt, DK3.out.lt⟩
  clear hdk b3 hgk D8
  go_wp2_with fail
  go_loopw [7, 10, 11, 12] (fun v7 v10 v11 _ wr => ∃ (ps : List (List ShM.B8)) (A i : Nat), i ≤ nc + 1 ∧ (i = nc + 1 → A = nb) ∧ A ≤ nb ∧ ps.length = i ∧ ps.flatten = bl.take A ∧ v10 = .int .i64 (A : Int) ∧ v11 = .int .i64 (i : Int) ∧ Prts w wr w3.heap.size v7 ps ∧ Dd wr g8 none (bl.take A) ∧ Dd wr gk (some (wk key)) (bl.take A) ∧ Below w.heap.size w wr ∧ w3.heap.size ≤ wr.heap.size) (fun _ _ v11 _ _ => 70 - (intOf v11).toNat)
  case atStart => exact ⟨[], 0, 0, by omega, by omega, by omega, rfl, rfl, rfl, rfl, Prts.nil _ _ _, D83.out, DK3.out, B3.out, Nat.le_refl _⟩
  case round =>
    clear D83 DK3 B3
    obtain ⟨ps, A, i, hi, hiA, hA, hpl, hpf, rfl, rfl, hP, h8, hK, hB, hsz⟩ := hrel
    by_cases hlt : A < nb
    · have hlt' : (A : Int) < (nb : Int) := by omega
      have hinc : i ≤ nc := by rcases Nat.lt_or_ge nc i with h | h; exact absurd (hiA (by omega)) (by omega); exact h
      obtain ⟨NN, hNN⟩ : ∃ NN, NN = nb - A := ⟨_, rfl⟩
      have hnn : (nb : Int) - (A : Int) = (NN : Int) := by omega
      have hNN0 := hNN
      replace hNN := Lib.hid hNN
      have hcA : ¬ cb = A := by have := hcb.out; omega
      have hcb2 : (nb : Int) ≤ (cb : Int) := by have := hcb.out; omega
      obtain ⟨bb, bo, rfl⟩ : ∃ bb bo, ab = some ⟨bb, bo, none⟩ := by
        obtain ⟨a', c', e, hr, _⟩ := HBL.out
        injection e with e1
        obtain ⟨b, off, e, _⟩ := hr.2 0 (by have := HNB.out; omega)
        exact ⟨b, off, e1.trans e⟩
      by_cases hic : i < nc
      · have hic' : (i : Int) < (nc : Int) := by omega
        obtain ⟨kb, ko, z, rfl, hcell, hz⟩ := HCUT.out i wr hic hB
        obtain ⟨τ, hτ⟩ : ∃ τ, z.tmod ((NN : Int) + 1) = τ := ⟨_, rfl⟩
        have hτb := tmod_bd z NN
        rw [hτ] at hτb
        have hz1 := hz.1
        have hz2 := hz.2
        have hNp : ¬ (NN : Int) + 1 = 0 := by omega
        clear hz
        by_cases hneg : τ < 0
        · obtain ⟨QQ, hQQ⟩ : ∃ QQ : Nat, τ = -(QQ : Int) := ⟨(-τ).toNat, by omega⟩
          subst hQQ
          obtain ⟨E, hEE⟩ : ∃ E, E = A + QQ := ⟨_, rfl⟩
          have hE : (A : Int) + (QQ : Int) = (E : Int) := by omega
          have hEn : E ≤ nb := by omega
          replace hEE := Lib.hid hEE
          have hAE : A ≤ E ∧ E ≤ nb := by omega
          have hEA : Hid (E - A = QQ) := Lib.hid (by omega)
          have hE0 : (0 : Int) ≤ (A : Int) := by omega
          have hE1 : (A : Int) ≤ (E : Int) := by omega
          have hE2 : (E : Int) ≤ (cb : Int) := by omega
          have hpart : Hid (ShN.One w (.slice (some ⟨bb, bo + A, none⟩) (E - A) (cb - A)) ((bl.drop A).take (E - A))) := Lib.hid (One.mid HBL.out A E hAE.1 (by have := HNB.out; omega) (by have := HNB.out; omega))
          have htm : Hid (bl.take A ++ (bl.drop A).take (E - A) = bl.take E) := Lib.hid (take_mid bl A E hAE.1)
          have hpl2 : Hid ((ps ++ [(bl.drop A).take (E - A)]).length = i + 1) := Lib.hid (by rw [List.length_append, hpl]; rfl)
          have hpf2 : Hid ((ps ++ [(bl.drop A).take (E - A)]).flatten = bl.take E) := Lib.hid (by rw [List.flatten_append, hpf, ← htm.out]; simp)
          have hplb : Hid (ps.length ≤ 100000) := Lib.hid (by rw [hpl]; have := h3.out; omega)
          have hend : Hid (i + 1 ≤ nc + 1 ∧ (i + 1 = nc + 1 → E = nb) ∧ E ≤ nb) := Lib.hid (by omega)
          have hP1 := Lib.hid (hP.alloc (.cells #[.slice (some ⟨bb, bo + A, none⟩) (E - A) (cb - A)] 22))
          have h81 := Lib.hid (h8.below ((Below.refl wr.heap.size wr).alloc (Nat.le_refl _) (.cells #[.slice (some ⟨bb, bo + A, none⟩) (E - A) (cb - A)] 22)) h8.lt)
          have hK1 := Lib.hid (hK.below ((Below.refl wr.heap.size wr).alloc (Nat.le_refl _) (.cells #[.slice (some ⟨bb, bo + A, none⟩) (E - A) (cb - A)] 22)) hK.lt)
          have hB1 := Lib.hid (hB.alloc hB.size (.cells #[.slice (some ⟨bb, bo + A, none⟩) (E - A) (cb - A)] 22))
          have hN1 : Hid (Mem.Blk (wr.alloc (.cells #[.slice (some ⟨bb, bo + A, none⟩) (E - A) (cb - A)] 22)) wr.heap.size 22 #[.slice (some ⟨bb, bo + A, none⟩) (E - A) (cb - A)]) := Lib.hid (Mem.Blk.new wr 22 _)
          have hsz1 : Hid (w3.heap.size ≤ (wr.alloc (.cells #[.slice (some ⟨bb, bo + A, none⟩) (E - A) (cb - A)] 22)).heap.size) := Lib.hid (by simp; omega)
          clear hP h8 hK hB hpl hpf hAE hNN0
          replace hsz := Lib.hid hsz
          go_upto_region 20 with (first
            | (at_builtin
               refine wpList_more rfl (.tmp 62) (.tmp 69) rfl w w3.heap.size u7 ps rfl hP1.out _ _ hpart.out wr.heap.size rfl (hN1.out.cell 0) hplb.out hsz1.out ?_
               intro v7' w4 hP2 hg4))
          have hne4 : ∀ k, (u7 : Value).ownBlock = some k → w3.heap.size ≤ k := fun k e => (hP1.out.blocks k e).1
          have h84 := Lib.hid (Dd.gb h81.out hg4 (fun e => by have := hne4 _ e; have := hlt3.out.1; omega))
          have hK4 := Lib.hid (Dd.gb hK1.out hg4 (fun e => by have := hne4 _ e; have := hlt3.out.2; omega))
          have hB4 := Lib.hid (hB1.out.grown hg4 hB1.out.size (fun k e => by have := hne4 k e; have := hlt3.out.1; have := hg8w.out; omega))
          have hP4 := Lib.hid hP2
          have hsz4 := Lib.hid (Nat.le_trans hsz1.out hg4.size)
          clear hP2 hg4 hne4 hP1 h81 hK1 hB1 hN1 hsz1
          go_wp2_with fail
          refine (HWR.out g8 none (bl.take A) _ _ _ _ w4 hB4.out hg8w.out h84.out hpart.out).mono ?_
          rintro e w5 ⟨rfl, hd5, hg5⟩
          have hne5 : (v7' : Value).ownBlock ≠ some g8 := fun e => by have := (hP4.out.blocks _ e).1; have := hlt3.out.1; omega
          have h85 : Hid (Dd w5 g8 none (bl.take E)) := Lib.hid (by rw [← htm.out]; exact hd5)
          have hK5 := Lib.hid (Dd.gb hK4.out hg5 (fun e => by injection e with e; have := hgkw.out; omega))
          have hP5 := Lib.hid (hP4.out.gb hg5 (.inr hne5))
          have hB5 := Lib.hid (Below.gb hB4.out hg5 hg8w.out hB4.out.size)
          have hsz5 := Lib.hid (Nat.le_trans hsz4.out hg5.size)
          clear hd5 hg5 hne5 h84 hK4 hB4 hP4 hsz4
          go_wp2_with fail
          refine (HWR.out gk (some (wk key)) (bl.take A) _ _ _ _ w5 hB5.out (by have := hg8w.out; have := hgkw.out; omega) hK5.out hpart.out).mono ?_
          rintro e w6 ⟨rfl, hd6, hg6⟩
          have hne6 : (v7' : Value).ownBlock ≠ some gk := fun e => by have := (hP5.out.blocks _ e).1; have := hlt3.out.2; omega
          have hK6 : Hid (Dd w6 gk (some (wk key)) (bl.take E)) := Lib.hid (by rw [← htm.out]; exact hd6)
          have h86 := Lib.hid (Dd.gb h85.out hg6 (fun e => by injection e with e; have := hgkw.out; omega))
          have hP6 := Lib.hid (hP5.out.gb hg6 (.inr hne6))
          have hB6 := Lib.hid (Below.gb hB5.out hg6 (by have := hg8w.out; have := hgkw.out; omega) hB5.out.size)
          have hsz6 := Lib.hid (Nat.le_trans hsz5.out hg6.size)
          clear hd6 hg6 hne6 h85 hK5 hB5 hP5 hsz5
          go_wp2_with fail
          go_roundw
          case rel => exact ⟨_, E, i + 1, hend.out.1, (fun h => by first | rfl | exact hend.out.2.1 h), hend.out.2.2, hpl2.out, hpf2.out, by go_num, by go_num, hP6.out, h86.out, hK6.out, hB6.out, hsz6.out⟩
          case measure => have := h3.out; simp [intOf]; omega

        · obtain ⟨QQ, hQQ⟩ : ∃ QQ : Nat, τ = (QQ : Int) := ⟨τ.toNat, by omega⟩
          subst hQQ
          obtain ⟨E, hEE⟩ : ∃ E, E = A + QQ := ⟨_, rfl⟩
          have hE : (A : Int) + (QQ : Int) = (E : Int) := by omega
          have hEn : E ≤ nb := by omega
          replace hEE := Lib.hid hEE
          have hAE : A ≤ E ∧ E ≤ nb := by omega
          have hEA : Hid (E - A = QQ) := Lib.hid (by omega)
          have hE0 : (0 : Int) ≤ (A : Int) := by omega
          have hE1 : (A : Int) ≤ (E : Int) := by omega
          have hE2 : (E : Int) ≤ (cb : Int) := by omega
          have hpart : Hid (ShN.One w (.slice (some ⟨bb, bo + A, none⟩) (E - A) (cb - A)) ((bl.drop A).take (E - A))) := Lib.hid (One.mid HBL.out A E hAE.1 (by have := HNB.out; omega) (by have := HNB.out; omega))
          have htm : Hid (bl.take A ++ (bl.drop A).take (E - A) = bl.take E) := Lib.hid (take_mid bl A E hAE.1)
          have hpl2 : Hid ((ps ++ [(bl.drop A).take (E - A)]).length = i + 1) := Lib.hid (by rw [List.length_append, hpl]; rfl)
          have hpf2 : Hid ((ps ++ [(bl.drop A).take (E - A)]).flatten = bl.take E) := Lib.hid (by rw [List.flatten_append, hpf, ← htm.out]; simp)
          have hplb : Hid (ps.length ≤ 100000) := Lib.hid (by rw [hpl]; have := h3.out; omega)
          have hend : Hid (i + 1 ≤ nc + 1 ∧ (i + 1 = nc + 1 → E = nb) ∧ E ≤ nb) := Lib.hid (by omega)
          have hP1 := Lib.hid (hP.alloc (.cells #[.slice (some ⟨bb, bo + A, none⟩) (E - A) (cb - A)] 22))
          have h81 := Lib.hid (h8.below ((Below.refl wr.heap.size wr).alloc (Nat.le_refl _) (.cells #[.slice (some ⟨bb, bo + A, none⟩) (E - A) (cb - A)] 22)) h8.lt)
          have hK1 := Lib.hid (hK.below ((Below.refl wr.heap.size wr).alloc (Nat.le_refl _) (.cells #[.slice (some ⟨bb, bo + A, none⟩) (E - A) (cb - A)] 22)) hK.lt)
          have hB1 := Lib.hid (hB.alloc hB.size (.cells #[.slice (some ⟨bb, bo + A, none⟩) (E - A) (cb - A)] 22))
          have hN1 : Hid (Mem.Blk (wr.alloc (.cells #[.slice (some ⟨bb, bo + A, none⟩) (E - A) (cb - A)] 22)) wr.heap.size 22 #[.slice (some ⟨bb, bo + A, none⟩) (E - A) (cb - A)]) := Lib.hid (Mem.Blk.new wr 22 _)
          have hsz1 : Hid (w3.heap.size ≤ (wr.alloc (.cells #[.slice (some ⟨bb, bo + A, none⟩) (E - A) (cb - A)] 22)).heap.size) := Lib.hid (by simp; omega)
          clear hP h8 hK hB hpl hpf hAE hNN0
          replace hsz := Lib.hid hsz
          go_upto_region 20 with (first
            | (at_builtin
               refine wpList_more rfl (.tmp 62) (.tmp 69) rfl w w3.heap.size u7 ps rfl hP1.out _ _ hpart.out wr.heap.size rfl (hN1.out.cell 0) hplb.out hsz1.out ?_
               intro v7' w4 hP2 hg4))
          have hne4 : ∀ k, (u7 : Value).ownBlock = some k → w3.heap.size ≤ k := fun k e => (hP1.out.blocks k e).1
          have h84 := Lib.hid (Dd.gb h81.out hg4 (fun e => by have := hne4 _ e; have := hlt3.out.1; omega))
          have hK4 := Lib.hid (Dd.gb hK1.out hg4 (fun e => by have := hne4 _ e; have := hlt3.out.2; omega))
          have hB4 := Lib.hid (hB1.out.grown hg4 hB1.out.size (fun k e => by have := hne4 k e; have := hlt3.out.1; have := hg8w.out; omega))
          have hP4 := Lib.hid hP2
          have hsz4 := Lib.hid (Nat.le_trans hsz1.out hg4.size)
          clear hP2 hg4 hne4 hP1 h81 hK1 hB1 hN1 hsz1
          go_wp2_with fail
          refine (HWR.out g8 none (bl.take A) _ _ _ _ w4 hB4.out hg8w.out h84.out hpart.out).mono ?_
          rintro e w5 ⟨rfl, hd5, hg5⟩
          have hne5 : (v7' : Value).ownBlock ≠ some g8 := fun e => by have := (hP4.out.blocks _ e).1; have := hlt3.out.1; omega
          have h85 : Hid (Dd w5 g8 none (bl.take E)) := Lib.hid (by rw [← htm.out]; exact hd5)
          have hK5 := Lib.hid (Dd.gb hK4.out hg5 (fun e => by injection e with e; have := hgkw.out; omega))
          have hP5 := Lib.hid (hP4.out.gb hg5 (.inr hne5))
          have hB5 := Lib.hid (Below.gb hB4.out hg5 hg8w.out hB4.out.size)
          have hsz5 := Lib.hid (Nat.le_trans hsz4.out hg5.size)
          clear hd5 hg5 hne5 h84 hK4 hB4 hP4 hsz4
          go_wp2_with fail
          refine (HWR.out gk (some (wk key)) (bl.take A) _ _ _ _ w5 hB5.out (by have := hg8w.out; have := hgkw.out; omega) hK5.out hpart.out).mono ?_
          rintro e w6 ⟨rfl, hd6, hg6⟩
          have hne6 : (v7' : Value).ownBlock ≠ some gk := fun e => by have := (hP5.out.blocks _ e).1; have := hlt3.out.2; omega
          have hK6 : Hid (Dd w6 gk (some (wk key)) (bl.take E)) := Lib.hid (by rw [← htm.out]; exact hd6)
          have h86 := Lib.hid (Dd.gb h85.out hg6 (fun e => by injection e with e; have := hgkw.out; omega))
          have hP6 := Lib.hid (hP5.out.gb hg6 (.inr hne6))
          have hB6 := Lib.hid (Below.gb hB5.out hg6 (by have := hg8w.out; have := hgkw.out; omega) hB5.out.size)
          have hsz6 := Lib.hid (Nat.le_trans hsz5.out hg6.size)
          clear hd6 hg6 hne6 h85 hK5 hB5 hP5 hsz5
          go_wp2_with fail
          go_roundw
          case rel => exact ⟨_, E, i + 1, hend.out.1, (fun h => by first | rfl | exact hend.out.2.1 h), hend.out.2.2, hpl2.out, hpf2.out, by go_num, by go_num, hP6.out, h86.out, hK6.out, hB6.out, hsz6.out⟩
          case measure => have := h3.out; simp [intOf]; omega

      · have hic' : ¬ (i : Int) < (nc : Int) := by omega
        obtain ⟨QQ, hQQ⟩ : ∃ QQ, QQ = NN := ⟨_, rfl⟩
        rw [← hQQ] at hnn
        have hE : (A : Int) + (QQ : Int) = (nb : Int) := by omega
        replace hQQ := Lib.hid hQQ
        have hAE : A ≤ nb ∧ nb ≤ nb := by omega
        have hEA : Hid (nb - A = QQ) := Lib.hid (by omega)
        have hE0 : (0 : Int) ≤ (A : Int) := by omega
        have hE1 : (A : Int) ≤ (nb : Int) := by omega
        have hE2 : (nb : Int) ≤ (cb : Int) := by omega
        have hpart : Hid (ShN.One w (.slice (some ⟨bb, bo + A, none⟩) (nb - A) (cb - A)) ((bl.drop A).take (nb - A))) := Lib.hid (One.mid HBL.out A nb hAE.1 (by have := HNB.out; omega) (by have := HNB.out; omega))
        have htm : Hid (bl.take A ++ (bl.drop A).take (nb - A) = bl.take nb) := Lib.hid (take_mid bl A nb hAE.1)
        have hpl2 : Hid ((ps ++ [(bl.drop A).take (nb - A)]).length = i + 1) := Lib.hid (by rw [List.length_append, hpl]; rfl)
        have hpf2 : Hid ((ps ++ [(bl.drop A).take (nb - A)]).flatten = bl.take nb) := Lib.hid (by rw [List.flatten_append, hpf, ← htm.out]; simp)
        have hplb : Hid (ps.length ≤ 100000) := Lib.hid (by rw [hpl]; have := h3.out; omega)
        have hend : Hid (i + 1 ≤ nc + 1 ∧ (i + 1 = nc + 1 → nb = nb) ∧ nb ≤ nb) := Lib.hid (by omega)
        have hP1 := Lib.hid (hP.alloc (.cells #[.slice (some ⟨bb, bo + A, none⟩) (nb - A) (cb - A)] 22))
        have h81 := Lib.hid (h8.below ((Below.refl wr.heap.size wr).alloc (Nat.le_refl _) (.cells #[.slice (some ⟨bb, bo + A, none⟩) (nb - A) (cb - A)] 22)) h8.lt)
        have hK1 := Lib.hid (hK.below ((Below.refl wr.heap.size wr).alloc (Nat.le_refl _) (.cells #[.slice (some ⟨bb, bo + A, none⟩) (nb - A) (cb - A)] 22)) hK.lt)
        have hB1 := Lib.hid (hB.alloc hB.size (.cells #[.slice (some ⟨bb, bo + A, none⟩) (nb - A) (cb - A)] 22))
        have hN1 : Hid (Mem.Blk (wr.alloc (.cells #[.slice (some ⟨bb, bo + A, none⟩) (nb - A) (cb - A)] 22)) wr.heap.size 22 #[.slice (some ⟨bb, bo + A, none⟩) (nb - A) (cb - A)]) := Lib.hid (Mem.Blk.new wr 22 _)
        have hsz1 : Hid (w3.heap.size ≤ (wr.alloc (.cells #[.slice (some ⟨bb, bo + A, none⟩) (nb - A) (cb - A)] 22)).heap.size) := Lib.hid (by simp; omega)
        clear hP h8 hK hB hpl hpf hAE hNN0
        replace hsz := Lib.hid hsz
        go_upto_region 20 with (first
          | (at_builtin
             refine wpList_more rfl (.tmp 62) (.tmp 69) rfl w w3.heap.size u7 ps rfl hP1.out _ _ hpart.out wr.heap.size rfl (hN1.out.cell 0) hplb.out hsz1.out ?_
             intro v7' w4 hP2 hg4))
        have hne4 : ∀ k, (u7 : Value).ownBlock = some k → w3.heap.size ≤ k := fun k e => (hP1.out.blocks k e).1
        have h84 := Lib.hid (Dd.gb h81.out hg4 (fun e => by have := hne4 _ e; have := hlt3.out.1; omega))
        have hK4 := Lib.hid (Dd.gb hK1.out hg4 (fun e => by have := hne4 _ e; have := hlt3.out.2; omega))
        have hB4 := Lib.hid (hB1.out.grown hg4 hB1.out.size (fun k e => by have := hne4 k e; have := hlt3.out.1; have := hg8w.out; omega))
        have hP4 := Lib.hid hP2
        have hsz4 := Lib.hid (Nat.le_trans hsz1.out hg4.size)
        clear hP2 hg4 hne4 hP1 h81 hK1 hB1 hN1 hsz1
        go_wp2_with fail
        refine (HWR.out g8 none (bl.take A) _ _ _ _ w4 hB4.out hg8w.out h84.out hpart.out).mono ?_
        rintro e w5 ⟨rfl, hd5, hg5⟩
        have hne5 : (v7' : Value).ownBlock ≠ some g8 := fun e => by have := (hP4.out.blocks _ e).1; have := hlt3.out.1; omega
        have h85 : Hid (Dd w5 g8 none (bl.take nb)) := Lib.hid (by rw [← htm.out]; exact hd5)
        have hK5 := Lib.hid (Dd.gb hK4.out hg5 (fun e => by injection e with e; have := hgkw.out; omega))
        have hP5 := Lib.hid (hP4.out.gb hg5 (.inr hne5))
        have hB5 := Lib.hid (Below.gb hB4.out hg5 hg8w.out hB4.out.size)
        have hsz5 := Lib.hid (Nat.le_trans hsz4.out hg5.size)
        clear hd5 hg5 hne5 h84 hK4 hB4 hP4 hsz4
        go_wp2_with fail
        refine (HWR.out gk (some (wk key)) (bl.take A) _ _ _ _ w5 hB5.out (by have := hg8w.out; have := hgkw.out; omega) hK5.out hpart.out).mono ?_
        rintro e w6 ⟨rfl, hd6, hg6⟩
        have hne6 : (v7' : Value).ownBlock ≠ some gk := fun e => by have := (hP5.out.blocks _ e).1; have := hlt3.out.2; omega
        have hK6 : Hid (Dd w6 gk (some (wk key)) (bl.take nb)) := Lib.hid (by rw [← htm.out]; exact hd6)
        have h86 := Lib.hid (Dd.gb h85.out hg6 (fun e => by injection e with e; have := hgkw.out; omega))
        have hP6 := Lib.hid (hP5.out.gb hg6 (.inr hne6))
        have hB6 := Lib.hid (Below.gb hB5.out hg6 (by have := hg8w.out; have := hgkw.out; omega) hB5.out.size)
        have hsz6 := Lib.hid (Nat.le_trans hsz5.out hg6.size)
        clear hd6 hg6 hne6 h85 hK5 hB5 hP5 hsz5
        go_wp2_with fail
        go_roundw
        case rel => exact ⟨_, nb, i + 1, hend.out.1, (fun h => by first | rfl | exact hend.out.2.1 h), hend.out.2.2, hpl2.out, hpf2.out, by go_num, by go_num, hP6.out, h86.out, hK6.out, hB6.out, hsz6.out⟩
        case measure => have := h3.out; simp [intOf]; omega


    · obtain rfl : nb = A := by omega
      have hlt' : ¬ (nb : Int) < (nb : Int) := by omega
      obtain ⟨a7, c7, rfl, hArg⟩ := hP.shape hB
      have hfl : ps.flatten = bl := by rw [hpf, ← HNB.out, List.take_length]
      rw [← HNB.out, List.take_length] at h8 hK
      obtain ⟨SV, hSV⟩ : ∃ SV, SV = b32 (ShM.sum bl) := ⟨_, rfl⟩
      obtain ⟨MV, hMV⟩ : ∃ MV, MV = b32 (mac key bl) := ⟨_, rfl⟩
      have HO1 : Hid (∀ w', Below w.heap.size w w' → Below wr.heap.size wr w' → Calls Tryd.prog 9 #[.slice a7 ps.length c7] w' fun e w'' => e = .returned (.agg SV) ∧ Below w'.heap.size w' w'') := Lib.hid fun w' hb1 hb2 => by
        have := HOF.out ps a7 ps.length c7 w' hb1 rfl (hArg.below hb2) (by have := h3.out; omega)
        rwa [hfl, ← hSV] at this
      have HO2 : Hid (∀ w' g, Below w.heap.size w w' → Mem.Blk w' g 22 #[.slice ab nb cb] → Calls Tryd.prog 9 #[.slice (some ⟨g, 0, none⟩) 1 1] w' fun e w'' => e = .returned (.agg SV) ∧ Below w'.heap.size w' w'') := Lib.hid fun w' g hb1 hB => by
        have := HOF.out [bl] (some ⟨g, 0, none⟩) 1 1 w' hb1 rfl (Arg.one hB (HB1.out w' hb1)) (by omega)
        rwa [show [bl].flatten = bl by simp, ← hSV] at this
      have HS1 : Hid (∀ w', Below w.heap.size w w' → Below wr.heap.size wr w' → Calls Tryd.prog 17 #[.pointer (some ⟨g8, 0, none⟩)] w' fun e w'' => e = .returned (.agg SV) ∧ Below w'.heap.size w' w'') := Lib.hid fun w' hb1 hb2 => by
        have := HSUM.out g8 none bl w' hb1 (h8.below hb2 h8.lt)
        rwa [show dig none bl = ShM.sum bl from rfl, ← hSV] at this
      have HS2 : Hid (∀ w', Below w.heap.size w w' → Below wr.heap.size wr w' → Calls Tryd.prog 17 #[.pointer (some ⟨gk, 0, none⟩)] w' fun e w'' => e = .returned (.agg MV) ∧ Below w'.heap.size w' w'') := Lib.hid fun w' hb1 hb2 => by
        have := HSUM.out gk (some (wk key)) bl w' hb1 (hK.below hb2 hK.lt)
        rwa [show dig (some (wk key)) bl = mac key bl from rfl, ← hMV] at this
      have HM1 : Hid (∀ w', Below w.heap.size w w' → Below wr.heap.size wr w' → Calls Tryd.prog 11 #[.slice a n c, .slice a7 ps.length c7] w' fun e w'' => e = .returned (.agg MV) ∧ Below w'.heap.size w' w'') := Lib.hid fun w' hb1 hb2 => by
        have := HMC.out ps a7 ps.length c7 w' hb1 rfl (hArg.below hb2) (by have := h3.out; omega)
        rwa [hfl, ← hMV] at this
      have HM2 : Hid (∀ w' g, Below w.heap.size w w' → Mem.Blk w' g 22 #[.slice ab nb cb] → Calls Tryd.prog 11 #[.slice a n c, .slice (some ⟨g, 0, none⟩) 1 1] w' fun e w'' => e = .returned (.agg MV) ∧ Below w'.heap.size w' w'') := Lib.hid fun w' g hb1 hB => by
        have := HMC.out [bl] (some ⟨g, 0, none⟩) 1 1 w' hb1 rfl (Arg.one hB (HB1.out w' hb1)) (by omega)
        rwa [show [bl].flatten = bl by simp, ← hMV] at this
      have eS : Hid (∃ l, SV = b32 l) := Lib.hid ⟨_, hSV⟩
      have eM : Hid (∃ l, MV = b32 l) := Lib.hid ⟨_, hMV⟩
      replace hSV := Lib.hid hSV
      replace hMV := Lib.hid hMV
      have WB := Lib.hid hB
      have WW := Lib.hid (Below.refl wr.heap.size wr)
      clear hArg hP h8 hK hB hpf hfl hiA
      obtain ⟨pl, hpl'⟩ : ∃ pl, pl = ps.length := ⟨_, rfl⟩
      rw [← hpl'] at HO1 HM1 ⊢
      replace hpl' := Lib.hid hpl'
      clear hpl
      go_wp2_with fail
      refine (HO1.out _ WB.out WW.out).mono ?_
      rintro e y0 ⟨rfl, b0⟩
      have zB0 := Lib.hid (WB.out.trans (b0.mono WB.out.size))
      have zW0 := Lib.hid (WW.out.trans (b0.mono WW.out.size))
      clear b0
      go_wp2_with fail
      have xB1 := Lib.hid (zB0.out.alloc zB0.out.size (.cells #[.slice ab nb cb] 22))
      have xW1 := Lib.hid (zW0.out.alloc zW0.out.size (.cells #[.slice ab nb cb] 22))
      refine (HO2.out _ y0.heap.size xB1.out (Mem.Blk.new y0 22 _)).mono ?_
      rintro e y1 ⟨rfl, b1⟩
      have zB1 := Lib.hid (xB1.out.trans (b1.mono xB1.out.size))
      have zW1 := Lib.hid (xW1.out.trans (b1.mono xW1.out.size))
      clear b1
      go_wp2_with ((with_reducible show wpList _ _ _ (Oper.mk _ (Op.binOp .eql 28 (.tmp 91) (.tmp 94) 28) _ _ _ _ :: _) _ _); refine ShY.eqSame (.tmp 91) (.tmp 94) rfl SV eS.out rfl rfl rfl ?_)
      refine (HS1.out _ zB1.out zW1.out).mono ?_
      rintro e y2 ⟨rfl, b2⟩
      have zB2 := Lib.hid (zB1.out.trans (b2.mono zB1.out.size))
      have zW2 := Lib.hid (zW1.out.trans (b2.mono zW1.out.size))
      clear b2
      go_wp2_with fail
      have xB3 := Lib.hid (zB2.out.alloc zB2.out.size (.cells #[.slice ab nb cb] 22))
      have xW3 := Lib.hid (zW2.out.alloc zW2.out.size (.cells #[.slice ab nb cb] 22))
      refine (HO2.out _ y2.heap.size xB3.out (Mem.Blk.new y2 22 _)).mono ?_
      rintro e y3 ⟨rfl, b3⟩
      have zB3 := Lib.hid (xB3.out.trans (b3.mono xB3.out.size))
      have zW3 := Lib.hid (xW3.out.trans (b3.mono xW3.out.size))
      clear b3
      go_wp2_with ((with_reducible show wpList _ _ _ (Oper.mk _ (Op.binOp .eql 28 (.tmp 98) (.tmp 101) 28) _ _ _ _ :: _) _ _); refine ShY.eqSame (.tmp 98) (.tmp 101) rfl SV eS.out rfl rfl rfl ?_)
      refine (HS2.out _ zB3.out zW3.out).mono ?_
      rintro e y4 ⟨rfl, b4⟩
      have zB4 := Lib.hid (zB3.out.trans (b4.mono zB3.out.size))
      have zW4 := Lib.hid (zW3.out.trans (b4.mono zW3.out.size))
      clear b4
      go_wp2_with fail
      have xB5 := Lib.hid (zB4.out.alloc zB4.out.size (.cells #[.slice ab nb cb] 22))
      have xW5 := Lib.hid (zW4.out.alloc zW4.out.size (.cells #[.slice ab nb cb] 22))
      refine (HM2.out _ y4.heap.size xB5.out (Mem.Blk.new y4 22 _)).mono ?_
      rintro e y5 ⟨rfl, b5⟩
      have zB5 := Lib.hid (xB5.out.trans (b5.mono xB5.out.size))
      have zW5 := Lib.hid (xW5.out.trans (b5.mono xW5.out.size))
      clear b5
      go_wp2_with ((with_reducible show wpList _ _ _ (Oper.mk _ (Op.binOp .eql 28 (.tmp 106) (.tmp 110) 28) _ _ _ _ :: _) _ _); refine ShY.eqSame (.tmp 106) (.tmp 110) rfl MV eM.out rfl rfl rfl ?_)
      refine (HM1.out _ zB5.out zW5.out).mono ?_
      rintro e y6 ⟨rfl, b6⟩
      have zB6 := Lib.hid (zB5.out.trans (b6.mono zB5.out.size))
      have zW6 := Lib.hid (zW5.out.trans (b6.mono zW5.out.size))
      clear b6
      go_wp2_with fail
      have xB7 := Lib.hid (zB6.out.alloc zB6.out.size (.cells #[.slice ab nb cb] 22))
      have xW7 := Lib.hid (zW6.out.alloc zW6.out.size (.cells #[.slice ab nb cb] 22))
      refine (HM2.out _ y6.heap.size xB7.out (Mem.Blk.new y6 22 _)).mono ?_
      rintro e y7 ⟨rfl, b7⟩
      have W9 := Lib.hid (xB7.out.trans (b7.mono xB7.out.size))
      have V9 := Lib.hid (xW7.out.trans (b7.mono xW7.out.size))
      clear b7
      go_wp2_with ((with_reducible show wpList _ _ _ (Oper.mk _ (Op.binOp .eql 28 (.tmp 116) (.tmp 120) 28) _ _ _ _ :: _) _ _); refine ShY.eqSame (.tmp 116) (.tmp 120) rfl MV eM.out rfl rfl rfl ?_)
      go_ret
      exact ⟨by simp, W9.out⟩

theorem row_le {k : IntKind} {w : World} {a : Option Addr} {n c : Nat} {zs : List Int} (h : ShT.IsRow k w a n c zs) : n ≤ 9223372036854775807 := by
  rcases h with ⟨_, rfl, _⟩ | ⟨x, _, hl, hm, _⟩
  · omega
  · simp only [maxLen] at hm; omega
theorem partsAll (a : Option Addr) (n c : Nat) (zs : List Int) (ab : Option Addr) (nb cb : Nat) (zb : List Int) (ac : Option Addr) (nc cc : Nat) (zc : List Int) (w : World) (h0 : ShT.IsRow .u8 w a n c zs) (h1 : ShT.IsRow .u8 w ab nb cb zb) (h2 : ShT.IsRow .i64 w ac nc cc zc) (hl : Laid w) :
    Calls Tryd.prog 6 #[.slice a n c, .slice ab nb cb, .slice ac nc cc] w fun e w' => e = .returned (.bool true) ∧ Below w.heap.size w w' := by
  obtain ⟨key, hn, hk⟩ := ShW.one_of h0
  obtain ⟨bl, hnb, hb⟩ := ShW.one_of h1
  by_cases hbig : 300 < n ∨ 4096 < nb ∨ 60 < nc
  · exact early a ab ac n c nb cb nc cc w hl (row_le h0) (row_le h1) (row_le h2) hbig
  · exact law key bl a ab ac n c nb cb nc cc zc w hl hn hk hnb hb h2 (by omega) (by omega) (by omega)
end Go.Proofs.YtlfohiejlajmaaaDoor.ShX
