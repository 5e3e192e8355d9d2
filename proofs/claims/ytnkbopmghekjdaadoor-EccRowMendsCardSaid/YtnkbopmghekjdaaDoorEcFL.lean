/- The law on rows with turned bits: its walk. -/
import Derived.Test.YtnkbopmghekjdaaDoorEcFW
import Derived.Test.YtnkbopmghekjdaaDoorEcWL
namespace Go.Proofs.YtnkbopmghekjdaaDoor.EcFL
open Go.ChangeShapes Go.WideShapes Go.ChangeAt Go.RowKit
open EcM EcA EcB EcC EcT EcX EcY EcZ EcWM EcWP EcFM EcFW
set_option linter.unusedVariables false
set_option maxHeartbeats 2000000

theorem own_kept {w w' : World} {base : Nat} {v : Value} {xs : List B8} {r : Option Nat} (h : Own w base v xs) (hg : w.grownBy w' r) (hne : v.ownBlock ≠ r) : Own w' base v xs := World.ownsRow.kept h hg (.inr hne)

set_option maxRecDepth 100000 in
theorem lawIn (a ab : Option Addr) (l : List B8) (z : List Int) (n m c nb cb : Nat) (tw : Int) (w : World) (hn : l.length = n) (hr : Rd w a l) (ha : ∀ x, 0 < l.length → a = some x → x.block < w.heap.size) (hc : n ≤ c) (hcm : c ≤ maxLen)
    (hnm : n = 8 * m) (hm0 : 0 < m) (hm1 : m ≤ 75) (hnb : nb ≤ 100)
    (hB : ∀ w', Below w.heap.size w w' → ∀ j, j < nb → ∃ ba oa, ab = some ⟨ba, oa, none⟩ ∧ w'.cell? ⟨ba, oa + j, none⟩ = some (.int .i64 (z.getD j 0)))
    (hl : Laid w) :
    Calls Tryd.prog 7 #[.slice a n c, .slice ab nb cb, .int .i64 tw] w fun e w' => e = .returned (.bool true) ∧ Below w.heap.size w w' := by
  have hcnt : EcX.cnt n = m := by unfold EcX.cnt; omega
  have HK := Lib.hid (EcE.known w hl)
  have HW := wordsW a l n c w hn hr ha hc hcm (by omega) hl
  rw [hcnt] at HW
  have HR : Hid (∀ w', Below w.heap.size w w' → Rd w' a l) := Lib.hid fun w' hb' => Rd.below hr hb' ha
  have hd1 : decide ((600 : Int) < (n : Int)) = false := by simp; omega
  have hd2 : ((n : Int) == 0) = false := by simp; omega
  have hd3 : ((n : Int) % 8 != 0) = false := by rw [bne_eq_false_iff_eq]; omega
  have hd4 : decide ((100 : Int) < (nb : Int)) = false := by simp; omega
  have hd5 : ((m : Int) != (n : Int) / 8) = false := by rw [bne_eq_false_iff_eq]; omega
  have hn600 : n ≤ 600 := by omega
  have hn0 : 0 < n := by omega
  have hl8 : Hid (l.length = 8 * m) := Lib.hid (by omega)
  have hS := Lib.hid (Of.start l m hl8.out)
  have HM : Hid (∀ (gx gc cx cc : Nat) (xs cs : List B8) (W : World) (bx bc : Nat), Two W bx bc gx gc n m cx cc xs cs → gx < W.heap.size → gc < W.heap.size → Below w.heap.size w W → xs.length = 8 * m →
      Calls Tryd.prog 16 #[.slice (some ⟨gx, 0, none⟩) n cx, .slice (some ⟨gc, 0, none⟩) m cc] W (Res (EcWM.Good xs cs) n ((outTo xs cs m).take n) (cntTo xs cs m) W)) := Lib.hid fun gx gc cx cc xs cs W bx bc h h1 h2 hb hx => by
    obtain ⟨r1, l1, c1, m1⟩ := h.1.rd
    obtain ⟨r2, l2, c2, m2⟩ := h.2.rd
    have := mendAllW (some ⟨gx, 0, none⟩) (some ⟨gc, 0, none⟩) xs cs n cx m cc W l1 r1 (fun x _ e => by injection e with e; subst e; exact h1) c1 m1 (by omega) l2 r2 (fun x _ e => by injection e with e; subst e; exact h2) hcnt.symm (hl.below hb)
    rw [hcnt] at this
    exact this
  replace HW := Lib.hid HW
  replace hn := Lib.hid hn
  replace hB := Lib.hid hB
  replace hl := Lib.hid hl
  replace hnm := Lib.hid hnm
  replace hcnt := Lib.hid hcnt
  clear hr ha
  go_enter Tryd.func7, Tryd.ntmps7
  go_wp2_with fail
  refine HK.out.mono ?_
  rintro e w' ⟨rfl, hww⟩
  obtain rfl := hww.symm
  go_wp2_with fail
  refine HW.out.mono ?_
  rintro e w1 ⟨ac, cc, rfl, oc, b1⟩
  obtain ⟨gc, rfl, hgc0, hgc1⟩ := own_at oc hm0
  have HO := Lib.hid (Own.made w1 w1.heap.size (Nat.le_refl _) #[] 0 [] rfl (Nat.zero_le _) rfl)
  have b2 := (Below.refl w1.heap.size w1).alloc (Nat.le_refl _) (.cells #[] 5)
  replace oc := Lib.hid oc
  go_wp2_with (first
    | (at_builtin
       refine wpList_app rfl (.tmp 45) (.tmp 46) rfl w1.heap.size (.slice (some ⟨w1.heap.size, 0, none⟩) 0 0) [] rfl HO.out a l n c rfl hn.out (HR.out _ (b1.trans (b2.mono b1.size))) l n rfl hn.out (by omega) b2.size ?_
       intro ax cx w2 ox rx hg1 hn1
       have oc2 := own_kept (oc.out.alloc _) hg1 (by simp [Value.ownBlock]; omega)
       have b3 := b2.grown hg1 b2.size (HO.out.blocks · · |>.1)
       have b4 := b1.trans (b3.mono b1.size)
       clear rx hg1 hn1 b2))
  obtain ⟨gx, rfl, hgx0, hgx1⟩ := own_at ox (by omega)
  have hne : gx ≠ gc := by omega
  have T2 : Hid (Two w2 w1.heap.size w.heap.size gx gc n m cx cc l (wordsTo l m)) := Lib.hid ⟨ox, oc2⟩
  have hgcw : gc < w2.heap.size := Nat.lt_of_lt_of_le hgc1 b3.size
  have hgxw : w.heap.size ≤ gx := by have := b1.size; omega
  clear ox oc2 b3
  go_loopw [9, 10] (fun x i wr => ∃ k : Nat, k ≤ m ∧ i = .int .i64 (k : Int) ∧ x = .int .i64 (count z nb k : Int) ∧ ∃ xs cs, Two wr w1.heap.size w.heap.size gx gc n m cx cc xs cs ∧ Of l xs cs m (EcFM.bits z nb k) ∧ Below w.heap.size w wr) (fun _ i _ => m - (intOf i).toNat)
  case atStart => exact ⟨0, by omega, rfl, rfl, l, _, T2.out, by rw [bits_zero]; exact hS.out, b4⟩
  case round =>
    obtain ⟨k, hk, rfl, rfl, xs, cs, t, ho, hb⟩ := hrel
    replace t := Lib.hid t
    by_cases hin : k < m ∧ k < nb
    · obtain ⟨hkm, hkn⟩ := hin
      obtain ⟨ba, oa, rfl, hcell⟩ := hB.out _ hb k hkn
      have hck : count z nb k ≤ 75 := by
        have := count_le z nb k
        omega
      by_cases hz : z.getD k 0 < 0
      · have hbn := Lib.hid (bits_no z nb k hz)
        have hcn := Lib.hid (count_no z nb k hz)
        generalize z.getD k 0 = zk at hcell hz
        replace ho := Lib.hid ho
        have hz' : decide (zk < 0) = true := by simpa using hz
        go_wp2
        go_roundw
        case rel => exact ⟨k + 1, by omega, by go_num, by rw [hcn.out], xs, cs, t.out, by rw [hbn.out]; exact ho.out, hb⟩
        case measure => simp [intOf]; omega
      · have hbn := Lib.hid (bits_yes z nb k hkn (by omega))
        have hcn := Lib.hid (count_yes z nb k hkn (by omega))
        have hof := Lib.hid (Of.flip ho k ((z.getD k 0).toNat % 72) hkm (by omega) (bits_self z nb k))
        generalize z.getD k 0 = zk at hcell hz hbn hof
        replace ho := Lib.hid ho
        have hz0 : 0 ≤ zk := by omega
        have hz' : decide (zk < 0) = false := by simpa using hz
        have hmod : zk % 72 = ((zk.toNat % 72 : Nat) : Int) := by omega
        have HF := Lib.hid (flipW w1.heap.size w.heap.size gx gc cx cc n m k (zk.toNat % 72) xs cs wr t.out hne hnm.out hkm (by omega) (by omega))
        generalize zk.toNat % 72 = bt at hmod hbn hof HF
        clear hz
        go_wp2_with (go_at_call 21; refine HF.out.mono ?_; rintro e w3 ⟨rfl, t3, h3⟩)
        have b3 := h3 w.heap.size w hgxw hgc0 hb
        go_roundw
        case rel => exact ⟨k + 1, by omega, by go_num, by rw [hcn.out]; go_num, _, _, t3, by rw [hbn.out]; exact hof.out, b3⟩
        case measure => simp [intOf]; omega
    · have hkq : Hid (∀ q, q < m → q < nb → q < k) := Lib.hid fun q h1 h2 => by omega
      obtain ⟨bx1, bx2⟩ := World.ownsRow.lt t.out.1 gx rfl
      obtain ⟨bc1, bc2⟩ := World.ownsRow.lt t.out.2 gc rfl
      have hlx : xs.length = 8 * m := ho.1
      have hT := HM.out gx gc cx cc xs cs wr _ _ t.out bx2 bc2 hb hlx
      have hT := EcWL.tell_yes (Of.good ho) hT
      rw [Of.out ho hl8.out, List.take_of_length_le (by rw [hn.out]; exact Nat.le_refl _), Of.cnt ho m (Nat.le_refl _), turns_beyond z nb k m hk] at hT
      have hT : Calls Tryd.prog 16 #[.slice (some ⟨gx, 0, none⟩) n cx, .slice (some ⟨gc, 0, none⟩) m cc] wr (EcWL.Tell l n (count z nb k) true wr) := hT
      unfold EcWL.Tell at hT
      have hck : count z nb k ≤ 75 := by
        have := count_le z nb k
        omega
      generalize count z nb k = N at hT hck ⊢
      replace hT := Lib.hid hT
      have hlast : Hid (∀ (xs' cs' : List B8) (W : World), Two W w1.heap.size w.heap.size gx gc n m cx cc xs' cs' → Below w.heap.size w W → xs'.length = 8 * m → ¬ EcWM.Good xs' cs' → Calls Tryd.prog 16 #[.slice (some ⟨gx, 0, none⟩) n cx, .slice (some ⟨gc, 0, none⟩) m cc] W (EcWL.Tell [] 0 0 false W)) := Lib.hid fun xs' cs' W t' b' l' g' =>
        EcWL.tell_no g' (HM.out gx gc cx cc xs' cs' W _ _ t' (World.ownsRow.lt t'.1 gx rfl).2 (World.ownsRow.lt t'.2 gc rfl).2 b' l')
      unfold EcWL.Tell at hlast
      have hmp : (0 : Int) < (m : Int) := by omega
      have t1 := Int.tmod_lt_of_pos tw hmp
      have t2 : -(m : Int) < tw.tmod (m : Int) := by
        have := Int.tmod_lt_of_pos (-tw) hmp
        rw [Int.neg_tmod] at this
        omega
      have hsgn : ∃ q : Nat, q < m ∧ ((0 ≤ tw.tmod (m : Int) ∧ tw.tmod (m : Int) = (q : Int)) ∨ (tw.tmod (m : Int) < 0 ∧ tw.tmod (m : Int) = -(q : Int))) := by
        by_cases h : 0 ≤ tw.tmod (m : Int)
        · exact ⟨(tw.tmod (m : Int)).toNat, by omega, .inl ⟨h, by omega⟩⟩
        · exact ⟨(-tw.tmod (m : Int)).toNat, by omega, .inr ⟨by omega, by omega⟩⟩
      obtain ⟨q, hqm, hq⟩ := hsgn
      have hqm' : (q : Int) < (m : Int) := by omega
      have hCV := Lib.hid conv
      clear t1 t2
      have hex : ((k : Int) < (m : Int) ∧ ¬ (k : Int) < (nb : Int)) ∨ ¬ (k : Int) < (m : Int) := by omega
      rcases hq with ⟨hq0, hqe⟩ | ⟨hq0, hqe⟩ <;> rcases hex with ⟨hx1, hx2⟩ | hx1
      all_goals
        rw [hqe] at hq0
        by_cases hA : q < nb ∧ 0 ≤ z.getD q 0
        · obtain ⟨hqn, hz0⟩ := hA
          obtain ⟨ba, oa, hab, _⟩ := hB.out _ hb q hqn
          subst hab
          have hf : EcFM.bits z nb k q = some ((z.getD q 0).toNat % 72) := by
            unfold EcFM.bits; rw [if_pos ⟨hkq.out q hqm hqn, hqn, hz0⟩]
          have hng := Lib.hid (Of.twice ho q ((z.getD q 0).toNat % 72) (((z.getD q 0).toNat % 72 + 1) % 72) hqm hf (by omega) (by omega))
          have hmod : z.getD q 0 % 72 = (((z.getD q 0).toNat % 72 : Nat) : Int) := by omega
          have hcell := Lib.hid (fun W (hb' : Below w.heap.size w W) => (hB.out W hb' q hqn))
          have HF := Lib.hid (fun W (t' : Two W w1.heap.size w.heap.size gx gc n m cx cc xs cs) => flipW w1.heap.size w.heap.size gx gc cx cc n m q (((z.getD q 0).toNat % 72 + 1) % 72) xs cs W t' hne hnm.out hqm (by omega) (by omega))
          generalize z.getD q 0 = zq at *
          have hbt : zq.toNat % 72 < 72 := by omega
          generalize zq.toNat % 72 = bt at *
          have hmod2 : ((bt : Int) + 1) % 72 = (((bt + 1) % 72 : Nat) : Int) := by omega
          generalize (bt + 1) % 72 = bt2 at *
          replace ho := Lib.hid ho
          replace hlx := Lib.hid hlx
          clear hf
          go_wp2_with fail
          refine hT.out.mono ?_
          rintro e w4 ⟨⟨ay, cy, rfl, ry, ny⟩, b5⟩
          have b6 := hb.trans (b5.mono hb.size)
          have k1 := hCV.out w4 ay l n cy hn.out ry
          have k2 := hCV.out w4 a l n c hn.out (HR.out w4 b6)
          have t6 : Hid (Two w4 w1.heap.size w.heap.size gx gc n m cx cc xs cs) := Lib.hid ⟨EcZ.Own.below t.out.1 b5, EcZ.Own.below t.out.2 b5⟩
          obtain ⟨_, _, hab, hcl⟩ := hcell.out w4 b6
          injection hab with hab
          injection hab with e1 e2
          subst e1 e2
          clear b5
          go_wp2_with fail
          refine (HF.out w4 t6.out).mono ?_
          rintro e w5 ⟨rfl, t7, h7⟩
          have b7 := h7 w.heap.size w hgxw hgc0 b6
          go_wp2_with fail
          refine (hlast.out _ _ w5 t7 b7 (by rw [flipX_len]; exact hlx.out) hng.out).mono ?_
          rintro e w6 ⟨⟨ay2, cy2, rfl, _, _⟩, b8⟩
          go_wp2
          go_ret
          exact ⟨rfl, b7.trans (b8.mono b7.size)⟩
        · have hf : EcFM.bits z nb k q = none := by
            unfold EcFM.bits; rw [if_neg (fun h => hA h.2)]
          have h1f := Of.flip ho q 0 hqm (by omega) hf
          have hng := Lib.hid (Of.twice h1f q 0 1 hqm (by simp) (by omega) (by omega))
          have hl1 : (flipX xs q 0).length = 8 * m := h1f.1
          have HF := Lib.hid (fun W (t' : Two W w1.heap.size w.heap.size gx gc n m cx cc xs cs) => flipW w1.heap.size w.heap.size gx gc cx cc n m q 0 xs cs W t' hne hnm.out hqm (by omega) (by omega))
          have HF2 := Lib.hid (fun W (t' : Two W w1.heap.size w.heap.size gx gc n m cx cc (flipX xs q 0) (flipC cs q 0)) => flipW w1.heap.size w.heap.size gx gc cx cc n m q 1 _ _ W t' hne hnm.out hqm (by omega) (by omega))
          have hcell : Hid (∀ W, Below w.heap.size w W → q < nb → ∃ ba oa, ab = some ⟨ba, oa, none⟩ ∧ W.cell? ⟨ba, oa + q, none⟩ = some (.int .i64 (z.getD q 0))) := Lib.hid fun W hb' hqn => hB.out W hb' q hqn
          have hA' : q < nb → z.getD q 0 < 0 := fun h => by
            rcases Int.lt_or_le (z.getD q 0) 0 with h' | h'
            · exact h'
            · exact absurd ⟨h, h'⟩ hA
          generalize z.getD q 0 = zq at *
          replace ho := Lib.hid ho
          replace h1f := Lib.hid h1f
          replace hlx := Lib.hid hlx
          replace hl1 := Lib.hid hl1
          clear hf hA
          go_wp2_with fail
          refine hT.out.mono ?_
          rintro e w4 ⟨⟨ay, cy, rfl, ry, ny⟩, b5⟩
          have b6 := hb.trans (b5.mono hb.size)
          have k1 := hCV.out w4 ay l n cy hn.out ry
          have k2 := hCV.out w4 a l n c hn.out (HR.out w4 b6)
          have t6 : Hid (Two w4 w1.heap.size w.heap.size gx gc n m cx cc xs cs) := Lib.hid ⟨EcZ.Own.below t.out.1 b5, EcZ.Own.below t.out.2 b5⟩
          clear b5
          by_cases hqn : q < nb
          all_goals
            first
              | (obtain ⟨ba, oa, hab, hcl⟩ := hcell.out w4 b6 hqn
                 subst hab
                 have hzn := hA' hqn
                 have hd7 : decide ((0 : Int) ≤ zq) = false := by simp; omega
                 have hqn' : (q : Int) < (nb : Int) := by omega)
              | (have hqn' : ¬ (q : Int) < (nb : Int) := by omega)
            clear hA'
            go_wp2_with fail
            refine (HF.out w4 t6.out).mono ?_
            rintro e w5 ⟨rfl, t7, h7⟩
            have b7 := h7 w.heap.size w hgxw hgc0 b6
            replace t7 := Lib.hid t7
            clear h7
            go_wp2_with fail
            refine (HF2.out w5 t7.out).mono ?_
            rintro e w6 ⟨rfl, t8, h8⟩
            have b8 := h8 w.heap.size w hgxw hgc0 b7
            go_wp2_with fail
            refine (hlast.out _ _ w6 t8 b8 (by rw [flipX_len]; exact hl1.out) hng.out).mono ?_
            rintro e w7 ⟨⟨ay2, cy2, rfl, _, _⟩, b9⟩
            go_wp2
            go_ret
            exact ⟨rfl, b8.trans (b9.mono b8.size)⟩
end Go.Proofs.YtnkbopmghekjdaaDoor.EcFL
