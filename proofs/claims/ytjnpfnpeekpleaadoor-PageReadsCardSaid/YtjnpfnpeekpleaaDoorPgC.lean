/- Contracts of pages: read. -/
import Derived.Test.YtjnpfnpeekpleaaDoorPgB
namespace Go.Proofs.YtjnpfnpeekpleaaDoor.PgC
open Go.ChangeShapes Go.WideShapes Go.ChangeAt Go.RowKit
open EcM EcA EcB EcC EcT EcX EcY EcZ EcWM EcWP EcWR EcFM PgM PgA PgB
set_option linter.unusedVariables false
set_option maxHeartbeats 2000000

theorem rd_sub {w : World} {b off : Nat} {l : List B8} (h : Rd w (some ⟨b, off, none⟩) l) (o m : Nat) : Rd w (some ⟨b, off + o, none⟩) ((l.drop o).take m) := by
  refine ⟨by have := h.1; simp; omega, fun i hi => ⟨b, off + o, rfl, ?_⟩⟩
  have hi2 : i < m ∧ o + i < l.length := by simp at hi; omega
  have := rd_at h (o + i) hi2.2
  rw [Nat.add_assoc, this]
  simp [List.getD_eq_getElem?_getD, hi2.1]

theorem mend64 (b off j n : Nat) (l : List B8) (w : World) (hn : l.length = n) (hr : Rd w (some ⟨b, off, none⟩) l) (hb : b < w.heap.size) (hj : 73 * j + 73 ≤ n) (hl : Laid w) :
    Calls Tryd.prog 21 #[.slice (some ⟨b, off + 73 * j, none⟩) 64 64, .slice (some ⟨b, off + (73 * j + 64), none⟩) 8 8] w (Res (EcWM.Good (dt l j) (sm l j)) 64 (outTo (dt l j) (sm l j) 8) (cntTo (dt l j) (sm l j) 8) w) := by
  have h1 : (dt l j).length = 64 := by simp [dt]; omega
  have h2 : (sm l j).length = 8 := by simp [sm]; omega
  have := mendAllW (some ⟨b, off + 73 * j, none⟩) (some ⟨b, off + (73 * j + 64), none⟩) (dt l j) (sm l j) 64 64 8 8 w h1 (rd_sub hr _ _) (fun x _ e => by injection e with e; subst e; exact hb) (Nat.le_refl _) (by simp [maxLen]) (by omega) h2 (rd_sub hr _ _) (fun x _ e => by injection e with e; subst e; exact hb) rfl hl
  have e : (outTo (dt l j) (sm l j) (cnt 64)).take 64 = outTo (dt l j) (sm l j) 8 := List.take_of_length_le (by rw [outTo_len]; decide)
  rw [e] at this
  exact this

def Reads (l : List B8) (b : Int) (w : World) : Ending → World → Prop := fun e w' => (∃ (o : List B8) (cn s : Nat) (a' : Option Addr) (c' : Nat), e = .returned (.tuple #[.slice a' o.length c', .int .i64 (cn : Int), .int .i64 (s : Int)]) ∧ PgM.Told l b o cn s ∧ Rd w' a' o ∧ ∀ x, 0 < o.length → a' = some x → x.block < w'.heap.size) ∧ Below w.heap.size w w'
theorem readsNone {l : List B8} {b : Int} {w w' : World} {s : Nat} (h : PgM.Told l b [] 0 s) (hb : Below w.heap.size w w') : Reads l b w (.returned (.tuple #[.slice none 0 0, .int .i64 0, .int .i64 (s : Int)])) w' :=
  ⟨⟨[], 0, s, none, 0, rfl, h, ⟨by simp [maxLen], fun i hi => absurd hi (by simp)⟩, fun x h0 => absurd h0 (by simp)⟩, hb⟩

theorem state_cases (l : List B8) : stateOf l = 0 ∨ stateOf l = 1 ∨ stateOf l = 2 ∨ stateOf l = 3 := by
  unfold stateOf
  split
  · simp
  · split
    · simp
    · split <;> simp

set_option maxRecDepth 100000 in
theorem readW (a : Option Addr) (l : List B8) (n c : Nat) (b : Int) (w : World) (hn : l.length = n) (hr : Rd w a l) (ha : ∀ x, 0 < l.length → a = some x → x.block < w.heap.size) (hc : n ≤ c) (hcm : c ≤ maxLen) (hl : Laid w) :
    Calls Tryd.prog 10 #[.slice a n c, .int .i64 b] w (Reads l b w) := by
  have HS := Lib.hid (stateW a l n c w hn hr)
  rcases (show (stateOf l = 0 ∨ stateOf l = 1 ∨ stateOf l = 3) ∨ stateOf l = 2 by rcases state_cases l with h | h | h | h <;> simp [h]) with hs | hs
  · have hT : Hid (PgM.Told l b [] 0 (stateOf l)) := Lib.hid (.inl ⟨by omega, rfl, rfl, rfl⟩)
    rcases hs with hs | hs | hs
    all_goals
      rw [hs] at HS hT
      clear hs hr ha
      go_enter Tryd.func10, Tryd.ntmps10
      go_wp2_with fail
      refine HS.out.mono ?_
      rintro e w' ⟨rfl, hw⟩
      obtain rfl := hw.symm
      go_wp2
      go_ret3
      exact readsNone hT.out (Below.refl _ _)
  · rw [hs] at HS
    have hs2 := hs
    have hsh : shaped l := by
      by_cases h : shaped l
      · exact h
      · unfold stateOf at hs; rw [if_pos h] at hs; omega
    obtain ⟨q, hq⟩ : ∃ q, q = n / 73 := ⟨_, rfl⟩
    unfold shaped at hsh
    rw [hn, ← hq] at hsh
    have hnq : n = 73 * q := by omega
    have hlq : Hid (l.length / 73 = q) := Lib.hid (by rw [hn, ← hq])
    have d1 : (n : Int) / 73 = (q : Int) := by omega
    have hT := Lib.hid (fun o cn s (h : (((b < 0 ∨ 64 * (q : Int) < b) ∨ ¬ GoodK l q) ∧ o = [] ∧ cn = 0 ∧ s = 3) ∨ (0 ≤ b ∧ b ≤ 64 * (q : Int) ∧ GoodK l q ∧ o = (outK l q).take b.toNat ∧ cn = cntK l q ∧ s = 2)) => (show PgM.Told l b o cn s by
      unfold PgM.Told
      rw [hlq.out]
      rcases h with h | h
      · exact .inr (.inl ⟨hs, h⟩)
      · exact .inr (.inr ⟨hs, h⟩)))
    clear hs hs2 hq
    by_cases hb : b < 0
    · have hT2 := Lib.hid (hT.out [] 0 3 (.inl ⟨.inl (.inl hb), rfl, rfl, rfl⟩))
      have hq8 := hsh.2.2
      clear hr ha hT hnq hsh
      go_enter Tryd.func10, Tryd.ntmps10
      go_wp2_with fail
      refine HS.out.mono ?_
      rintro e w' ⟨rfl, hw⟩
      obtain rfl := hw.symm
      go_wp2
      go_ret3
      exact readsNone hT2.out (Below.refl _ _)
    by_cases hb2 : 64 * (q : Int) < b
    · have hT2 := Lib.hid (hT.out [] 0 3 (.inl ⟨.inl (.inr hb2), rfl, rfl, rfl⟩))
      have hb3 : (q : Int) * 64 < b := by omega
      have hq8 := hsh.2.2
      clear hr ha hT hnq hsh
      go_enter Tryd.func10, Tryd.ntmps10
      go_wp2_with fail
      refine HS.out.mono ?_
      rintro e w' ⟨rfl, hw⟩
      obtain rfl := hw.symm
      go_wp2
      go_ret3
      exact readsNone hT2.out (Below.refl _ _)
    obtain ⟨bb, rfl⟩ := Int.eq_ofNat_of_zero_le (show 0 ≤ b by omega)
    have hb3 : ¬ (q : Int) * 64 < (bb : Int) := by omega
    obtain ⟨bk, off, rfl, _⟩ := hr.2 0 (by omega)
    have hbk : bk < w.heap.size := ha _ (by omega) rfl
    have HM : Hid (∀ w' j, Below w.heap.size w w' → j < q → Calls Tryd.prog 21 #[.slice (some ⟨bk, off + 73 * j, none⟩) 64 64, .slice (some ⟨bk, off + (73 * j + 64), none⟩) 8 8] w' (Res (EcWM.Good (dt l j) (sm l j)) 64 (outTo (dt l j) (sm l j) 8) (cntTo (dt l j) (sm l j) 8) w')) := Lib.hid fun w' j hb' hj =>
      mend64 bk off j n l w' hn (Rd.below hr hb' ha) (Nat.lt_of_lt_of_le hbk hb'.size) (by omega) (hl.below hb')
    have HCt : Hid (∀ w' j, j < q → Calls Tryd.prog 20 #[.slice (some ⟨bk, off, none⟩) n c, .int .i64 (j : Int)] w' fun e w'' => e = .returned (.tuple #[.slice (some ⟨bk, off + 73 * j, none⟩) 64 64, .slice (some ⟨bk, off + (73 * j + 64), none⟩) 8 8]) ∧ w'' = w'.drew) := Lib.hid fun w' j hj => cutW bk off n c j w' (by omega) hc (by omega) hcm
    have hmk := run_room n (by omega)
    have HO := Lib.hid (Own.room w w.heap.size n (Nat.le_refl _) (by simp only [maxLen]; omega))
    have HB0 := Lib.hid ((Below.refl w.heap.size w).alloc (Nat.le_refl _) (.cells (madeCells #[.int .u8 0] n) 5))
    have hol := Lib.hid (outK_len l)
    have hcl := Lib.hid (cntK_le l)
    have hos : Hid (∀ j, outK l (j + 1) = outK l j ++ outTo (dt l j) (sm l j) 8) := Lib.hid fun j => rfl
    have hcs : Hid (∀ j, cntK l (j + 1) = cntK l j + cntTo (dt l j) (sm l j) 8) := Lib.hid fun j => rfl
    have hGs : Hid (∀ j, (∀ i, i < j → EcWM.Good (dt l i) (sm l i)) → EcWM.Good (dt l j) (sm l j) → ∀ i, i < j + 1 → EcWM.Good (dt l i) (sm l i)) := Lib.hid fun j h h2 i hi => by
      by_cases e : i = j
      · subst e; exact h2
      · exact h i (by omega)
    have hGn : Hid (∀ j, j < q → ¬ EcWM.Good (dt l j) (sm l j) → ¬ GoodK l q) := Lib.hid fun j hj h h2 => h (h2 j hj)
    have hot := Lib.hid (fun j => outTo_len (dt l j) (sm l j) 8)
    have hct := Lib.hid (fun j => cntTo_le (dt l j) (sm l j) 8)
    have hcap : n ≤ 1000 := by omega
    unfold maxLen at hcm
    clear hr ha hl
    have hq8 := hsh.2.2
    clear hsh hnq
    replace hn := Lib.hid hn
    go_enter Tryd.func10, Tryd.ntmps10
    go_wp2_with fail
    refine HS.out.mono ?_
    rintro e w' ⟨rfl, hw⟩
    obtain rfl := hw.symm
    go_wp2
    go_loopw [42, 8, 9] (fun i v x wr => ∃ (j : Nat) (a' : Option Addr) (c' : Nat), j ≤ q ∧ i = .int .i64 (j : Int) ∧ v = .slice a' (64 * j) c' ∧ x = .int .i64 (cntK l j : Int) ∧ Own wr w.heap.size (.slice a' (64 * j) c') (outK l j) ∧ (∀ i, i < j → EcWM.Good (dt l i) (sm l i)) ∧ Below w.heap.size w wr) (fun i _ _ _ => q - (intOf i).toNat)
    case atStart => exact ⟨0, _, _, by omega, rfl, rfl, rfl, HO.out, fun i hi => absurd hi (by omega), HB0.out⟩
    case round =>
      clear HO HB0
      obtain ⟨j, a', c', hj, rfl, rfl, rfl, hO, hG, hB⟩ := hrel
      replace hO := Lib.hid hO
      replace hG := Lib.hid hG
      by_cases hlt : j < q
      · have hlt' : (j : Int) < (q : Int) := by omega
        have HCj := Lib.hid (fun w' => HCt.out w' j hlt)
        have HMj := Lib.hid (fun w' h => HM.out w' j h hlt)
        have hoj := Lib.hid (hol.out j)
        have hosj := Lib.hid (hos.out j)
        have hcsj := Lib.hid (hcs.out j)
        have hotj := Lib.hid (hot.out j)
        have hclj := hcl.out j
        have hctj := hct.out j
        have hGj := Lib.hid (hGs.out j hG.out)
        have hGnj := Lib.hid (hGn.out j hlt)
        have hD := Lib.hid hB.drew
        have hOd : Hid (Own wr.drew w.heap.size (.slice a' (64 * j) c') (outK l j)) := Lib.hid hO.out
        obtain ⟨G, hGG⟩ : ∃ G, G = EcWM.Good (dt l j) (sm l j) := ⟨_, rfl⟩
        rw [← hGG] at HMj hGj hGnj
        generalize outTo (dt l j) (sm l j) 8 = O1 at *
        generalize cntTo (dt l j) (sm l j) 8 = C1 at *
        replace hGG := Lib.hid hGG
        replace hB := Lib.hid hB
        obtain ⟨X, hX⟩ : ∃ X, X = outK l j := ⟨_, rfl⟩
        obtain ⟨CX, hCX⟩ : ∃ CX, CX = cntK l j := ⟨_, rfl⟩
        rw [← hX] at hoj hosj hOd
        rw [← hCX] at hcsj hclj
        rw [← hCX]
        clear hX hCX hO
        go_wp2_with fail
        refine (HCj.out _).mono ?_
        rintro e w1 ⟨rfl, hw⟩
        obtain rfl := hw.symm
        go_wp2_with fail
        refine (HMj.out _ hD.out).mono ?_
        rintro e w2 ⟨h2, b2⟩
        have B2 := Lib.hid (hD.out.trans (b2.mono hD.out.size))
        rcases h2 with ⟨hg, rfl⟩ | ⟨hg, a2, c2, rfl, r2, l2⟩
        · have hT2 := Lib.hid (hT.out [] 0 3 (.inl ⟨.inr (hGnj.out hg), rfl, rfl, rfl⟩))
          unfold fail3
          clear b2 hg
          go_wp2
          go_ret3
          exact readsNone hT2.out B2.out
        · have hO2 := Lib.hid (Own.below hOd.out b2)
          have hg2 := Lib.hid (hGj.out hg)
          replace r2 := Lib.hid r2
          clear b2 hg l2
          go_wp2_with (
            (at_builtin
             refine wpList_app rfl (.tmp 60) (.tmp 61) rfl w.heap.size (.slice a' (64 * j) c') X rfl hO2.out a2 O1 64 c2 rfl hotj.out r2.out (X ++ O1) (64 * (j + 1)) rfl (by rw [List.length_append, hoj.out, hotj.out]; omega) (by omega) B2.out.size ?_
             intro a3 c3 w3 hv3 hr3 hg3 hn3
             have hB3 := Lib.hid (B2.out.grown hg3 B2.out.size (hO2.out.blocks · · |>.1))
             have hV3 := Lib.hid hv3
             clear hv3 hr3 hg3 hn3))
          go_roundw
          case rel => exact ⟨j + 1, a3, c3, by omega, by go_num, rfl, by rw [hcsj.out]; go_num, by rw [hosj.out]; exact hV3.out, hg2.out, hB3.out⟩
          case measure => simp [intOf]; omega
      · obtain rfl : j = q := by omega
        have hle : bb ≤ 64 * j := by omega
        have hrd := Own.rd hO.out
        have hcc : (bb : Int) ≤ (c' : Int) := by have := hrd.2.2.1; omega
        have hT2 := Lib.hid (hT.out ((outK l j).take bb) (cntK l j) 2 (.inr ⟨by omega, by omega, hG.out, rfl, rfl, rfl⟩))
        have hlen : Hid (((outK l j).take bb).length = bb) := Lib.hid (by rw [List.length_take, hol.out j]; omega)
        have hR2 := Lib.hid (Rd.take hrd.1 bb)
        have hlt2 : Hid (∀ x, 0 < ((outK l j).take bb).length → a' = some x → x.block < wr.heap.size) := Lib.hid fun x h0 e => by
          subst e
          obtain ⟨g, hg, _, h3⟩ := own_at hO.out (by rw [hlen.out] at h0; omega)
          injection hg with hg
          subst hg
          exact h3
        replace hB := Lib.hid hB
        clear hrd
        go_wp2
        go_ret3
        exact ⟨⟨_, _, _, a', c', by rw [hlen.out]; rfl, hT2.out, hR2.out, hlt2.out⟩, hB.out⟩
end Go.Proofs.YtjnpfnpeekpleaaDoor.PgC
