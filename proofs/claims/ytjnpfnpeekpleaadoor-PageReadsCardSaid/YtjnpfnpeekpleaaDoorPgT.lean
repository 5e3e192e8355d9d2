/- Contracts of the document's pages: read. -/
import Derived.Test.YtjnpfnpeekpleaaDoorPgL
import Derived.Test.YtjnpfnpeekpleaaDoorPgS
namespace Go.Proofs.YtjnpfnpeekpleaaDoor.PgT
open Go.ChangeShapes Go.WideShapes Go.ChangeAt Go.RowKit
open EcM EcA EcB EcC EcT EcX EcY EcZ EcZR EcWM EcWP EcWR EcFM PgM PgA PgB PgC PgZ PgL PgS
set_option linter.unusedVariables false
set_option maxHeartbeats 8000000

theorem mend64R (b off j n C1 C2 : Nat) (l : List B8) (w : World) (hn : l.length = n) (hr : Rd w (some ⟨b, off, none⟩) l) (hb : b < w.heap.size) (hj : 73 * j + 73 ≤ n) :
    Calls Tryd.prog 22 #[.slice (some ⟨b, off + 73 * j, none⟩) 64 C1, .slice (some ⟨b, off + (73 * j + 64), none⟩) 8 C2] w (Res (EcWM.Good (dt l j) (sm l j)) 64 (outTo (dt l j) (sm l j) 8) (cntTo (dt l j) (sm l j) 8) w) := by
  have h1 : (dt l j).length = 64 := by simp [dt]; omega
  have h2 : (sm l j).length = 8 := by simp [sm]; omega
  have := mendAllR (some ⟨b, off + 73 * j, none⟩) (some ⟨b, off + (73 * j + 64), none⟩) (dt l j) (sm l j) 64 C1 8 C2 w h1 (rd_sub hr _ _) (fun x _ e => by injection e with e; subst e; exact hb) (by omega) h2 (rd_sub hr _ _) (fun x _ e => by injection e with e; subst e; exact hb) rfl
  have e : (outTo (dt l j) (sm l j) (cnt 64)).take 64 = outTo (dt l j) (sm l j) 8 := List.take_of_length_le (by rw [outTo_len]; decide)
  rw [e] at this
  exact this

set_option maxRecDepth 100000 in
theorem readR (a : Option Addr) (l : List B8) (n c : Nat) (b : Int) (w : World) (hn : l.length = n) (hr : Rd w a l) (ha : ∀ x, 0 < l.length → a = some x → x.block < w.heap.size) (hc : n ≤ c) (hcm : c ≤ maxLen) :
    Calls Tryd.prog 11 #[.slice a n c, .int .i64 b] w (Reads l b w) := by
  have HS := Lib.hid (stateR a l n c w hn hr)
  rcases (show (stateOf l = 0 ∨ stateOf l = 1 ∨ stateOf l = 3) ∨ stateOf l = 2 by rcases state_cases l with h | h | h | h <;> simp [h]) with hs | hs
  · have hT : Hid (PgM.Told l b [] 0 (stateOf l)) := Lib.hid (.inl ⟨by omega, rfl, rfl, rfl⟩)
    rcases hs with hs | hs | hs
    all_goals
      rw [hs] at HS hT
      clear hs hr ha
      go_enter Tryd.func11, Tryd.ntmps11
      go_wp2_with fail
      refine HS.out.mono ?_
      rintro e w' ⟨rfl, hw⟩
      obtain rfl := hw.symm
      go_wp2
      go_ret3
      exact readsNone hT.out (Below.refl _ _)
  · rw [hs] at HS
    have hs2 := hs
    have hsh : shaped l := by
      by_cases h : shaped l
      · exact h
      · unfold stateOf at hs; rw [if_pos h] at hs; omega
    obtain ⟨q, hq⟩ : ∃ q, q = n / 73 := ⟨_, rfl⟩
    unfold shaped at hsh
    rw [hn, ← hq] at hsh
    have hnq : n = 73 * q := by omega
    have hlq : Hid (l.length / 73 = q) := Lib.hid (by rw [hn, ← hq])
    have d1 : (n : Int) / 73 = (q : Int) := by omega
    have hT := Lib.hid (fun o cn s (h : (((b < 0 ∨ 64 * (q : Int) < b) ∨ ¬ GoodK l q) ∧ o = [] ∧ cn = 0 ∧ s = 3) ∨ (0 ≤ b ∧ b ≤ 64 * (q : Int) ∧ GoodK l q ∧ o = (outK l q).take b.toNat ∧ cn = cntK l q ∧ s = 2)) => (show PgM.Told l b o cn s by
      unfold PgM.Told
      rw [hlq.out]
      rcases h with h | h
      · exact .inr (.inl ⟨hs, h⟩)
      · exact .inr (.inr ⟨hs, h⟩)))
    clear hs hs2 hq
    by_cases hb : b < 0
    · have hT2 := Lib.hid (hT.out [] 0 3 (.inl ⟨.inl (.inl hb), rfl, rfl, rfl⟩))
      have hq8 := hsh.2.2
      clear hr ha hT hnq hsh
      go_enter Tryd.func11, Tryd.ntmps11
      go_wp2_with fail
      refine HS.out.mono ?_
      rintro e w' ⟨rfl, hw⟩
      obtain rfl := hw.symm
      go_wp2
      go_ret3
      exact readsNone hT2.out (Below.refl _ _)
    by_cases hb2 : 64 * (q : Int) < b
    · have hT2 := Lib.hid (hT.out [] 0 3 (.inl ⟨.inl (.inr hb2), rfl, rfl, rfl⟩))
      have hq8 := hsh.2.2
      clear hr ha hT hnq hsh
      go_enter Tryd.func11, Tryd.ntmps11
      go_wp2_with fail
      refine HS.out.mono ?_
      rintro e w' ⟨rfl, hw⟩
      obtain rfl := hw.symm
      go_wp2
      go_ret3
      exact readsNone hT2.out (Below.refl _ _)
    obtain ⟨bb, rfl⟩ := Int.eq_ofNat_of_zero_le (show 0 ≤ b by omega)
    obtain ⟨bk, off, rfl, _⟩ := hr.2 0 (by omega)
    have hbk : bk < w.heap.size := ha _ (by omega) rfl
    have HM : Hid (∀ w' j C1 C2, Below w.heap.size w w' → j < q → Calls Tryd.prog 22 #[.slice (some ⟨bk, off + 73 * j, none⟩) 64 C1, .slice (some ⟨bk, off + (73 * j + 64), none⟩) 8 C2] w' (Res (EcWM.Good (dt l j) (sm l j)) 64 (outTo (dt l j) (sm l j) 8) (cntTo (dt l j) (sm l j) 8) w')) := Lib.hid fun w' j C1 C2 hb' hj =>
      mend64R bk off j n C1 C2 l w' hn (Rd.below hr hb' ha) (Nat.lt_of_lt_of_le hbk hb'.size) (by omega)
    have HO := Lib.hid (Own.nil w w.heap.size)
    have HB0 := Lib.hid (Below.refl w.heap.size w)
    have hol := Lib.hid (outK_len l)
    have hcl := Lib.hid (cntK_le l)
    have hos : Hid (∀ j, outK l (j + 1) = outK l j ++ outTo (dt l j) (sm l j) 8) := Lib.hid fun j => rfl
    have hcs : Hid (∀ j, cntK l (j + 1) = cntK l j + cntTo (dt l j) (sm l j) 8) := Lib.hid fun j => rfl
    have ho0 : Hid (outK l 0 = [] ∧ cntK l 0 = 0) := Lib.hid ⟨rfl, rfl⟩
    have hGs : Hid (∀ j, (∀ i, i < j → EcWM.Good (dt l i) (sm l i)) → EcWM.Good (dt l j) (sm l j) → ∀ i, i < j + 1 → EcWM.Good (dt l i) (sm l i)) := Lib.hid fun j h h2 i hi => by
      by_cases e : i = j
      · subst e; exact h2
      · exact h i (by omega)
    have hGn : Hid (∀ j, j < q → ¬ EcWM.Good (dt l j) (sm l j) → ¬ GoodK l q) := Lib.hid fun j hj h h2 => h (h2 j hj)
    have hot := Lib.hid (fun j => outTo_len (dt l j) (sm l j) 8)
    have hct := Lib.hid (fun j => cntTo_le (dt l j) (sm l j) 8)
    have hcap : n ≤ 584 := by omega
    unfold maxLen at hcm
    clear hr ha
    have hq8 := hsh.2.2
    have hq1 := hsh.2.1
    clear hsh
    replace hn := Lib.hid hn
    replace hnq := Lib.hid hnq
    go_enter Tryd.func11, Tryd.ntmps11
    go_wp2_with fail
    refine HS.out.mono ?_
    rintro e w' ⟨rfl, hw⟩
    obtain rfl := hw.symm
    go_wp2
    go_loopw [10, 8, 9] (fun i v x wr => ∃ (j p : Nat) (a' : Option Addr) (c' : Nat), j ≤ q ∧ Hid (p = 73 * j) ∧ i = .int .i64 (p : Int) ∧ v = .slice a' (64 * j) c' ∧ x = .int .i64 (cntK l j : Int) ∧ Own wr w.heap.size (.slice a' (64 * j) c') (outK l j) ∧ (∀ i, i < j → EcWM.Good (dt l i) (sm l i)) ∧ Below w.heap.size w wr) (fun i _ _ _ => 584 + 73 - (intOf i).toNat)
    case atStart => exact ⟨0, 0, _, _, by omega, Lib.hid rfl, rfl, rfl, by rw [ho0.out.2]; rfl, by rw [ho0.out.1]; exact HO.out, fun i hi => absurd hi (by omega), HB0.out⟩
    case round =>
      clear HO HB0
      obtain ⟨j, p, a', c', hj, hp, rfl, rfl, rfl, hO, hG, hB⟩ := hrel
      have hp9 : p ≤ 584 := by have := hnq.out; have := hp.out; omega
      replace hO := Lib.hid hO
      replace hG := Lib.hid hG
      by_cases hlt : j < q
      · have hlt' : (p : Int) < (n : Int) := by have := hnq.out; have := hp.out; omega
        obtain ⟨r, hr64⟩ : ∃ r, r = p + 64 := ⟨_, rfl⟩
        obtain ⟨s, hs72⟩ : ∃ s, s = p + 72 := ⟨_, rfl⟩
        have i2 : (p : Int) + 64 = (r : Int) := by omega
        have j2 : (p : Int) + 72 = (s : Int) := by omega
        have i3 : (0 : Int) ≤ (p : Int) := by omega
        have j3 : (0 : Int) ≤ (r : Int) := by omega
        have i4 : (p : Int) ≤ (r : Int) := by omega
        have j4 : (r : Int) ≤ (s : Int) := by omega
        have hsn : s ≤ n := by have := hnq.out; have := hp.out; omega
        have i5 : (r : Int) ≤ (c : Int) := by omega
        have j5 : (s : Int) ≤ (c : Int) := by omega
        have iw1 : IntKind.i64.wrap (r : Int) = (r : Int) := IntWalk.i64_in _ (by omega)
        have iw2 : IntKind.i64.wrap (s : Int) = (s : Int) := IntWalk.i64_in _ (by omega)
        have iw3 : IntKind.i64.wrap (p : Int) = (p : Int) := IntWalk.i64_in _ (by omega)
        have k1 : ¬ c = p := by omega
        have k2 : ¬ c = r := by omega
        have i6 : r - p = 64 := by omega
        have j6 : s - r = 8 := by omega
        have hp1 : Hid (p + 73 = 73 * (j + 1)) := Lib.hid (by have := hp.out; omega)
        have HMj : Hid (∀ w', Below w.heap.size w w' → Calls Tryd.prog 22 #[.slice (some ⟨bk, off + p, none⟩) 64 (c - p), .slice (some ⟨bk, off + r, none⟩) 8 (c - r)] w' (Res (EcWM.Good (dt l j) (sm l j)) 64 (outTo (dt l j) (sm l j) 8) (cntTo (dt l j) (sm l j) 8) w')) := Lib.hid (fun w' h => by rw [hr64, hp.out]; exact HM.out w' j _ _ h hlt)
        replace hr64 := Lib.hid hr64
        replace hs72 := Lib.hid hs72
        have hoj := Lib.hid (hol.out j)
        have hosj := Lib.hid (hos.out j)
        have hcsj := Lib.hid (hcs.out j)
        have hotj := Lib.hid (hot.out j)
        have hclj := hcl.out j
        have hctj := hct.out j
        have hGj := Lib.hid (hGs.out j hG.out)
        have hGnj := Lib.hid (hGn.out j hlt)
        have hD := Lib.hid hB.drew
        have hOd : Hid (Own wr.drew w.heap.size (.slice a' (64 * j) c') (outK l j)) := Lib.hid hO.out
        obtain ⟨G, hGG⟩ : ∃ G, G = EcWM.Good (dt l j) (sm l j) := ⟨_, rfl⟩
        rw [← hGG] at HMj hGj hGnj
        generalize outTo (dt l j) (sm l j) 8 = O1 at *
        generalize cntTo (dt l j) (sm l j) 8 = C1 at *
        replace hGG := Lib.hid hGG
        replace hB := Lib.hid hB
        obtain ⟨X, hX⟩ : ∃ X, X = outK l j := ⟨_, rfl⟩
        obtain ⟨CX, hCX⟩ : ∃ CX, CX = cntK l j := ⟨_, rfl⟩
        rw [← hX] at hoj hosj hOd
        rw [← hCX] at hcsj hclj
        rw [← hCX]
        clear hX hCX hO
        go_wp2_with fail
        refine wp_region_held_drew (S := fun _ => True) (by kernel_rfl) trivial (fun hS => ?_)
        try simp only [List.size_toArray, List.length_cons, List.length_nil, Nat.reduceAdd]
        refine wpAnyH_take (i := 0) (v := ?_) (by simp only [List.getElem?_toArray, List.getElem?_cons_zero]; rfl) (by kernel_rfl) (by kernel_rfl) (by kernel_rfl) (by exact fun _ _ _ h => h) (Or.inl ⟨by rfl, ?_⟩) hS ?_
        rotate_left
        · intro w hSw
          go_simp
          try with_reducible rfl
        try simp only [Act.put, List.setIfInBounds_toArray, List.set_cons_zero, List.set_cons_succ]
        refine wpAnyH_take (i := 1) (v := ?_) (by simp only [List.getElem?_toArray, List.getElem?_cons_succ, List.getElem?_cons_zero]; rfl) (by kernel_rfl) (by kernel_rfl) (by kernel_rfl) (by exact fun _ _ _ h => h) (Or.inl ⟨by rfl, ?_⟩) hS ?_
        rotate_left
        · intro w hSw
          go_simp
          try with_reducible rfl
        try simp only [Act.put, List.setIfInBounds_toArray, List.set_cons_zero, List.set_cons_succ]
        refine wpAnyH_take (i := 2) (v := ?_) (by simp only [List.getElem?_toArray, List.getElem?_cons_succ, List.getElem?_cons_zero]; rfl) (by kernel_rfl) (by kernel_rfl) (by kernel_rfl) (by exact fun _ _ _ h => h) (Or.inl ⟨by rfl, ?_⟩) hS ?_
        rotate_left
        · intro w hSw
          go_simp
          try with_reducible rfl
        try simp only [Act.put, List.setIfInBounds_toArray, List.set_cons_zero, List.set_cons_succ]
        refine wpAnyH_take (i := 3) (v := ?_) (by simp only [List.getElem?_toArray, List.getElem?_cons_succ, List.getElem?_cons_zero]; rfl) (by kernel_rfl) (by kernel_rfl) (by kernel_rfl) (by exact fun _ _ _ h => h) (Or.inl ⟨by rfl, ?_⟩) hS ?_
        rotate_left
        · intro w hSw
          go_simp
          try with_reducible rfl
        try simp only [Act.put, List.setIfInBounds_toArray, List.set_cons_zero, List.set_cons_succ]
        refine wpAnyH_take (i := 4) (v := ?_) (by simp only [List.getElem?_toArray, List.getElem?_cons_succ, List.getElem?_cons_zero]; rfl) (by kernel_rfl) (by kernel_rfl) (by kernel_rfl) (by exact fun _ _ _ h => h) (Or.inl ⟨by rfl, ?_⟩) hS ?_
        rotate_left
        · intro w hSw
          go_simp
          try with_reducible rfl
        try simp only [Act.put, List.setIfInBounds_toArray, List.set_cons_zero, List.set_cons_succ]
        refine wpAnyH_take (i := 5) (v := ?_) (by simp only [List.getElem?_toArray, List.getElem?_cons_succ, List.getElem?_cons_zero]; rfl) (by kernel_rfl) (by kernel_rfl) (by kernel_rfl) (by exact fun _ _ _ h => h) (Or.inl ⟨by rfl, ?_⟩) hS ?_
        rotate_left
        · intro w hSw
          go_simp
          try with_reducible rfl
        try simp only [Act.put, List.setIfInBounds_toArray, List.set_cons_zero, List.set_cons_succ]
        refine wpAnyH_take (i := 6) (v := ?_) (by simp only [List.getElem?_toArray, List.getElem?_cons_succ, List.getElem?_cons_zero]; rfl) (by kernel_rfl) (by kernel_rfl) (by kernel_rfl) (by exact fun _ _ _ h => h) (Or.inl ⟨by rfl, ?_⟩) hS ?_
        rotate_left
        · intro w hSw
          go_simp
          try with_reducible rfl
        try simp only [Act.put, List.setIfInBounds_toArray, List.set_cons_zero, List.set_cons_succ]
        refine wpAnyH_take (i := 7) (v := ?_) (by simp only [List.getElem?_toArray, List.getElem?_cons_succ, List.getElem?_cons_zero]; rfl) (by kernel_rfl) (by kernel_rfl) (by kernel_rfl) (by exact fun _ _ _ h => h) (Or.inl ⟨by rfl, ?_⟩) hS ?_
        rotate_left
        · intro w hSw
          go_simp
          try with_reducible rfl
        try simp only [Act.put, List.setIfInBounds_toArray, List.set_cons_zero, List.set_cons_succ]
        refine wpAnyH_take (i := 8) (v := ?_) (by simp only [List.getElem?_toArray, List.getElem?_cons_succ, List.getElem?_cons_zero]; rfl) (by kernel_rfl) (by kernel_rfl) (by kernel_rfl) (by exact fun _ _ _ h => h) (Or.inl ⟨by rfl, ?_⟩) hS ?_
        rotate_left
        · intro w hSw
          go_simp
          try with_reducible rfl
        try simp only [Act.put, List.setIfInBounds_toArray, List.set_cons_zero, List.set_cons_succ]
        refine wpAnyH_take (i := 9) (v := ?_) (by simp only [List.getElem?_toArray, List.getElem?_cons_succ, List.getElem?_cons_zero]; rfl) (by kernel_rfl) (by kernel_rfl) (by kernel_rfl) (by exact fun _ _ _ h => h) (Or.inl ⟨by rfl, ?_⟩) hS ?_
        rotate_left
        · intro w hSw
          go_simp
          try with_reducible rfl
        try simp only [Act.put, List.setIfInBounds_toArray, List.set_cons_zero, List.set_cons_succ]
        refine wpAnyH_take (i := 10) (v := ?_) (by simp only [List.getElem?_toArray, List.getElem?_cons_succ, List.getElem?_cons_zero]; rfl) (by kernel_rfl) (by kernel_rfl) (by kernel_rfl) (by exact fun _ _ _ h => h) (Or.inl ⟨by rfl, ?_⟩) hS ?_
        rotate_left
        · intro w hSw
          go_simp
          try with_reducible rfl
        try simp only [Act.put, List.setIfInBounds_toArray, List.set_cons_zero, List.set_cons_succ]
        refine wpAnyH_ready (rs := [11]) (by kernel_rfl) (by simp) ?_
        refine AllReadyH.cons (by simp only [List.getElem?_toArray, List.getElem?_cons_succ, List.getElem?_cons_zero]; rfl) (fun K hK => ?_) AllReadyH.nil
        go_simp
        go_at_call 22
        refine (HMj.out _ hD.out).mono ?_
        rintro e w2 ⟨h2, b2⟩
        have B2 := Lib.hid (hD.out.trans (b2.mono hD.out.size))
        rcases h2 with ⟨hg, rfl⟩ | ⟨hg, a2, c2, rfl, r2, l2⟩
        · have hT2 := Lib.hid (hT.out [] 0 3 (.inl ⟨.inr (hGnj.out hg), rfl, rfl, rfl⟩))
          clear b2 hg
          refine hK.out _ _ trivial (fun hS => ?_)
          clear hK K
          try simp only [Act.put, List.setIfInBounds_toArray, List.set_cons_zero, List.set_cons_succ]
          refine wpAnyH_take (i := 12) (v := ?_) (by simp only [List.getElem?_toArray, List.getElem?_cons_succ, List.getElem?_cons_zero]; rfl) (by kernel_rfl) (by kernel_rfl) (by kernel_rfl) (by exact fun _ _ _ h => h) (Or.inl ⟨by rfl, ?_⟩) hS ?_
          rotate_left
          · intro w hSw
            go_simp
            try with_reducible rfl
          try simp only [Act.put, List.setIfInBounds_toArray, List.set_cons_zero, List.set_cons_succ]
          refine wpAnyH_take (i := 13) (v := ?_) (by simp only [List.getElem?_toArray, List.getElem?_cons_succ, List.getElem?_cons_zero]; rfl) (by kernel_rfl) (by kernel_rfl) (by kernel_rfl) (by exact fun _ _ _ h => h) (Or.inl ⟨by rfl, ?_⟩) hS ?_
          rotate_left
          · intro w hSw
            go_simp
            try with_reducible rfl
          try simp only [Act.put, List.setIfInBounds_toArray, List.set_cons_zero, List.set_cons_succ]
          refine wpAnyH_take (i := 14) (v := ?_) (by simp only [List.getElem?_toArray, List.getElem?_cons_succ, List.getElem?_cons_zero]; rfl) (by kernel_rfl) (by kernel_rfl) (by kernel_rfl) (by exact fun _ _ _ h => h) (Or.inl ⟨by rfl, ?_⟩) hS ?_
          rotate_left
          · intro w hSw
            go_simp
            try with_reducible rfl
          try simp only [Act.put, List.setIfInBounds_toArray, List.set_cons_zero, List.set_cons_succ]
          refine wpAnyH_take (i := 15) (v := ?_) (by simp only [List.getElem?_toArray, List.getElem?_cons_succ, List.getElem?_cons_zero]; rfl) (by kernel_rfl) (by kernel_rfl) (by kernel_rfl) (by exact fun _ _ _ h => h) (Or.inl ⟨by rfl, ?_⟩) hS ?_
          rotate_left
          · intro w hSw
            go_simp
            try with_reducible rfl
          try simp only [Act.put, List.setIfInBounds_toArray, List.set_cons_zero, List.set_cons_succ]
          refine wpAnyH_take (i := 16) (v := ?_) (by simp only [List.getElem?_toArray, List.getElem?_cons_succ, List.getElem?_cons_zero]; rfl) (by kernel_rfl) (by kernel_rfl) (by kernel_rfl) (by exact fun _ _ _ h => h) (Or.inl ⟨by rfl, ?_⟩) hS ?_
          rotate_left
          · intro w hSw
            go_simp
            try with_reducible rfl
          try simp only [Act.put, List.setIfInBounds_toArray, List.set_cons_zero, List.set_cons_succ]
          refine wpAnyH_take (i := 17) (v := ?_) (by simp only [List.getElem?_toArray, List.getElem?_cons_succ, List.getElem?_cons_zero]; rfl) (by kernel_rfl) (by kernel_rfl) (by kernel_rfl) (by exact fun _ _ _ h => h) (Or.inl ⟨by rfl, ?_⟩) hS ?_
          rotate_left
          · intro w hSw
            go_simp
            try with_reducible rfl
          try simp only [Act.put, List.setIfInBounds_toArray, List.set_cons_zero, List.set_cons_succ]
          refine wpAnyH_take (i := 18) (v := ?_) (by simp only [List.getElem?_toArray, List.getElem?_cons_succ, List.getElem?_cons_zero]; rfl) (by kernel_rfl) (by kernel_rfl) (by kernel_rfl) (by exact fun _ _ _ h => h) (Or.inl ⟨by rfl, ?_⟩) hS ?_
          rotate_left
          · intro w hSw
            go_simp
            try with_reducible rfl
          try simp only [Act.put, List.setIfInBounds_toArray, List.set_cons_zero, List.set_cons_succ]
          refine wpAnyH_done (by kernel_rfl) ?_ _
          go_wp2
          go_ret3
          exact readsNone hT2.out B2.out
        · have hO2 := Lib.hid (Own.below hOd.out b2)
          have hg2 := Lib.hid (hGj.out hg)
          replace r2 := Lib.hid r2
          clear b2 hg l2
          refine hK.out _ _ trivial (fun hS => ?_)
          clear hK K
          try simp only [Act.put, List.setIfInBounds_toArray, List.set_cons_zero, List.set_cons_succ]
          refine wpAnyH_take (i := 12) (v := ?_) (by simp only [List.getElem?_toArray, List.getElem?_cons_succ, List.getElem?_cons_zero]; rfl) (by kernel_rfl) (by kernel_rfl) (by kernel_rfl) (by exact fun _ _ _ h => h) (Or.inl ⟨by rfl, ?_⟩) hS ?_
          rotate_left
          · intro w hSw
            go_simp
            try with_reducible rfl
          try simp only [Act.put, List.setIfInBounds_toArray, List.set_cons_zero, List.set_cons_succ]
          refine wpAnyH_take (i := 13) (v := ?_) (by simp only [List.getElem?_toArray, List.getElem?_cons_succ, List.getElem?_cons_zero]; rfl) (by kernel_rfl) (by kernel_rfl) (by kernel_rfl) (by exact fun _ _ _ h => h) (Or.inl ⟨by rfl, ?_⟩) hS ?_
          rotate_left
          · intro w hSw
            go_simp
            try with_reducible rfl
          try simp only [Act.put, List.setIfInBounds_toArray, List.set_cons_zero, List.set_cons_succ]
          refine wpAnyH_take (i := 14) (v := ?_) (by simp only [List.getElem?_toArray, List.getElem?_cons_succ, List.getElem?_cons_zero]; rfl) (by kernel_rfl) (by kernel_rfl) (by kernel_rfl) (by exact fun _ _ _ h => h) (Or.inl ⟨by rfl, ?_⟩) hS ?_
          rotate_left
          · intro w hSw
            go_simp
            try with_reducible rfl
          try simp only [Act.put, List.setIfInBounds_toArray, List.set_cons_zero, List.set_cons_succ]
          refine wpAnyH_take (i := 15) (v := ?_) (by simp only [List.getElem?_toArray, List.getElem?_cons_succ, List.getElem?_cons_zero]; rfl) (by kernel_rfl) (by kernel_rfl) (by kernel_rfl) (by exact fun _ _ _ h => h) (Or.inl ⟨by rfl, ?_⟩) hS ?_
          rotate_left
          · intro w hSw
            go_simp
            try with_reducible rfl
          try simp only [Act.put, List.setIfInBounds_toArray, List.set_cons_zero, List.set_cons_succ]
          refine wpAnyH_take (i := 16) (v := ?_) (by simp only [List.getElem?_toArray, List.getElem?_cons_succ, List.getElem?_cons_zero]; rfl) (by kernel_rfl) (by kernel_rfl) (by kernel_rfl) (by exact fun _ _ _ h => h) (Or.inl ⟨by rfl, ?_⟩) hS ?_
          rotate_left
          · intro w hSw
            go_simp
            try with_reducible rfl
          try simp only [Act.put, List.setIfInBounds_toArray, List.set_cons_zero, List.set_cons_succ]
          refine wpAnyH_take (i := 17) (v := ?_) (by simp only [List.getElem?_toArray, List.getElem?_cons_succ, List.getElem?_cons_zero]; rfl) (by kernel_rfl) (by kernel_rfl) (by kernel_rfl) (by exact fun _ _ _ h => h) (Or.inl ⟨by rfl, ?_⟩) hS ?_
          rotate_left
          · intro w hSw
            go_simp
            try with_reducible rfl
          try simp only [Act.put, List.setIfInBounds_toArray, List.set_cons_zero, List.set_cons_succ]
          refine wpAnyH_take (i := 18) (v := ?_) (by simp only [List.getElem?_toArray, List.getElem?_cons_succ, List.getElem?_cons_zero]; rfl) (by kernel_rfl) (by kernel_rfl) (by kernel_rfl) (by exact fun _ _ _ h => h) (Or.inl ⟨by rfl, ?_⟩) hS ?_
          rotate_left
          · intro w hSw
            go_simp
            try with_reducible rfl
          try simp only [Act.put, List.setIfInBounds_toArray, List.set_cons_zero, List.set_cons_succ]
          refine wpAnyH_done (by kernel_rfl) ?_ _
          go_wp2_with (
            (at_builtin
             refine wpList_app rfl (.tmp 53) (.tmp 54) rfl w.heap.size (.slice a' (64 * j) c') X rfl hO2.out a2 O1 64 c2 rfl hotj.out r2.out (X ++ O1) (64 * (j + 1)) rfl (by rw [List.length_append, hoj.out, hotj.out]; omega) (by omega) B2.out.size ?_
             intro a3 c3 w3 hv3 hr3 hg3 hn3
             have hB3 := Lib.hid (B2.out.grown hg3 B2.out.size (hO2.out.blocks · · |>.1))
             have hV3 := Lib.hid hv3
             clear hv3 hr3 hg3 hn3))
          go_roundw
          case rel => exact ⟨j + 1, p + 73, a3, c3, by omega, hp1, by go_num, rfl, by rw [hcsj.out]; go_num, by rw [hosj.out]; exact hV3.out, hg2.out, hB3.out⟩
          case measure => simp [intOf]; omega
      · obtain rfl : j = q := by omega
        have hlt' : ¬ (p : Int) < (n : Int) := by have := hnq.out; have := hp.out; omega
        have hle : bb ≤ 64 * j := by omega
        have hrd := Own.rd hO.out
        have hcc : (bb : Int) ≤ (c' : Int) := by have := hrd.2.2.1; omega
        have hT2 := Lib.hid (hT.out ((outK l j).take bb) (cntK l j) 2 (.inr ⟨by omega, by omega, hG.out, rfl, rfl, rfl⟩))
        have hlen : Hid (((outK l j).take bb).length = bb) := Lib.hid (by rw [List.length_take, hol.out j]; omega)
        have hR2 := Lib.hid (Rd.take hrd.1 bb)
        have hlt2 : Hid (∀ x, 0 < ((outK l j).take bb).length → a' = some x → x.block < wr.heap.size) := Lib.hid fun x h0 e => by
          subst e
          obtain ⟨g, hg, _, h3⟩ := own_at hO.out (by rw [hlen.out] at h0; omega)
          injection hg with hg
          subst hg
          exact h3
        replace hB := Lib.hid hB
        clear hrd
        go_wp2
        go_ret3
        exact ⟨⟨_, _, _, a', c', by rw [hlen.out]; rfl, hT2.out, hR2.out, hlt2.out⟩, hB.out⟩
end Go.Proofs.YtjnpfnpeekpleaaDoor.PgT
