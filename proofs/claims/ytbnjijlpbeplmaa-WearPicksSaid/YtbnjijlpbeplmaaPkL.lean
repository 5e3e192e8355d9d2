/- The law of what is picked. -/
import Derived.Test.YtbnjijlpbeplmaaPkF
import Derived.Test.YtbnjijlpbeplmaaPkB
import Derived.Test.YtbnjijlpbeplmaaPkC
import Derived.Test.YtbnjijlpbeplmaaWearK
import Derived.Test.YtbnjijlpbeplmaaWearO
import Derived.Test.YtbnjijlpbeplmaaWearV2
namespace Go.Proofs.Ytbnjijlpbeplmaa.PkL
open Go.ChangeShapes Go.WideShapes Go.ChangeAt Go.RowKit
open WearVM Mem WearC WearD WearE WearF WearV1 WearG PkA PkD PkE
set_option linter.unusedVariables false
set_option maxHeartbeats 2000000

theorem longP (one : Bool) (gap : Int) (a : Option Addr) (n c : Nat) (w : World) (hn : 200 < n) (hm : n ≤ 9223372036854775807) :
    Calls Try.prog 5 #[.slice a n c, .bool one, .int .i64 gap] w fun e w' => e = .returned (.bool true) ∧ Below w.heap.size w w' := by
  go_enter Try.func5, Try.ntmps5
  go_wp2_with fail
  refine (WearK.known_any _).mono ?_
  rintro e w1 ⟨rfl, hb1⟩
  go_wp2
  go_ret
  exact ⟨rfl, hb1⟩

set_option maxRecDepth 100000 in
theorem law (one : Bool) (gap : Int) (a : Option Addr) (l : List WearVM.Blk) (n c : Nat) (w : World) (hn : l.length = n) (hr : RdB w a l) (h200 : n ≤ 200) :
    Calls Try.prog 5 #[.slice a n c, .bool one, .int .i64 gap] w fun e w' => e = .returned (.bool true) ∧ Below w.heap.size w w' := by
  have HR := Lib.hid hr
  have hN := Lib.hid hn
  have H21 := Lib.hid (fun w' (hb' : Below w.heap.size w w') => ofR a l n c w' hn (hr.below hb') h200)
  have H22 := Lib.hid (fun w' (hb' : Below w.heap.size w w') => victimW a l n c w' hn (hr.below hb') h200)
  have H24 := Lib.hid (fun w' (hb' : Below w.heap.size w w') => freshW one a l n c w' hn (hr.below hb') h200)
  have H26 := Lib.hid (fun w' (hb' : Below w.heap.size w w') => oldW gap a l n c w' hn (hr.below hb') h200)
  have H28 := Lib.hid (fun w' (hb' : Below w.heap.size w w') => totalW a l n c w' hn (hr.below hb') h200)
  have G23 := Lib.hid (fun w' a' c' (hb' : RdB w' a' l) => PkB.victimR a' l n c' w' hn hb' h200)
  have G25 := Lib.hid (fun w' a' c' (hb' : RdB w' a' l) => PkC.freshR one a' l n c' w' hn hb' h200)
  have G27 := Lib.hid (fun w' a' c' (hb' : RdB w' a' l) => PkF.oldR gap a' l n c' w' hn hb' h200)
  have G29 := Lib.hid (fun w' a' c' (hb' : RdB w' a' l) => totalR a' l n c' w' hn hb' h200)
  have hg : ¬ (200 : Int) < (n : Int) := by omega
  generalize victimOf l = V1 at *
  generalize freshOf one l = V2 at *
  generalize oldOf gap l = V3 at *
  generalize tot l = V4 at *
  clear hr hn h200
  go_enter Try.func5, Try.ntmps5
  go_wp2_with fail
  refine (WearK.known_any _).mono ?_
  rintro e w1 ⟨rfl, b1⟩
  have D1 := Lib.hid b1
  clear b1
  go_wp2_with fail
  refine (H21.out _ D1.out).mono ?_
  rintro e' w2 ⟨a', c', rfl, hr2, b2⟩
  have B2 := Lib.hid (D1.out.trans (b2.mono D1.out.size))
  have HR2 : Hid (∀ w', Below w2.heap.size w2 w' → RdB w' a' l) := Lib.hid fun w' hb' => hr2.below hb'
  have U22 := Lib.hid (fun w' (hb' : Below w2.heap.size w2 w') => H22.out w' (B2.out.trans (hb'.mono B2.out.size)))
  have U24 := Lib.hid (fun w' (hb' : Below w2.heap.size w2 w') => H24.out w' (B2.out.trans (hb'.mono B2.out.size)))
  have U26 := Lib.hid (fun w' (hb' : Below w2.heap.size w2 w') => H26.out w' (B2.out.trans (hb'.mono B2.out.size)))
  have U28 := Lib.hid (fun w' (hb' : Below w2.heap.size w2 w') => H28.out w' (B2.out.trans (hb'.mono B2.out.size)))
  have U23 := Lib.hid (fun w' (hb' : Below w2.heap.size w2 w') => G23.out w' a' c' (HR2.out w' hb'))
  have U25 := Lib.hid (fun w' (hb' : Below w2.heap.size w2 w') => G25.out w' a' c' (HR2.out w' hb'))
  have U27 := Lib.hid (fun w' (hb' : Below w2.heap.size w2 w') => G27.out w' a' c' (HR2.out w' hb'))
  have U29 := Lib.hid (fun w' (hb' : Below w2.heap.size w2 w') => G29.out w' a' c' (HR2.out w' hb'))
  have HRL : Hid (∀ w', Below w2.heap.size w2 w' → RdB w' a l) := Lib.hid fun w' hb' => HR.out.below (B2.out.trans (hb'.mono B2.out.size))
  have D2 : Hid (Below w2.heap.size w2 w2) := Lib.hid (Below.refl _ _)
  clear H21 H22 H24 H26 H28 G23 G25 G27 G29 hr2 b2 D1 HR
  go_wp2_with fail
  refine (U22.out _ D2.out).mono ?_
  rintro e' w3 ⟨rfl, b3⟩
  have D3 := Lib.hid (D2.out.trans (b3.mono D2.out.size))
  clear b3
  go_wp2_with fail
  refine (U23.out _ D3.out).mono ?_
  rintro e' w4 ⟨rfl, b4⟩
  have D4 := Lib.hid (D3.out.trans (b4.mono D3.out.size))
  clear b4
  clear D3
  go_wp2_with fail
  refine (U24.out _ D4.out).mono ?_
  rintro e' w5 ⟨rfl, b5⟩
  have D5 := Lib.hid (D4.out.trans (b5.mono D4.out.size))
  clear b5
  clear D4
  go_wp2_with fail
  refine (U25.out _ D5.out).mono ?_
  rintro e' w6 ⟨rfl, b6⟩
  have D6 := Lib.hid (D5.out.trans (b6.mono D5.out.size))
  clear b6
  clear D5
  go_wp2_with fail
  refine (U26.out _ D6.out).mono ?_
  rintro e' w7 ⟨rfl, b7⟩
  have D7 := Lib.hid (D6.out.trans (b7.mono D6.out.size))
  clear b7
  clear D6
  go_wp2_with fail
  refine (U27.out _ D7.out).mono ?_
  rintro e' w8 ⟨rfl, b8⟩
  have D8 := Lib.hid (D7.out.trans (b8.mono D7.out.size))
  clear b8
  clear D7
  go_wp2_with fail
  refine (U28.out _ D8.out).mono ?_
  rintro e' w9 ⟨rfl, b9⟩
  have D9 := Lib.hid (D8.out.trans (b9.mono D8.out.size))
  clear b9
  clear D8
  go_wp2_with fail
  refine (U29.out _ D9.out).mono ?_
  rintro e' w10 ⟨rfl, b10⟩
  have D10 := Lib.hid (D9.out.trans (b10.mono D9.out.size))
  clear b10
  clear D9
  have DL := Lib.hid D10.out
  clear D10
  go_wp2_with fail
  go_loopw [24] (fun i wr => ∃ j : Nat, j ≤ n ∧ i = .int .i64 j ∧ Below w2.heap.size w2 wr) (fun i _ => n - (intOf i).toNat)
  case atStart => exact ⟨0, by omega, rfl, DL.out⟩
  case round =>
    clear DL
    obtain ⟨j, hj, rfl, hB⟩ := hrel
    by_cases hlt : j < n
    · skip
      have hjl : j < l.length := by rw [hN.out]; exact hlt
      obtain ⟨b, off, rfl, _⟩ := (HRL.out _ hB).2 j hjl
      obtain ⟨b', off', rfl, _⟩ := (HR2.out _ hB).2 j hjl
      have hlt' : (j : Int) < (n : Int) := by omega
      have AJ : Hid (∀ w', Below w2.heap.size w2 w' → Sev w' b (off + j * 7) (l.getD j zero) ∧ Sev w' b' (off' + j * 7) (l.getD j zero)) := Lib.hid fun w' h => ⟨PkA.RdB.sev (HRL.out _ h) j hjl, PkA.RdB.sev (HR2.out _ h) j hjl⟩
      have D0 : Hid (Below w2.heap.size w2 wr.drew) := Lib.hid hB.drew
      replace hB := Lib.hid hB
      obtain ⟨x, hx⟩ : ∃ x, x = l.getD j zero := ⟨_, rfl⟩
      rw [← hx] at AJ
      clear hx U22 U23 U24 U25 U26 U27 U28 U29
      cases hR : right x with
      | false =>
        have HW := Lib.hid (right_as false x hR)
        have HF := Lib.hid (rightR_as false x hR)
        obtain ⟨n1, l1, p1, k1, o1, e1, b1⟩ := x
        have AL : Hid (∀ w', Below w2.heap.size w2 w' → (w'.cell? ⟨b, off + j * 7, none⟩ = some (.int .i64 n1) ∧ w'.cell? ⟨b, off + j * 7 + 1, none⟩ = some (.int .i64 l1) ∧ w'.cell? ⟨b, off + j * 7 + 2, none⟩ = some (.int .i64 p1) ∧ w'.cell? ⟨b, off + j * 7 + 3, none⟩ = some (.int .i64 k1) ∧ w'.cell? ⟨b, off + j * 7 + 4, none⟩ = some (.bool o1) ∧ w'.cell? ⟨b, off + j * 7 + 5, none⟩ = some (.bool e1) ∧ w'.cell? ⟨b, off + j * 7 + 6, none⟩ = some (.bool b1)) ∧ (w'.cell? ⟨b', off' + j * 7, none⟩ = some (.int .i64 n1) ∧ w'.cell? ⟨b', off' + j * 7 + 1, none⟩ = some (.int .i64 l1) ∧ w'.cell? ⟨b', off' + j * 7 + 2, none⟩ = some (.int .i64 p1) ∧ w'.cell? ⟨b', off' + j * 7 + 3, none⟩ = some (.int .i64 k1) ∧ w'.cell? ⟨b', off' + j * 7 + 4, none⟩ = some (.bool o1) ∧ w'.cell? ⟨b', off' + j * 7 + 5, none⟩ = some (.bool e1) ∧ w'.cell? ⟨b', off' + j * 7 + 6, none⟩ = some (.bool b1))) := Lib.hid AJ.out
        clear AJ hR
        go_wp2_with fail
        refine wp_region_held_drew (S := fun w' => (w'.cell? ⟨b, off + j * 7, none⟩ = some (.int .i64 n1) ∧ w'.cell? ⟨b, off + j * 7 + 1, none⟩ = some (.int .i64 l1) ∧ w'.cell? ⟨b, off + j * 7 + 2, none⟩ = some (.int .i64 p1) ∧ w'.cell? ⟨b, off + j * 7 + 3, none⟩ = some (.int .i64 k1) ∧ w'.cell? ⟨b, off + j * 7 + 4, none⟩ = some (.bool o1) ∧ w'.cell? ⟨b, off + j * 7 + 5, none⟩ = some (.bool e1) ∧ w'.cell? ⟨b, off + j * 7 + 6, none⟩ = some (.bool b1)) ∧ (w'.cell? ⟨b', off' + j * 7, none⟩ = some (.int .i64 n1) ∧ w'.cell? ⟨b', off' + j * 7 + 1, none⟩ = some (.int .i64 l1) ∧ w'.cell? ⟨b', off' + j * 7 + 2, none⟩ = some (.int .i64 p1) ∧ w'.cell? ⟨b', off' + j * 7 + 3, none⟩ = some (.int .i64 k1) ∧ w'.cell? ⟨b', off' + j * 7 + 4, none⟩ = some (.bool o1) ∧ w'.cell? ⟨b', off' + j * 7 + 5, none⟩ = some (.bool e1) ∧ w'.cell? ⟨b', off' + j * 7 + 6, none⟩ = some (.bool b1))) (by kernel_rfl) (AL.out _ D0.out) (fun hS => ?_)
        try simp only [List.size_toArray, List.length_cons, List.length_nil, Nat.reduceAdd]
        refine wpAnyH_take (i := 0) (v := ?_) (by simp only [List.getElem?_toArray, List.getElem?_cons_succ, List.getElem?_cons_zero]; rfl) (by kernel_rfl) (by kernel_rfl) (by kernel_rfl) (by exact fun _ _ _ h => h) (Or.inl ⟨by rfl, ?_⟩) hS ?_
        rotate_left
        · intro w hSw
          go_simp
          try with_reducible rfl
        try simp only [Act.put, List.setIfInBounds_toArray, List.set_cons_zero, List.set_cons_succ]
        refine wpAnyH_take (i := 1) (v := ?_) (by simp only [List.getElem?_toArray, List.getElem?_cons_succ, List.getElem?_cons_zero]; rfl) (by kernel_rfl) (by kernel_rfl) (by kernel_rfl) (by exact fun _ _ _ h => h) (Or.inl ⟨by rfl, ?_⟩) hS ?_
        rotate_left
        · intro w hSw
          go_simp
          try with_reducible rfl
        try simp only [Act.put, List.setIfInBounds_toArray, List.set_cons_zero, List.set_cons_succ]
        refine wpAnyH_take (i := 2) (v := ?_) (by simp only [List.getElem?_toArray, List.getElem?_cons_succ, List.getElem?_cons_zero]; rfl) (by kernel_rfl) (by kernel_rfl) (by kernel_rfl) (by exact fun _ _ _ h => h) (Or.inl ⟨by rfl, ?_⟩) hS ?_
        rotate_left
        · intro w hSw
          go_simp
          try with_reducible rfl
        try simp only [Act.put, List.setIfInBounds_toArray, List.set_cons_zero, List.set_cons_succ]
        refine wpAnyH_take (i := 3) (v := ?_) (by simp only [List.getElem?_toArray, List.getElem?_cons_succ, List.getElem?_cons_zero]; rfl) (by kernel_rfl) (by kernel_rfl) (by kernel_rfl) (by exact fun _ _ _ h => h) (Or.inl ⟨by rfl, ?_⟩) hS ?_
        rotate_left
        · intro w hSw
          go_simp
          try with_reducible rfl
        try simp only [Act.put, List.setIfInBounds_toArray, List.set_cons_zero, List.set_cons_succ]
        refine wpAnyH_take (i := 5) (v := ?_) (by simp only [List.getElem?_toArray, List.getElem?_cons_succ, List.getElem?_cons_zero]; rfl) (by kernel_rfl) (by kernel_rfl) (by kernel_rfl) (by exact fun _ _ _ h => h) (Or.inl ⟨by rfl, ?_⟩) hS ?_
        rotate_left
        · intro w hSw
          go_simp
          try with_reducible rfl
        try simp only [Act.put, List.setIfInBounds_toArray, List.set_cons_zero, List.set_cons_succ]
        refine wpAnyH_take (i := 6) (v := ?_) (by simp only [List.getElem?_toArray, List.getElem?_cons_succ, List.getElem?_cons_zero]; rfl) (by kernel_rfl) (by kernel_rfl) (by kernel_rfl) (by exact fun _ _ _ h => h) (Or.inl ⟨by rfl, ?_⟩) hS ?_
        rotate_left
        · intro w hSw
          go_simp
          try with_reducible rfl
        try simp only [Act.put, List.setIfInBounds_toArray, List.set_cons_zero, List.set_cons_succ]
        refine wpAnyH_take (i := 7) (v := ?_) (by simp only [List.getElem?_toArray, List.getElem?_cons_succ, List.getElem?_cons_zero]; rfl) (by kernel_rfl) (by kernel_rfl) (by kernel_rfl) (by exact fun _ _ _ h => h) (Or.inl ⟨by rfl, ?_⟩) hS ?_
        rotate_left
        · intro w hSw
          go_simp
          try with_reducible rfl
        try simp only [Act.put, List.setIfInBounds_toArray, List.set_cons_zero, List.set_cons_succ]
        refine wpAnyH_take (i := 8) (v := ?_) (by simp only [List.getElem?_toArray, List.getElem?_cons_succ, List.getElem?_cons_zero]; rfl) (by kernel_rfl) (by kernel_rfl) (by kernel_rfl) (by exact fun _ _ _ h => h) (Or.inl ⟨by rfl, ?_⟩) hS ?_
        rotate_left
        · intro w hSw
          go_simp
          try with_reducible rfl
        try simp only [Act.put, List.setIfInBounds_toArray, List.set_cons_zero, List.set_cons_succ]
        refine wpAnyH_ready (rs := [4]) (by kernel_rfl) (by simp) ?_
        refine AllReadyH.cons (by simp only [List.getElem?_toArray, List.getElem?_cons_succ, List.getElem?_cons_zero]; rfl) (fun K hK => ?_) AllReadyH.nil
        go_simp
        go_at_call 30
        refine (HW.out _).mono ?_
        rintro e' wD1 ⟨rfl, bD1⟩
        have D1 : Hid (Below w2.heap.size w2 wD1) := Lib.hid (D0.out.trans (bD1.mono D0.out.size))
        clear bD1
        refine hK.out _ _ (AL.out _ D1.out) (fun hS => ?_)
        clear hK K
        try simp only [Act.put, List.setIfInBounds_toArray, List.set_cons_zero, List.set_cons_succ]
        refine wpAnyH_ready (rs := [9]) (by kernel_rfl) (by simp) ?_
        refine AllReadyH.cons (by simp only [List.getElem?_toArray, List.getElem?_cons_succ, List.getElem?_cons_zero]; rfl) (fun K hK => ?_) AllReadyH.nil
        go_simp
        go_at_call 31
        refine (HF.out _).mono ?_
        rintro e' wD2 ⟨rfl, bD2⟩
        have D2 : Hid (Below w2.heap.size w2 wD2) := Lib.hid (D1.out.trans (bD2.mono D1.out.size))
        clear bD2
        refine hK.out _ _ (AL.out _ D2.out) (fun hS => ?_)
        clear hK K
        try simp only [Act.put, List.setIfInBounds_toArray, List.set_cons_zero, List.set_cons_succ]
        refine wpAnyH_take (i := 10) (v := ?_) (by simp only [List.getElem?_toArray, List.getElem?_cons_succ, List.getElem?_cons_zero]; rfl) (by kernel_rfl) (by kernel_rfl) (by kernel_rfl) (by exact fun _ _ _ h => h) (Or.inl ⟨by rfl, ?_⟩) hS ?_
        rotate_left
        · intro w hSw
          go_simp
          try with_reducible rfl
        try simp only [Act.put, List.setIfInBounds_toArray, List.set_cons_zero, List.set_cons_succ]
        refine wpAnyH_done (by kernel_rfl) ?_ _
        go_wp2
        go_roundw
        case rel => exact ⟨j + 1, by omega, by go_num, D2.out⟩
        case measure => simp [intOf] <;> omega
      | true =>
        have HW := Lib.hid (right_as true x hR)
        have HF := Lib.hid (rightR_as true x hR)
        obtain ⟨n1, l1, p1, k1, o1, e1, b1⟩ := x
        have AL : Hid (∀ w', Below w2.heap.size w2 w' → (w'.cell? ⟨b, off + j * 7, none⟩ = some (.int .i64 n1) ∧ w'.cell? ⟨b, off + j * 7 + 1, none⟩ = some (.int .i64 l1) ∧ w'.cell? ⟨b, off + j * 7 + 2, none⟩ = some (.int .i64 p1) ∧ w'.cell? ⟨b, off + j * 7 + 3, none⟩ = some (.int .i64 k1) ∧ w'.cell? ⟨b, off + j * 7 + 4, none⟩ = some (.bool o1) ∧ w'.cell? ⟨b, off + j * 7 + 5, none⟩ = some (.bool e1) ∧ w'.cell? ⟨b, off + j * 7 + 6, none⟩ = some (.bool b1)) ∧ (w'.cell? ⟨b', off' + j * 7, none⟩ = some (.int .i64 n1) ∧ w'.cell? ⟨b', off' + j * 7 + 1, none⟩ = some (.int .i64 l1) ∧ w'.cell? ⟨b', off' + j * 7 + 2, none⟩ = some (.int .i64 p1) ∧ w'.cell? ⟨b', off' + j * 7 + 3, none⟩ = some (.int .i64 k1) ∧ w'.cell? ⟨b', off' + j * 7 + 4, none⟩ = some (.bool o1) ∧ w'.cell? ⟨b', off' + j * 7 + 5, none⟩ = some (.bool e1) ∧ w'.cell? ⟨b', off' + j * 7 + 6, none⟩ = some (.bool b1))) := Lib.hid AJ.out
        clear AJ hR
        go_wp2_with fail
        refine wp_region_held_drew (S := fun w' => (w'.cell? ⟨b, off + j * 7, none⟩ = some (.int .i64 n1) ∧ w'.cell? ⟨b, off + j * 7 + 1, none⟩ = some (.int .i64 l1) ∧ w'.cell? ⟨b, off + j * 7 + 2, none⟩ = some (.int .i64 p1) ∧ w'.cell? ⟨b, off + j * 7 + 3, none⟩ = some (.int .i64 k1) ∧ w'.cell? ⟨b, off + j * 7 + 4, none⟩ = some (.bool o1) ∧ w'.cell? ⟨b, off + j * 7 + 5, none⟩ = some (.bool e1) ∧ w'.cell? ⟨b, off + j * 7 + 6, none⟩ = some (.bool b1)) ∧ (w'.cell? ⟨b', off' + j * 7, none⟩ = some (.int .i64 n1) ∧ w'.cell? ⟨b', off' + j * 7 + 1, none⟩ = some (.int .i64 l1) ∧ w'.cell? ⟨b', off' + j * 7 + 2, none⟩ = some (.int .i64 p1) ∧ w'.cell? ⟨b', off' + j * 7 + 3, none⟩ = some (.int .i64 k1) ∧ w'.cell? ⟨b', off' + j * 7 + 4, none⟩ = some (.bool o1) ∧ w'.cell? ⟨b', off' + j * 7 + 5, none⟩ = some (.bool e1) ∧ w'.cell? ⟨b', off' + j * 7 + 6, none⟩ = some (.bool b1))) (by kernel_rfl) (AL.out _ D0.out) (fun hS => ?_)
        try simp only [List.size_toArray, List.length_cons, List.length_nil, Nat.reduceAdd]
        refine wpAnyH_take (i := 0) (v := ?_) (by simp only [List.getElem?_toArray, List.getElem?_cons_succ, List.getElem?_cons_zero]; rfl) (by kernel_rfl) (by kernel_rfl) (by kernel_rfl) (by exact fun _ _ _ h => h) (Or.inl ⟨by rfl, ?_⟩) hS ?_
        rotate_left
        · intro w hSw
          go_simp
          try with_reducible rfl
        try simp only [Act.put, List.setIfInBounds_toArray, List.set_cons_zero, List.set_cons_succ]
        refine wpAnyH_take (i := 1) (v := ?_) (by simp only [List.getElem?_toArray, List.getElem?_cons_succ, List.getElem?_cons_zero]; rfl) (by kernel_rfl) (by kernel_rfl) (by kernel_rfl) (by exact fun _ _ _ h => h) (Or.inl ⟨by rfl, ?_⟩) hS ?_
        rotate_left
        · intro w hSw
          go_simp
          try with_reducible rfl
        try simp only [Act.put, List.setIfInBounds_toArray, List.set_cons_zero, List.set_cons_succ]
        refine wpAnyH_take (i := 2) (v := ?_) (by simp only [List.getElem?_toArray, List.getElem?_cons_succ, List.getElem?_cons_zero]; rfl) (by kernel_rfl) (by kernel_rfl) (by kernel_rfl) (by exact fun _ _ _ h => h) (Or.inl ⟨by rfl, ?_⟩) hS ?_
        rotate_left
        · intro w hSw
          go_simp
          try with_reducible rfl
        try simp only [Act.put, List.setIfInBounds_toArray, List.set_cons_zero, List.set_cons_succ]
        refine wpAnyH_take (i := 3) (v := ?_) (by simp only [List.getElem?_toArray, List.getElem?_cons_succ, List.getElem?_cons_zero]; rfl) (by kernel_rfl) (by kernel_rfl) (by kernel_rfl) (by exact fun _ _ _ h => h) (Or.inl ⟨by rfl, ?_⟩) hS ?_
        rotate_left
        · intro w hSw
          go_simp
          try with_reducible rfl
        try simp only [Act.put, List.setIfInBounds_toArray, List.set_cons_zero, List.set_cons_succ]
        refine wpAnyH_take (i := 5) (v := ?_) (by simp only [List.getElem?_toArray, List.getElem?_cons_succ, List.getElem?_cons_zero]; rfl) (by kernel_rfl) (by kernel_rfl) (by kernel_rfl) (by exact fun _ _ _ h => h) (Or.inl ⟨by rfl, ?_⟩) hS ?_
        rotate_left
        · intro w hSw
          go_simp
          try with_reducible rfl
        try simp only [Act.put, List.setIfInBounds_toArray, List.set_cons_zero, List.set_cons_succ]
        refine wpAnyH_take (i := 6) (v := ?_) (by simp only [List.getElem?_toArray, List.getElem?_cons_succ, List.getElem?_cons_zero]; rfl) (by kernel_rfl) (by kernel_rfl) (by kernel_rfl) (by exact fun _ _ _ h => h) (Or.inl ⟨by rfl, ?_⟩) hS ?_
        rotate_left
        · intro w hSw
          go_simp
          try with_reducible rfl
        try simp only [Act.put, List.setIfInBounds_toArray, List.set_cons_zero, List.set_cons_succ]
        refine wpAnyH_take (i := 7) (v := ?_) (by simp only [List.getElem?_toArray, List.getElem?_cons_succ, List.getElem?_cons_zero]; rfl) (by kernel_rfl) (by kernel_rfl) (by kernel_rfl) (by exact fun _ _ _ h => h) (Or.inl ⟨by rfl, ?_⟩) hS ?_
        rotate_left
        · intro w hSw
          go_simp
          try with_reducible rfl
        try simp only [Act.put, List.setIfInBounds_toArray, List.set_cons_zero, List.set_cons_succ]
        refine wpAnyH_take (i := 8) (v := ?_) (by simp only [List.getElem?_toArray, List.getElem?_cons_succ, List.getElem?_cons_zero]; rfl) (by kernel_rfl) (by kernel_rfl) (by kernel_rfl) (by exact fun _ _ _ h => h) (Or.inl ⟨by rfl, ?_⟩) hS ?_
        rotate_left
        · intro w hSw
          go_simp
          try with_reducible rfl
        try simp only [Act.put, List.setIfInBounds_toArray, List.set_cons_zero, List.set_cons_succ]
        refine wpAnyH_ready (rs := [4]) (by kernel_rfl) (by simp) ?_
        refine AllReadyH.cons (by simp only [List.getElem?_toArray, List.getElem?_cons_succ, List.getElem?_cons_zero]; rfl) (fun K hK => ?_) AllReadyH.nil
        go_simp
        go_at_call 30
        refine (HW.out _).mono ?_
        rintro e' wD1 ⟨rfl, bD1⟩
        have D1 : Hid (Below w2.heap.size w2 wD1) := Lib.hid (D0.out.trans (bD1.mono D0.out.size))
        clear bD1
        refine hK.out _ _ (AL.out _ D1.out) (fun hS => ?_)
        clear hK K
        try simp only [Act.put, List.setIfInBounds_toArray, List.set_cons_zero, List.set_cons_succ]
        refine wpAnyH_ready (rs := [9]) (by kernel_rfl) (by simp) ?_
        refine AllReadyH.cons (by simp only [List.getElem?_toArray, List.getElem?_cons_succ, List.getElem?_cons_zero]; rfl) (fun K hK => ?_) AllReadyH.nil
        go_simp
        go_at_call 31
        refine (HF.out _).mono ?_
        rintro e' wD2 ⟨rfl, bD2⟩
        have D2 : Hid (Below w2.heap.size w2 wD2) := Lib.hid (D1.out.trans (bD2.mono D1.out.size))
        clear bD2
        refine hK.out _ _ (AL.out _ D2.out) (fun hS => ?_)
        clear hK K
        try simp only [Act.put, List.setIfInBounds_toArray, List.set_cons_zero, List.set_cons_succ]
        refine wpAnyH_take (i := 10) (v := ?_) (by simp only [List.getElem?_toArray, List.getElem?_cons_succ, List.getElem?_cons_zero]; rfl) (by kernel_rfl) (by kernel_rfl) (by kernel_rfl) (by exact fun _ _ _ h => h) (Or.inl ⟨by rfl, ?_⟩) hS ?_
        rotate_left
        · intro w hSw
          go_simp
          try with_reducible rfl
        try simp only [Act.put, List.setIfInBounds_toArray, List.set_cons_zero, List.set_cons_succ]
        refine wpAnyH_done (by kernel_rfl) ?_ _
        go_wp2
        go_roundw
        case rel => exact ⟨j + 1, by omega, by go_num, D2.out⟩
        case measure => simp [intOf] <;> omega
    · obtain rfl : j = n := by omega
      have BE := Lib.hid (B2.out.trans (hB.mono B2.out.size))
      clear U22 U23 U24 U25 U26 U27 U28 U29
      go_wp2
      go_ret
      exact ⟨rfl, BE.out⟩

theorem all (one : Bool) (gap : Int) (a : Option Addr) (l : List WearVM.Blk) (n c : Nat) (w : World) (hn : l.length = n) (hr : RdB w a l) (hm : n ≤ maxLen) :
    Calls Try.prog 5 #[.slice a n c, .bool one, .int .i64 gap] w fun e w' => e = .returned (.bool true) ∧ Below w.heap.size w w' := by
  by_cases h : 200 < n
  · exact longP one gap a n c w h (by unfold maxLen at hm; omega)
  · exact law one gap a l n c w hn hr (by omega)
end Go.Proofs.Ytbnjijlpbeplmaa.PkL
