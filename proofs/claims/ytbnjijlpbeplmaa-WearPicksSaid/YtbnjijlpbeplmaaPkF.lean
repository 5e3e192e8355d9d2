/- The document's Old. -/
import Derived.Test.YtbnjijlpbeplmaaPkE
import Derived.Test.YtbnjijlpbeplmaaPkR
namespace Go.Proofs.Ytbnjijlpbeplmaa.PkF
open Go.ChangeShapes Go.WideShapes Go.ChangeAt Go.RowKit
open WearVM Mem WearC WearD WearE WearF WearV1 WearG PkA PkD PkE PkR
set_option linter.unusedVariables false
set_option maxHeartbeats 2000000

set_option maxRecDepth 100000 in
theorem oldR (gap : Int) (a : Option Addr) (l : List WearVM.Blk) (n c : Nat) (w : World) (hn : l.length = n) (hr : RdB w a l) (h200 : n ≤ 200) :
    Calls Try.prog 27 #[.int .i64 gap, .slice a n c] w fun e w' => e = .returned (.tuple #[.int .i64 (oldOf gap l).1, .bool (oldOf gap l).2]) ∧ Below w.heap.size w w' := by
  have HR := Lib.hid hr
  have hN := Lib.hid hn
  have HBd := Lib.hid (most_bd l)
  have hne := fun b (h : WearVM.live b = true) => usable_ne (b := b) ((Bool.and_eq_true_iff.1 h).1)
  have HV : Hid (oldOf gap l = if chosen WearVM.live lessWorn l = zero ∨ mostOf l - (chosen WearVM.live lessWorn l).worn ≤ gap then (0, false) else ((chosen WearVM.live lessWorn l).n, true)) := Lib.hid rfl
  generalize oldOf gap l = VO at *
  clear hr hn
  go_enter Try.func27, Try.ntmps27
  go_wp2
  go_loopw [8, 6, 7] (fun i k m wr => ∃ (j : Nat) (kk M : Int), j ≤ n ∧ i = .int .i64 j ∧ k = .int .i64 kk ∧ m = .int .i64 M ∧ Pos WearVM.live lessWorn l j kk ∧ M = mostOf (l.take j) ∧ Below w.heap.size w wr) (fun i _ _ _ => n - (intOf i).toNat)
  case atStart => exact ⟨0, -1, 0, by omega, rfl, rfl, rfl, Pos.start, rfl, Below.refl _ _⟩
  case round =>
    obtain ⟨j, kk, M, hj, rfl, rfl, rfl, hP, hM, hB⟩ := hrel
    by_cases hlt : j < n
    · skip
      have hjl : j < l.length := by rw [hN.out]; exact hlt
      obtain ⟨b, off, rfl, _⟩ := HR.out.2 j hjl
      have hlt' : (j : Int) < (n : Int) := by omega
      have hx0 : Hid (WearVM.live (l.getD j zero) = false → Pos WearVM.live lessWorn l (j + 1) kk) := Lib.hid (fun h => hP.no hjl h)
      have hx1 : Hid (WearVM.live (l.getD j zero) = true → kk = -1 → Pos WearVM.live lessWorn l (j + 1) j) := Lib.hid (fun h e => by subst e; exact hP.first hjl h (hne _ h))
      have hx2 : Hid (∀ q : Nat, WearVM.live (l.getD j zero) = true → kk = (q : Int) → lessWorn (l.getD j zero) (l.getD q zero) = true → Pos WearVM.live lessWorn l (j + 1) j) := Lib.hid (fun q h e ha => by subst e; exact hP.yes hjl h (hne _ h) ha)
      have hx3 : Hid (∀ q : Nat, WearVM.live (l.getD j zero) = true → kk = (q : Int) → lessWorn (l.getD j zero) (l.getD q zero) = false → Pos WearVM.live lessWorn l (j + 1) kk) := Lib.hid (fun q h e ha => by subst e; exact hP.stay hjl h ha)
      have hcase := hP.case
      have AJ : Hid (∀ w', Below w.heap.size w w' → Sev w' b (off + j * 7) (l.getD j zero)) := Lib.hid fun w' h => PkA.RdB.sev (HR.out.below h) j hjl
      have AQ : Hid (∀ (q : Nat) w', q < j → Below w.heap.size w w' → Sev w' b (off + q * 7) (l.getD q zero)) := Lib.hid fun q w' hq h => PkA.RdB.sev (HR.out.below h) q (by omega)
      replace hB := Lib.hid hB
      have hMs := Lib.hid (most_snoc l j hjl)
      have d := AJ.out _ hB.out
      rw [← hM] at hMs
      replace hM := Lib.hid hM
      obtain ⟨x, hx⟩ : ∃ x, x = l.getD j zero := ⟨_, rfl⟩
      rw [← hx] at hx0 hx1 hx2 hx3 AJ hMs d
      clear hx hP
      cases hR : right x with
      | false =>
        have hu : usable x = false := by unfold usable; rw [hR]; rfl
        have HMr := Lib.hid (rightR_as false x hR)
        have HM : Hid (∀ w, Calls Try.prog 78 #[val x] w fun e w' => e = .returned (.bool false) ∧ Below w.heap.size w w') := Lib.hid fun w => by have := mayR x w; rw [hu] at this; exact this
        have hP' := Lib.hid (hx0.out (by unfold WearVM.live; rw [hu]; rfl))
        have hMt : Hid (mostOf (l.take (j + 1)) = M) := Lib.hid (by rw [hMs.out]; unfold mstep; rw [if_neg (by rw [hR]; simp)])
        obtain ⟨n1, l1, p1, k1, o1, e1, b1⟩ := x
        obtain ⟨d0, d1, d2, d3, d4, d5, d6⟩ := d
        dsimp only at d0 d1 d2 d3 d4 d5 d6
        have AL : Hid (∀ w', Below w.heap.size w w' → (w'.cell? ⟨b, off + j * 7, none⟩ = some (.int .i64 n1) ∧ w'.cell? ⟨b, off + j * 7 + 1, none⟩ = some (.int .i64 l1) ∧ w'.cell? ⟨b, off + j * 7 + 2, none⟩ = some (.int .i64 p1) ∧ w'.cell? ⟨b, off + j * 7 + 3, none⟩ = some (.int .i64 k1) ∧ w'.cell? ⟨b, off + j * 7 + 4, none⟩ = some (.bool o1) ∧ w'.cell? ⟨b, off + j * 7 + 5, none⟩ = some (.bool e1) ∧ w'.cell? ⟨b, off + j * 7 + 6, none⟩ = some (.bool b1))) := Lib.hid AJ.out
        clear hx0 hx1 hx2 hx3 hu hcase AQ hR hMs
        go_wp2_with fail
        refine (HMr.out _).mono ?_
        rintro e' wD1 ⟨rfl, bD1⟩
        have D1 := Lib.hid (hB.out.trans (bD1.mono hB.out.size))
        have D0 : Hid (Below w.heap.size w wD1.drew) := Lib.hid D1.out.drew
        obtain ⟨d0, d1, d2, d3, d4, d5, d6⟩ := AJ.out _ D1.out
        dsimp only at d0 d1 d2 d3 d4 d5 d6
        clear bD1
        go_wp2_with fail
        clear d0 d1 d2 d3 d4 d5 d6
        refine wp_region_held_drew (S := fun w' => (w'.cell? ⟨b, off + j * 7, none⟩ = some (.int .i64 n1) ∧ w'.cell? ⟨b, off + j * 7 + 1, none⟩ = some (.int .i64 l1) ∧ w'.cell? ⟨b, off + j * 7 + 2, none⟩ = some (.int .i64 p1) ∧ w'.cell? ⟨b, off + j * 7 + 3, none⟩ = some (.int .i64 k1) ∧ w'.cell? ⟨b, off + j * 7 + 4, none⟩ = some (.bool o1) ∧ w'.cell? ⟨b, off + j * 7 + 5, none⟩ = some (.bool e1) ∧ w'.cell? ⟨b, off + j * 7 + 6, none⟩ = some (.bool b1))) (by kernel_rfl) (AL.out _ D0.out) (fun hS => ?_)
        try simp only [List.size_toArray, List.length_cons, List.length_nil, Nat.reduceAdd]
        refine tk 0 (v := ?_) (by simp only [List.getElem?_toArray, List.getElem?_cons_succ, List.getElem?_cons_zero]; rfl) (by kernel_rfl) (by exact fun _ _ _ h => h) (by rfl) hS ?_ ?_
        rotate_left; · (intro w hSw; go_simp; try with_reducible rfl)
        try simp only [Act.put, List.setIfInBounds_toArray, List.set_cons_zero, List.set_cons_succ]
        refine tk 1 (v := ?_) (by simp only [List.getElem?_toArray, List.getElem?_cons_succ, List.getElem?_cons_zero]; rfl) (by kernel_rfl) (by exact fun _ _ _ h => h) (by rfl) hS ?_ ?_
        rotate_left; · (intro w hSw; go_simp; try with_reducible rfl)
        try simp only [Act.put, List.setIfInBounds_toArray, List.set_cons_zero, List.set_cons_succ]
        refine tk 2 (v := ?_) (by simp only [List.getElem?_toArray, List.getElem?_cons_succ, List.getElem?_cons_zero]; rfl) (by kernel_rfl) (by exact fun _ _ _ h => h) (by rfl) hS ?_ ?_
        rotate_left; · (intro w hSw; go_simp; try with_reducible rfl)
        try simp only [Act.put, List.setIfInBounds_toArray, List.set_cons_zero, List.set_cons_succ]
        refine tk 3 (v := ?_) (by simp only [List.getElem?_toArray, List.getElem?_cons_succ, List.getElem?_cons_zero]; rfl) (by kernel_rfl) (by exact fun _ _ _ h => h) (by rfl) hS ?_ ?_
        rotate_left; · (intro w hSw; go_simp; try with_reducible rfl)
        try simp only [Act.put, List.setIfInBounds_toArray, List.set_cons_zero, List.set_cons_succ]
        refine wpAnyH_ready (rs := [4]) (by kernel_rfl) (by simp) ?_
        refine AllReadyH.cons (by simp only [List.getElem?_toArray, List.getElem?_cons_succ, List.getElem?_cons_zero]; rfl) (fun K hK => ?_) AllReadyH.nil
        go_simp
        go_at_call 78
        refine (HM.out _).mono ?_
        rintro e' wD2 ⟨rfl, bD2⟩
        have D2 : Hid (Below w.heap.size w wD2) := Lib.hid (D0.out.trans (bD2.mono D0.out.size))
        clear bD2
        refine hK.out _ _ (AL.out _ D2.out) (fun hS => ?_)
        clear hK K
        try simp only [Act.put, List.setIfInBounds_toArray, List.set_cons_zero, List.set_cons_succ]
        refine tk 5 (v := ?_) (by simp only [List.getElem?_toArray, List.getElem?_cons_succ, List.getElem?_cons_zero]; rfl) (by kernel_rfl) (by exact fun _ _ _ h => h) (by rfl) hS ?_ ?_
        rotate_left; · (intro w hSw; go_simp; try with_reducible rfl)
        try simp only [Act.put, List.setIfInBounds_toArray, List.set_cons_zero, List.set_cons_succ]
        refine skips (by kernel_rfl) (by exact fun _ _ _ _ h => h) [(6, 48), (7, 49), (8, 50), (9, 51), (10, 52), (11, 53)] 44 50 _ _ _ rfl (by kernel_rfl) hS ?_
        simp only [skL, skA, Act.put, List.setIfInBounds_toArray, List.set_cons_zero, List.set_cons_succ]
        refine tk 12 (v := ?_) (by simp only [List.getElem?_toArray, List.getElem?_cons_succ, List.getElem?_cons_zero]; rfl) (by kernel_rfl) (by exact fun _ _ _ h => h) (by rfl) hS ?_ ?_
        rotate_left; · (intro w hSw; go_simp; try with_reducible rfl)
        try simp only [Act.put, List.setIfInBounds_toArray, List.set_cons_zero, List.set_cons_succ]
        refine tk 13 (v := ?_) (by simp only [List.getElem?_toArray, List.getElem?_cons_succ, List.getElem?_cons_zero]; rfl) (by kernel_rfl) (by exact fun _ _ _ h => h) (by rfl) hS ?_ ?_
        rotate_left; · (intro w hSw; go_simp; try with_reducible rfl)
        try simp only [Act.put, List.setIfInBounds_toArray, List.set_cons_zero, List.set_cons_succ]
        refine skips (by kernel_rfl) (by exact fun _ _ _ _ h => h) [(14, 56), (15, 57), (16, 58), (17, 59), (18, 60), (19, 61), (20, 62), (21, 63), (22, 64), (23, 65), (24, 66), (25, 67), (26, 68), (27, 69), (28, 70), (29, 71), (30, 72), (31, 73), (32, 74), (33, 75), (34, 76), (35, 77), (36, 78), (37, 79), (38, 80), (39, 81), (40, 82), (41, 83), (42, 84), (43, 85), (44, 86), (45, 87), (46, 88), (47, 89), (48, 90), (49, 91), (50, 92), (51, 93), (52, 94), (53, 95), (54, 96)] 1 42 _ _ _ rfl (by kernel_rfl) hS ?_
        simp only [skL, skA, Act.put, List.setIfInBounds_toArray, List.set_cons_zero, List.set_cons_succ]
        refine tk 55 (v := ?_) (by simp only [List.getElem?_toArray, List.getElem?_cons_succ, List.getElem?_cons_zero]; rfl) (by kernel_rfl) (by exact fun _ _ _ h => h) (by rfl) hS ?_ ?_
        rotate_left; · (intro w hSw; go_simp; try with_reducible rfl)
        try simp only [Act.put, List.setIfInBounds_toArray, List.set_cons_zero, List.set_cons_succ]
        refine wpAnyH_done (by kernel_rfl) ?_ _
        go_wp2
        go_roundw
        case rel => exact ⟨j + 1, kk, M, by omega, by go_num, rfl, rfl, hP'.out, hMt.out.symm, D2.out⟩
        case measure => simp [intOf] <;> omega
      | true =>
        have HMr := Lib.hid (rightR_as true x hR)
        cases hbad : x.bad with
        | true =>
          have hu : usable x = false := by unfold usable; rw [hR, hbad]; simp
          have HM : Hid (∀ w, Calls Try.prog 78 #[val x] w fun e w' => e = .returned (.bool false) ∧ Below w.heap.size w w') := Lib.hid fun w => by have := mayR x w; rw [hu] at this; exact this
          have hP' := Lib.hid (hx0.out (by unfold WearVM.live; rw [hu]; rfl))
          have hMt : Hid (mostOf (l.take (j + 1)) = M) := Lib.hid (by rw [hMs.out]; unfold mstep; rw [if_neg (by rw [hbad]; simp)])
          obtain ⟨n1, l1, p1, k1, o1, e1, b1⟩ := x
          dsimp only at hbad
          subst hbad
          obtain ⟨d0, d1, d2, d3, d4, d5, d6⟩ := d
          dsimp only at d0 d1 d2 d3 d4 d5 d6
          have AL : Hid (∀ w', Below w.heap.size w w' → (w'.cell? ⟨b, off + j * 7, none⟩ = some (.int .i64 n1) ∧ w'.cell? ⟨b, off + j * 7 + 1, none⟩ = some (.int .i64 l1) ∧ w'.cell? ⟨b, off + j * 7 + 2, none⟩ = some (.int .i64 p1) ∧ w'.cell? ⟨b, off + j * 7 + 3, none⟩ = some (.int .i64 k1) ∧ w'.cell? ⟨b, off + j * 7 + 4, none⟩ = some (.bool o1) ∧ w'.cell? ⟨b, off + j * 7 + 5, none⟩ = some (.bool e1) ∧ w'.cell? ⟨b, off + j * 7 + 6, none⟩ = some (.bool true))) := Lib.hid AJ.out
          clear hx0 hx1 hx2 hx3 hu hcase AQ hR hMs
          go_wp2_with fail
          refine (HMr.out _).mono ?_
          rintro e' wD1 ⟨rfl, bD1⟩
          have D1 := Lib.hid (hB.out.trans (bD1.mono hB.out.size))
          have D0 : Hid (Below w.heap.size w wD1.drew) := Lib.hid D1.out.drew
          obtain ⟨d0, d1, d2, d3, d4, d5, d6⟩ := AJ.out _ D1.out
          dsimp only at d0 d1 d2 d3 d4 d5 d6
          clear bD1
          go_wp2_with fail
          clear d0 d1 d2 d3 d4 d5 d6
          refine wp_region_held_drew (S := fun w' => (w'.cell? ⟨b, off + j * 7, none⟩ = some (.int .i64 n1) ∧ w'.cell? ⟨b, off + j * 7 + 1, none⟩ = some (.int .i64 l1) ∧ w'.cell? ⟨b, off + j * 7 + 2, none⟩ = some (.int .i64 p1) ∧ w'.cell? ⟨b, off + j * 7 + 3, none⟩ = some (.int .i64 k1) ∧ w'.cell? ⟨b, off + j * 7 + 4, none⟩ = some (.bool o1) ∧ w'.cell? ⟨b, off + j * 7 + 5, none⟩ = some (.bool e1) ∧ w'.cell? ⟨b, off + j * 7 + 6, none⟩ = some (.bool true))) (by kernel_rfl) (AL.out _ D0.out) (fun hS => ?_)
          try simp only [List.size_toArray, List.length_cons, List.length_nil, Nat.reduceAdd]
          refine tk 0 (v := ?_) (by simp only [List.getElem?_toArray, List.getElem?_cons_succ, List.getElem?_cons_zero]; rfl) (by kernel_rfl) (by exact fun _ _ _ h => h) (by rfl) hS ?_ ?_
          rotate_left; · (intro w hSw; go_simp; try with_reducible rfl)
          try simp only [Act.put, List.setIfInBounds_toArray, List.set_cons_zero, List.set_cons_succ]
          refine tk 1 (v := ?_) (by simp only [List.getElem?_toArray, List.getElem?_cons_succ, List.getElem?_cons_zero]; rfl) (by kernel_rfl) (by exact fun _ _ _ h => h) (by rfl) hS ?_ ?_
          rotate_left; · (intro w hSw; go_simp; try with_reducible rfl)
          try simp only [Act.put, List.setIfInBounds_toArray, List.set_cons_zero, List.set_cons_succ]
          refine tk 2 (v := ?_) (by simp only [List.getElem?_toArray, List.getElem?_cons_succ, List.getElem?_cons_zero]; rfl) (by kernel_rfl) (by exact fun _ _ _ h => h) (by rfl) hS ?_ ?_
          rotate_left; · (intro w hSw; go_simp; try with_reducible rfl)
          try simp only [Act.put, List.setIfInBounds_toArray, List.set_cons_zero, List.set_cons_succ]
          refine tk 3 (v := ?_) (by simp only [List.getElem?_toArray, List.getElem?_cons_succ, List.getElem?_cons_zero]; rfl) (by kernel_rfl) (by exact fun _ _ _ h => h) (by rfl) hS ?_ ?_
          rotate_left; · (intro w hSw; go_simp; try with_reducible rfl)
          try simp only [Act.put, List.setIfInBounds_toArray, List.set_cons_zero, List.set_cons_succ]
          refine wpAnyH_ready (rs := [4]) (by kernel_rfl) (by simp) ?_
          refine AllReadyH.cons (by simp only [List.getElem?_toArray, List.getElem?_cons_succ, List.getElem?_cons_zero]; rfl) (fun K hK => ?_) AllReadyH.nil
          go_simp
          go_at_call 78
          refine (HM.out _).mono ?_
          rintro e' wD2 ⟨rfl, bD2⟩
          have D2 : Hid (Below w.heap.size w wD2) := Lib.hid (D0.out.trans (bD2.mono D0.out.size))
          clear bD2
          refine hK.out _ _ (AL.out _ D2.out) (fun hS => ?_)
          clear hK K
          try simp only [Act.put, List.setIfInBounds_toArray, List.set_cons_zero, List.set_cons_succ]
          refine tk 5 (v := ?_) (by simp only [List.getElem?_toArray, List.getElem?_cons_succ, List.getElem?_cons_zero]; rfl) (by kernel_rfl) (by exact fun _ _ _ h => h) (by rfl) hS ?_ ?_
          rotate_left; · (intro w hSw; go_simp; try with_reducible rfl)
          try simp only [Act.put, List.setIfInBounds_toArray, List.set_cons_zero, List.set_cons_succ]
          refine skips (by kernel_rfl) (by exact fun _ _ _ _ h => h) [(6, 48), (7, 49), (8, 50), (9, 51), (10, 52), (11, 53)] 44 50 _ _ _ rfl (by kernel_rfl) hS ?_
          simp only [skL, skA, Act.put, List.setIfInBounds_toArray, List.set_cons_zero, List.set_cons_succ]
          refine tk 12 (v := ?_) (by simp only [List.getElem?_toArray, List.getElem?_cons_succ, List.getElem?_cons_zero]; rfl) (by kernel_rfl) (by exact fun _ _ _ h => h) (by rfl) hS ?_ ?_
          rotate_left; · (intro w hSw; go_simp; try with_reducible rfl)
          try simp only [Act.put, List.setIfInBounds_toArray, List.set_cons_zero, List.set_cons_succ]
          refine tk 13 (v := ?_) (by simp only [List.getElem?_toArray, List.getElem?_cons_succ, List.getElem?_cons_zero]; rfl) (by kernel_rfl) (by exact fun _ _ _ h => h) (by rfl) hS ?_ ?_
          rotate_left; · (intro w hSw; go_simp; try with_reducible rfl)
          try simp only [Act.put, List.setIfInBounds_toArray, List.set_cons_zero, List.set_cons_succ]
          refine skips (by kernel_rfl) (by exact fun _ _ _ _ h => h) [(14, 56), (15, 57), (16, 58), (17, 59), (18, 60), (19, 61), (20, 62), (21, 63), (22, 64), (23, 65), (24, 66), (25, 67), (26, 68), (27, 69), (28, 70), (29, 71), (30, 72), (31, 73), (32, 74), (33, 75), (34, 76), (35, 77), (36, 78), (37, 79), (38, 80), (39, 81), (40, 82), (41, 83), (42, 84), (43, 85), (44, 86), (45, 87), (46, 88), (47, 89), (48, 90), (49, 91), (50, 92), (51, 93), (52, 94), (53, 95), (54, 96)] 1 42 _ _ _ rfl (by kernel_rfl) hS ?_
          simp only [skL, skA, Act.put, List.setIfInBounds_toArray, List.set_cons_zero, List.set_cons_succ]
          refine tk 55 (v := ?_) (by simp only [List.getElem?_toArray, List.getElem?_cons_succ, List.getElem?_cons_zero]; rfl) (by kernel_rfl) (by exact fun _ _ _ h => h) (by rfl) hS ?_ ?_
          rotate_left; · (intro w hSw; go_simp; try with_reducible rfl)
          try simp only [Act.put, List.setIfInBounds_toArray, List.set_cons_zero, List.set_cons_succ]
          refine wpAnyH_done (by kernel_rfl) ?_ _
          go_wp2
          go_roundw
          case rel => exact ⟨j + 1, kk, M, by omega, by go_num, rfl, rfl, hP'.out, hMt.out.symm, D2.out⟩
          case measure => simp [intOf] <;> omega
        | false =>
          by_cases hgt : M < x.worn
          · have hMt : Hid (mostOf (l.take (j + 1)) = x.worn) := Lib.hid (by rw [hMs.out]; unfold mstep; rw [if_pos ⟨hR, hbad⟩]; omega)
            clear hMs
            cases hopn : x.opn with
            | true =>
              have hu : usable x = false := by unfold usable; rw [hR, hopn]; rfl
              have HM : Hid (∀ w, Calls Try.prog 78 #[val x] w fun e w' => e = .returned (.bool false) ∧ Below w.heap.size w w') := Lib.hid fun w => by have := mayR x w; rw [hu] at this; exact this
              have hP' := Lib.hid (hx0.out (by unfold WearVM.live; rw [hu]; rfl))
              obtain ⟨n1, l1, p1, k1, o1, e1, b1⟩ := x
              obtain ⟨d0, d1, d2, d3, d4, d5, d6⟩ := d
              dsimp only at d0 d1 d2 d3 d4 d5 d6
              dsimp only at hbad hopn hgt hMt
              subst hbad hopn
              have AL : Hid (∀ w', Below w.heap.size w w' → (w'.cell? ⟨b, off + j * 7, none⟩ = some (.int .i64 n1) ∧ w'.cell? ⟨b, off + j * 7 + 1, none⟩ = some (.int .i64 l1) ∧ w'.cell? ⟨b, off + j * 7 + 2, none⟩ = some (.int .i64 p1) ∧ w'.cell? ⟨b, off + j * 7 + 3, none⟩ = some (.int .i64 k1) ∧ w'.cell? ⟨b, off + j * 7 + 4, none⟩ = some (.bool true) ∧ w'.cell? ⟨b, off + j * 7 + 5, none⟩ = some (.bool e1) ∧ w'.cell? ⟨b, off + j * 7 + 6, none⟩ = some (.bool false))) := Lib.hid AJ.out
              clear hx0 hx1 hx2 hx3 hu hcase AQ hR
              go_wp2_with fail
              refine (HMr.out _).mono ?_
              rintro e' wD1 ⟨rfl, bD1⟩
              have D1 := Lib.hid (hB.out.trans (bD1.mono hB.out.size))
              have D0 : Hid (Below w.heap.size w wD1.drew) := Lib.hid D1.out.drew
              obtain ⟨d0, d1, d2, d3, d4, d5, d6⟩ := AJ.out _ D1.out
              dsimp only at d0 d1 d2 d3 d4 d5 d6
              clear bD1
              go_wp2_with fail
              clear d0 d1 d2 d3 d4 d5 d6
              refine wp_region_held_drew (S := fun w' => (w'.cell? ⟨b, off + j * 7, none⟩ = some (.int .i64 n1) ∧ w'.cell? ⟨b, off + j * 7 + 1, none⟩ = some (.int .i64 l1) ∧ w'.cell? ⟨b, off + j * 7 + 2, none⟩ = some (.int .i64 p1) ∧ w'.cell? ⟨b, off + j * 7 + 3, none⟩ = some (.int .i64 k1) ∧ w'.cell? ⟨b, off + j * 7 + 4, none⟩ = some (.bool true) ∧ w'.cell? ⟨b, off + j * 7 + 5, none⟩ = some (.bool e1) ∧ w'.cell? ⟨b, off + j * 7 + 6, none⟩ = some (.bool false))) (by kernel_rfl) (AL.out _ D0.out) (fun hS => ?_)
              try simp only [List.size_toArray, List.length_cons, List.length_nil, Nat.reduceAdd]
              refine tk 0 (v := ?_) (by simp only [List.getElem?_toArray, List.getElem?_cons_succ, List.getElem?_cons_zero]; rfl) (by kernel_rfl) (by exact fun _ _ _ h => h) (by rfl) hS ?_ ?_
              rotate_left; · (intro w hSw; go_simp; try with_reducible rfl)
              try simp only [Act.put, List.setIfInBounds_toArray, List.set_cons_zero, List.set_cons_succ]
              refine tk 1 (v := ?_) (by simp only [List.getElem?_toArray, List.getElem?_cons_succ, List.getElem?_cons_zero]; rfl) (by kernel_rfl) (by exact fun _ _ _ h => h) (by rfl) hS ?_ ?_
              rotate_left; · (intro w hSw; go_simp; try with_reducible rfl)
              try simp only [Act.put, List.setIfInBounds_toArray, List.set_cons_zero, List.set_cons_succ]
              refine tk 2 (v := ?_) (by simp only [List.getElem?_toArray, List.getElem?_cons_succ, List.getElem?_cons_zero]; rfl) (by kernel_rfl) (by exact fun _ _ _ h => h) (by rfl) hS ?_ ?_
              rotate_left; · (intro w hSw; go_simp; try with_reducible rfl)
              try simp only [Act.put, List.setIfInBounds_toArray, List.set_cons_zero, List.set_cons_succ]
              refine tk 3 (v := ?_) (by simp only [List.getElem?_toArray, List.getElem?_cons_succ, List.getElem?_cons_zero]; rfl) (by kernel_rfl) (by exact fun _ _ _ h => h) (by rfl) hS ?_ ?_
              rotate_left; · (intro w hSw; go_simp; try with_reducible rfl)
              try simp only [Act.put, List.setIfInBounds_toArray, List.set_cons_zero, List.set_cons_succ]
              refine wpAnyH_ready (rs := [4]) (by kernel_rfl) (by simp) ?_
              refine AllReadyH.cons (by simp only [List.getElem?_toArray, List.getElem?_cons_succ, List.getElem?_cons_zero]; rfl) (fun K hK => ?_) AllReadyH.nil
              go_simp
              go_at_call 78
              refine (HM.out _).mono ?_
              rintro e' wD2 ⟨rfl, bD2⟩
              have D2 : Hid (Below w.heap.size w wD2) := Lib.hid (D0.out.trans (bD2.mono D0.out.size))
              clear bD2
              refine hK.out _ _ (AL.out _ D2.out) (fun hS => ?_)
              clear hK K
              try simp only [Act.put, List.setIfInBounds_toArray, List.set_cons_zero, List.set_cons_succ]
              refine tk 5 (v := ?_) (by simp only [List.getElem?_toArray, List.getElem?_cons_succ, List.getElem?_cons_zero]; rfl) (by kernel_rfl) (by exact fun _ _ _ h => h) (by rfl) hS ?_ ?_
              rotate_left; · (intro w hSw; go_simp; try with_reducible rfl)
              try simp only [Act.put, List.setIfInBounds_toArray, List.set_cons_zero, List.set_cons_succ]
              refine skips (by kernel_rfl) (by exact fun _ _ _ _ h => h) [(6, 48), (7, 49), (8, 50), (9, 51), (10, 52), (11, 53)] 44 50 _ _ _ rfl (by kernel_rfl) hS ?_
              simp only [skL, skA, Act.put, List.setIfInBounds_toArray, List.set_cons_zero, List.set_cons_succ]
              refine tk 12 (v := ?_) (by simp only [List.getElem?_toArray, List.getElem?_cons_succ, List.getElem?_cons_zero]; rfl) (by kernel_rfl) (by exact fun _ _ _ h => h) (by rfl) hS ?_ ?_
              rotate_left; · (intro w hSw; go_simp; try with_reducible rfl)
              try simp only [Act.put, List.setIfInBounds_toArray, List.set_cons_zero, List.set_cons_succ]
              refine tk 13 (v := ?_) (by simp only [List.getElem?_toArray, List.getElem?_cons_succ, List.getElem?_cons_zero]; rfl) (by kernel_rfl) (by exact fun _ _ _ h => h) (by rfl) hS ?_ ?_
              rotate_left; · (intro w hSw; go_simp; try with_reducible rfl)
              try simp only [Act.put, List.setIfInBounds_toArray, List.set_cons_zero, List.set_cons_succ]
              refine skips (by kernel_rfl) (by exact fun _ _ _ _ h => h) [(14, 56), (15, 57), (16, 58), (17, 59), (18, 60), (19, 61), (20, 62), (21, 63), (22, 64), (23, 65), (24, 66), (25, 67), (26, 68), (27, 69), (28, 70), (29, 71), (30, 72), (31, 73), (32, 74), (33, 75), (34, 76), (35, 77), (36, 78), (37, 79), (38, 80), (39, 81), (40, 82), (41, 83), (42, 84), (43, 85), (44, 86), (45, 87), (46, 88), (47, 89), (48, 90), (49, 91), (50, 92), (51, 93), (52, 94), (53, 95), (54, 96)] 1 42 _ _ _ rfl (by kernel_rfl) hS ?_
              simp only [skL, skA, Act.put, List.setIfInBounds_toArray, List.set_cons_zero, List.set_cons_succ]
              refine tk 55 (v := ?_) (by simp only [List.getElem?_toArray, List.getElem?_cons_succ, List.getElem?_cons_zero]; rfl) (by kernel_rfl) (by exact fun _ _ _ h => h) (by rfl) hS ?_ ?_
              rotate_left; · (intro w hSw; go_simp; try with_reducible rfl)
              try simp only [Act.put, List.setIfInBounds_toArray, List.set_cons_zero, List.set_cons_succ]
              refine wpAnyH_done (by kernel_rfl) ?_ _
              go_wp2
              go_roundw
              case rel => exact ⟨j + 1, kk, k1, by omega, by go_num, rfl, rfl, hP'.out, hMt.out.symm, D2.out⟩
              case measure => simp [intOf] <;> omega
            | false =>
              have hu : usable x = true := by unfold usable; rw [hR, hopn, hbad]; rfl
              have HM : Hid (∀ w, Calls Try.prog 78 #[val x] w fun e w' => e = .returned (.bool true) ∧ Below w.heap.size w w') := Lib.hid fun w => by have := mayR x w; rw [hu] at this; exact this
              by_cases hl : 0 < x.live
              case neg =>
                have hP' := Lib.hid (hx0.out (by unfold WearVM.live; rw [hu, decide_eq_false hl]; rfl))
                obtain ⟨n1, l1, p1, k1, o1, e1, b1⟩ := x
                obtain ⟨d0, d1, d2, d3, d4, d5, d6⟩ := d
                dsimp only at d0 d1 d2 d3 d4 d5 d6
                dsimp only at hbad hopn hgt hMt hl
                subst hbad hopn
                have hld : decide (0 < l1) = false := decide_eq_false hl
                have AL : Hid (∀ w', Below w.heap.size w w' → (w'.cell? ⟨b, off + j * 7, none⟩ = some (.int .i64 n1) ∧ w'.cell? ⟨b, off + j * 7 + 1, none⟩ = some (.int .i64 l1) ∧ w'.cell? ⟨b, off + j * 7 + 2, none⟩ = some (.int .i64 p1) ∧ w'.cell? ⟨b, off + j * 7 + 3, none⟩ = some (.int .i64 k1) ∧ w'.cell? ⟨b, off + j * 7 + 4, none⟩ = some (.bool false) ∧ w'.cell? ⟨b, off + j * 7 + 5, none⟩ = some (.bool e1) ∧ w'.cell? ⟨b, off + j * 7 + 6, none⟩ = some (.bool false))) := Lib.hid AJ.out
                clear hx0 hx1 hx2 hx3 hu hcase AQ hR
                go_wp2_with fail
                refine (HMr.out _).mono ?_
                rintro e' wD1 ⟨rfl, bD1⟩
                have D1 := Lib.hid (hB.out.trans (bD1.mono hB.out.size))
                have D0 : Hid (Below w.heap.size w wD1.drew) := Lib.hid D1.out.drew
                obtain ⟨d0, d1, d2, d3, d4, d5, d6⟩ := AJ.out _ D1.out
                dsimp only at d0 d1 d2 d3 d4 d5 d6
                clear bD1
                go_wp2_with fail
                clear d0 d1 d2 d3 d4 d5 d6
                refine wp_region_held_drew (S := fun w' => (w'.cell? ⟨b, off + j * 7, none⟩ = some (.int .i64 n1) ∧ w'.cell? ⟨b, off + j * 7 + 1, none⟩ = some (.int .i64 l1) ∧ w'.cell? ⟨b, off + j * 7 + 2, none⟩ = some (.int .i64 p1) ∧ w'.cell? ⟨b, off + j * 7 + 3, none⟩ = some (.int .i64 k1) ∧ w'.cell? ⟨b, off + j * 7 + 4, none⟩ = some (.bool false) ∧ w'.cell? ⟨b, off + j * 7 + 5, none⟩ = some (.bool e1) ∧ w'.cell? ⟨b, off + j * 7 + 6, none⟩ = some (.bool false))) (by kernel_rfl) (AL.out _ D0.out) (fun hS => ?_)
                try simp only [List.size_toArray, List.length_cons, List.length_nil, Nat.reduceAdd]
                refine tk 0 (v := ?_) (by simp only [List.getElem?_toArray, List.getElem?_cons_succ, List.getElem?_cons_zero]; rfl) (by kernel_rfl) (by exact fun _ _ _ h => h) (by rfl) hS ?_ ?_
                rotate_left; · (intro w hSw; go_simp; try with_reducible rfl)
                try simp only [Act.put, List.setIfInBounds_toArray, List.set_cons_zero, List.set_cons_succ]
                refine tk 1 (v := ?_) (by simp only [List.getElem?_toArray, List.getElem?_cons_succ, List.getElem?_cons_zero]; rfl) (by kernel_rfl) (by exact fun _ _ _ h => h) (by rfl) hS ?_ ?_
                rotate_left; · (intro w hSw; go_simp; try with_reducible rfl)
                try simp only [Act.put, List.setIfInBounds_toArray, List.set_cons_zero, List.set_cons_succ]
                refine tk 2 (v := ?_) (by simp only [List.getElem?_toArray, List.getElem?_cons_succ, List.getElem?_cons_zero]; rfl) (by kernel_rfl) (by exact fun _ _ _ h => h) (by rfl) hS ?_ ?_
                rotate_left; · (intro w hSw; go_simp; try with_reducible rfl)
                try simp only [Act.put, List.setIfInBounds_toArray, List.set_cons_zero, List.set_cons_succ]
                refine tk 3 (v := ?_) (by simp only [List.getElem?_toArray, List.getElem?_cons_succ, List.getElem?_cons_zero]; rfl) (by kernel_rfl) (by exact fun _ _ _ h => h) (by rfl) hS ?_ ?_
                rotate_left; · (intro w hSw; go_simp; try with_reducible rfl)
                try simp only [Act.put, List.setIfInBounds_toArray, List.set_cons_zero, List.set_cons_succ]
                refine wpAnyH_ready (rs := [4]) (by kernel_rfl) (by simp) ?_
                refine AllReadyH.cons (by simp only [List.getElem?_toArray, List.getElem?_cons_succ, List.getElem?_cons_zero]; rfl) (fun K hK => ?_) AllReadyH.nil
                go_simp
                go_at_call 78
                refine (HM.out _).mono ?_
                rintro e' wD2 ⟨rfl, bD2⟩
                have D2 : Hid (Below w.heap.size w wD2) := Lib.hid (D0.out.trans (bD2.mono D0.out.size))
                clear bD2
                refine hK.out _ _ (AL.out _ D2.out) (fun hS => ?_)
                clear hK K
                try simp only [Act.put, List.setIfInBounds_toArray, List.set_cons_zero, List.set_cons_succ]
                refine tk 5 (v := ?_) (by simp only [List.getElem?_toArray, List.getElem?_cons_succ, List.getElem?_cons_zero]; rfl) (by kernel_rfl) (by exact fun _ _ _ h => h) (by rfl) hS ?_ ?_
                rotate_left; · (intro w hSw; go_simp; try with_reducible rfl)
                try simp only [Act.put, List.setIfInBounds_toArray, List.set_cons_zero, List.set_cons_succ]
                refine tk 6 (v := ?_) (by simp only [List.getElem?_toArray, List.getElem?_cons_succ, List.getElem?_cons_zero]; rfl) (by kernel_rfl) (by exact fun _ _ _ h => h) (by rfl) hS ?_ ?_
                rotate_left; · (intro w hSw; go_simp; try with_reducible rfl)
                try simp only [Act.put, List.setIfInBounds_toArray, List.set_cons_zero, List.set_cons_succ]
                refine tk 7 (v := ?_) (by simp only [List.getElem?_toArray, List.getElem?_cons_succ, List.getElem?_cons_zero]; rfl) (by kernel_rfl) (by exact fun _ _ _ h => h) (by rfl) hS ?_ ?_
                rotate_left; · (intro w hSw; go_simp; try with_reducible rfl)
                try simp only [Act.put, List.setIfInBounds_toArray, List.set_cons_zero, List.set_cons_succ]
                refine tk 8 (v := ?_) (by simp only [List.getElem?_toArray, List.getElem?_cons_succ, List.getElem?_cons_zero]; rfl) (by kernel_rfl) (by exact fun _ _ _ h => h) (by rfl) hS ?_ ?_
                rotate_left; · (intro w hSw; go_simp; try with_reducible rfl)
                try simp only [Act.put, List.setIfInBounds_toArray, List.set_cons_zero, List.set_cons_succ]
                refine tk 9 (v := ?_) (by simp only [List.getElem?_toArray, List.getElem?_cons_succ, List.getElem?_cons_zero]; rfl) (by kernel_rfl) (by exact fun _ _ _ h => h) (by rfl) hS ?_ ?_
                rotate_left; · (intro w hSw; go_simp; try with_reducible rfl)
                try simp only [Act.put, List.setIfInBounds_toArray, List.set_cons_zero, List.set_cons_succ]
                refine tk 10 (v := ?_) (by simp only [List.getElem?_toArray, List.getElem?_cons_succ, List.getElem?_cons_zero]; rfl) (by kernel_rfl) (by exact fun _ _ _ h => h) (by rfl) hS ?_ ?_
                rotate_left; · (intro w hSw; go_simp; try with_reducible rfl)
                try simp only [Act.put, List.setIfInBounds_toArray, List.set_cons_zero, List.set_cons_succ]
                refine tk 11 (v := ?_) (by simp only [List.getElem?_toArray, List.getElem?_cons_succ, List.getElem?_cons_zero]; rfl) (by kernel_rfl) (by exact fun _ _ _ h => h) (by rfl) hS ?_ ?_
                rotate_left; · (intro w hSw; go_simp; try with_reducible rfl)
                try simp only [Act.put, List.setIfInBounds_toArray, List.set_cons_zero, List.set_cons_succ]
                refine tk 12 (v := ?_) (by simp only [List.getElem?_toArray, List.getElem?_cons_succ, List.getElem?_cons_zero]; rfl) (by kernel_rfl) (by exact fun _ _ _ h => h) (by rfl) hS ?_ ?_
                rotate_left; · (intro w hSw; go_simp; try with_reducible rfl)
                try simp only [Act.put, List.setIfInBounds_toArray, List.set_cons_zero, List.set_cons_succ]
                refine tk 13 (v := ?_) (by simp only [List.getElem?_toArray, List.getElem?_cons_succ, List.getElem?_cons_zero]; rfl) (by kernel_rfl) (by exact fun _ _ _ h => h) (by rfl) hS ?_ ?_
                rotate_left; · (intro w hSw; go_simp; try with_reducible rfl)
                try simp only [Act.put, List.setIfInBounds_toArray, List.set_cons_zero, List.set_cons_succ]
                refine skips (by kernel_rfl) (by exact fun _ _ _ _ h => h) [(14, 56), (15, 57), (16, 58), (17, 59), (18, 60), (19, 61), (20, 62), (21, 63), (22, 64), (23, 65), (24, 66), (25, 67), (26, 68), (27, 69), (28, 70), (29, 71), (30, 72), (31, 73), (32, 74), (33, 75), (34, 76), (35, 77), (36, 78), (37, 79), (38, 80), (39, 81), (40, 82), (41, 83), (42, 84), (43, 85), (44, 86), (45, 87), (46, 88), (47, 89), (48, 90), (49, 91), (50, 92), (51, 93), (52, 94), (53, 95), (54, 96)] 1 42 _ _ _ rfl (by kernel_rfl) hS ?_
                simp only [skL, skA, Act.put, List.setIfInBounds_toArray, List.set_cons_zero, List.set_cons_succ]
                refine tk 55 (v := ?_) (by simp only [List.getElem?_toArray, List.getElem?_cons_succ, List.getElem?_cons_zero]; rfl) (by kernel_rfl) (by exact fun _ _ _ h => h) (by rfl) hS ?_ ?_
                rotate_left; · (intro w hSw; go_simp; try with_reducible rfl)
                try simp only [Act.put, List.setIfInBounds_toArray, List.set_cons_zero, List.set_cons_succ]
                refine wpAnyH_done (by kernel_rfl) ?_ _
                go_wp2
                go_roundw
                case rel => exact ⟨j + 1, kk, k1, by omega, by go_num, rfl, rfl, hP'.out, hMt.out.symm, D2.out⟩
                case measure => simp [intOf] <;> omega
              have he : WearVM.live x = true := by unfold WearVM.live; rw [hu, decide_eq_true hl]; rfl
              rcases hcase with ⟨rfl, _⟩ | ⟨q, rfl, hqj, hq3, hq4, _⟩
              · have hP' := Lib.hid (hx1.out he rfl)
                obtain ⟨n1, l1, p1, k1, o1, e1, b1⟩ := x
                obtain ⟨d0, d1, d2, d3, d4, d5, d6⟩ := d
                dsimp only at d0 d1 d2 d3 d4 d5 d6
                dsimp only at hbad hopn hgt hMt hl
                subst hbad hopn
                have hld : decide (0 < l1) = true := decide_eq_true hl
                have AL : Hid (∀ w', Below w.heap.size w w' → (w'.cell? ⟨b, off + j * 7, none⟩ = some (.int .i64 n1) ∧ w'.cell? ⟨b, off + j * 7 + 1, none⟩ = some (.int .i64 l1) ∧ w'.cell? ⟨b, off + j * 7 + 2, none⟩ = some (.int .i64 p1) ∧ w'.cell? ⟨b, off + j * 7 + 3, none⟩ = some (.int .i64 k1) ∧ w'.cell? ⟨b, off + j * 7 + 4, none⟩ = some (.bool false) ∧ w'.cell? ⟨b, off + j * 7 + 5, none⟩ = some (.bool e1) ∧ w'.cell? ⟨b, off + j * 7 + 6, none⟩ = some (.bool false))) := Lib.hid AJ.out
                clear hx0 hx1 hx2 hx3 hu AQ hR he
                go_wp2_with fail
                refine (HMr.out _).mono ?_
                rintro e' wD1 ⟨rfl, bD1⟩
                have D1 := Lib.hid (hB.out.trans (bD1.mono hB.out.size))
                have D0 : Hid (Below w.heap.size w wD1.drew) := Lib.hid D1.out.drew
                obtain ⟨d0, d1, d2, d3, d4, d5, d6⟩ := AJ.out _ D1.out
                dsimp only at d0 d1 d2 d3 d4 d5 d6
                clear bD1
                go_wp2_with fail
                clear d0 d1 d2 d3 d4 d5 d6
                refine wp_region_held_drew (S := fun w' => (w'.cell? ⟨b, off + j * 7, none⟩ = some (.int .i64 n1) ∧ w'.cell? ⟨b, off + j * 7 + 1, none⟩ = some (.int .i64 l1) ∧ w'.cell? ⟨b, off + j * 7 + 2, none⟩ = some (.int .i64 p1) ∧ w'.cell? ⟨b, off + j * 7 + 3, none⟩ = some (.int .i64 k1) ∧ w'.cell? ⟨b, off + j * 7 + 4, none⟩ = some (.bool false) ∧ w'.cell? ⟨b, off + j * 7 + 5, none⟩ = some (.bool e1) ∧ w'.cell? ⟨b, off + j * 7 + 6, none⟩ = some (.bool false))) (by kernel_rfl) (AL.out _ D0.out) (fun hS => ?_)
                try simp only [List.size_toArray, List.length_cons, List.length_nil, Nat.reduceAdd]
                refine tk 0 (v := ?_) (by simp only [List.getElem?_toArray, List.getElem?_cons_succ, List.getElem?_cons_zero]; rfl) (by kernel_rfl) (by exact fun _ _ _ h => h) (by rfl) hS ?_ ?_
                rotate_left; · (intro w hSw; go_simp; try with_reducible rfl)
                try simp only [Act.put, List.setIfInBounds_toArray, List.set_cons_zero, List.set_cons_succ]
                refine tk 1 (v := ?_) (by simp only [List.getElem?_toArray, List.getElem?_cons_succ, List.getElem?_cons_zero]; rfl) (by kernel_rfl) (by exact fun _ _ _ h => h) (by rfl) hS ?_ ?_
                rotate_left; · (intro w hSw; go_simp; try with_reducible rfl)
                try simp only [Act.put, List.setIfInBounds_toArray, List.set_cons_zero, List.set_cons_succ]
                refine tk 2 (v := ?_) (by simp only [List.getElem?_toArray, List.getElem?_cons_succ, List.getElem?_cons_zero]; rfl) (by kernel_rfl) (by exact fun _ _ _ h => h) (by rfl) hS ?_ ?_
                rotate_left; · (intro w hSw; go_simp; try with_reducible rfl)
                try simp only [Act.put, List.setIfInBounds_toArray, List.set_cons_zero, List.set_cons_succ]
                refine tk 3 (v := ?_) (by simp only [List.getElem?_toArray, List.getElem?_cons_succ, List.getElem?_cons_zero]; rfl) (by kernel_rfl) (by exact fun _ _ _ h => h) (by rfl) hS ?_ ?_
                rotate_left; · (intro w hSw; go_simp; try with_reducible rfl)
                try simp only [Act.put, List.setIfInBounds_toArray, List.set_cons_zero, List.set_cons_succ]
                refine wpAnyH_ready (rs := [4]) (by kernel_rfl) (by simp) ?_
                refine AllReadyH.cons (by simp only [List.getElem?_toArray, List.getElem?_cons_succ, List.getElem?_cons_zero]; rfl) (fun K hK => ?_) AllReadyH.nil
                go_simp
                go_at_call 78
                refine (HM.out _).mono ?_
                rintro e' wD2 ⟨rfl, bD2⟩
                have D2 : Hid (Below w.heap.size w wD2) := Lib.hid (D0.out.trans (bD2.mono D0.out.size))
                clear bD2
                refine hK.out _ _ (AL.out _ D2.out) (fun hS => ?_)
                clear hK K
                try simp only [Act.put, List.setIfInBounds_toArray, List.set_cons_zero, List.set_cons_succ]
                refine tk 5 (v := ?_) (by simp only [List.getElem?_toArray, List.getElem?_cons_succ, List.getElem?_cons_zero]; rfl) (by kernel_rfl) (by exact fun _ _ _ h => h) (by rfl) hS ?_ ?_
                rotate_left; · (intro w hSw; go_simp; try with_reducible rfl)
                try simp only [Act.put, List.setIfInBounds_toArray, List.set_cons_zero, List.set_cons_succ]
                refine tk 6 (v := ?_) (by simp only [List.getElem?_toArray, List.getElem?_cons_succ, List.getElem?_cons_zero]; rfl) (by kernel_rfl) (by exact fun _ _ _ h => h) (by rfl) hS ?_ ?_
                rotate_left; · (intro w hSw; go_simp; try with_reducible rfl)
                try simp only [Act.put, List.setIfInBounds_toArray, List.set_cons_zero, List.set_cons_succ]
                refine tk 7 (v := ?_) (by simp only [List.getElem?_toArray, List.getElem?_cons_succ, List.getElem?_cons_zero]; rfl) (by kernel_rfl) (by exact fun _ _ _ h => h) (by rfl) hS ?_ ?_
                rotate_left; · (intro w hSw; go_simp; try with_reducible rfl)
                try simp only [Act.put, List.setIfInBounds_toArray, List.set_cons_zero, List.set_cons_succ]
                refine tk 8 (v := ?_) (by simp only [List.getElem?_toArray, List.getElem?_cons_succ, List.getElem?_cons_zero]; rfl) (by kernel_rfl) (by exact fun _ _ _ h => h) (by rfl) hS ?_ ?_
                rotate_left; · (intro w hSw; go_simp; try with_reducible rfl)
                try simp only [Act.put, List.setIfInBounds_toArray, List.set_cons_zero, List.set_cons_succ]
                refine tk 9 (v := ?_) (by simp only [List.getElem?_toArray, List.getElem?_cons_succ, List.getElem?_cons_zero]; rfl) (by kernel_rfl) (by exact fun _ _ _ h => h) (by rfl) hS ?_ ?_
                rotate_left; · (intro w hSw; go_simp; try with_reducible rfl)
                try simp only [Act.put, List.setIfInBounds_toArray, List.set_cons_zero, List.set_cons_succ]
                refine tk 10 (v := ?_) (by simp only [List.getElem?_toArray, List.getElem?_cons_succ, List.getElem?_cons_zero]; rfl) (by kernel_rfl) (by exact fun _ _ _ h => h) (by rfl) hS ?_ ?_
                rotate_left; · (intro w hSw; go_simp; try with_reducible rfl)
                try simp only [Act.put, List.setIfInBounds_toArray, List.set_cons_zero, List.set_cons_succ]
                refine tk 11 (v := ?_) (by simp only [List.getElem?_toArray, List.getElem?_cons_succ, List.getElem?_cons_zero]; rfl) (by kernel_rfl) (by exact fun _ _ _ h => h) (by rfl) hS ?_ ?_
                rotate_left; · (intro w hSw; go_simp; try with_reducible rfl)
                try simp only [Act.put, List.setIfInBounds_toArray, List.set_cons_zero, List.set_cons_succ]
                refine tk 12 (v := ?_) (by simp only [List.getElem?_toArray, List.getElem?_cons_succ, List.getElem?_cons_zero]; rfl) (by kernel_rfl) (by exact fun _ _ _ h => h) (by rfl) hS ?_ ?_
                rotate_left; · (intro w hSw; go_simp; try with_reducible rfl)
                try simp only [Act.put, List.setIfInBounds_toArray, List.set_cons_zero, List.set_cons_succ]
                refine tk 13 (v := ?_) (by simp only [List.getElem?_toArray, List.getElem?_cons_succ, List.getElem?_cons_zero]; rfl) (by kernel_rfl) (by exact fun _ _ _ h => h) (by rfl) hS ?_ ?_
                rotate_left; · (intro w hSw; go_simp; try with_reducible rfl)
                try simp only [Act.put, List.setIfInBounds_toArray, List.set_cons_zero, List.set_cons_succ]
                refine tk 14 (v := ?_) (by simp only [List.getElem?_toArray, List.getElem?_cons_succ, List.getElem?_cons_zero]; rfl) (by kernel_rfl) (by exact fun _ _ _ h => h) (by rfl) hS ?_ ?_
                rotate_left; · (intro w hSw; go_simp; try with_reducible rfl)
                try simp only [Act.put, List.setIfInBounds_toArray, List.set_cons_zero, List.set_cons_succ]
                refine tk 15 (v := ?_) (by simp only [List.getElem?_toArray, List.getElem?_cons_succ, List.getElem?_cons_zero]; rfl) (by kernel_rfl) (by exact fun _ _ _ h => h) (by rfl) hS ?_ ?_
                rotate_left; · (intro w hSw; go_simp; try with_reducible rfl)
                try simp only [Act.put, List.setIfInBounds_toArray, List.set_cons_zero, List.set_cons_succ]
                refine tk 16 (v := ?_) (by simp only [List.getElem?_toArray, List.getElem?_cons_succ, List.getElem?_cons_zero]; rfl) (by kernel_rfl) (by exact fun _ _ _ h => h) (by rfl) hS ?_ ?_
                rotate_left; · (intro w hSw; go_simp; try with_reducible rfl)
                try simp only [Act.put, List.setIfInBounds_toArray, List.set_cons_zero, List.set_cons_succ]
                refine skips (by kernel_rfl) (by exact fun _ _ _ _ h => h) [(17, 59), (18, 60), (19, 61), (20, 62), (21, 63), (22, 64), (23, 65), (24, 66), (25, 67), (26, 68), (27, 69)] 28 39 _ _ _ rfl (by kernel_rfl) hS ?_
                simp only [skL, skA, Act.put, List.setIfInBounds_toArray, List.set_cons_zero, List.set_cons_succ]
                refine tk 28 (v := ?_) (by simp only [List.getElem?_toArray, List.getElem?_cons_succ, List.getElem?_cons_zero]; rfl) (by kernel_rfl) (by exact fun _ _ _ h => h) (by rfl) hS ?_ ?_
                rotate_left; · (intro w hSw; go_simp; try with_reducible rfl)
                try simp only [Act.put, List.setIfInBounds_toArray, List.set_cons_zero, List.set_cons_succ]
                refine tk 29 (v := ?_) (by simp only [List.getElem?_toArray, List.getElem?_cons_succ, List.getElem?_cons_zero]; rfl) (by kernel_rfl) (by exact fun _ _ _ h => h) (by rfl) hS ?_ ?_
                rotate_left; · (intro w hSw; go_simp; try with_reducible rfl)
                try simp only [Act.put, List.setIfInBounds_toArray, List.set_cons_zero, List.set_cons_succ]
                refine skips (by kernel_rfl) (by exact fun _ _ _ _ h => h) [(30, 72), (31, 73), (32, 74), (33, 75), (34, 76), (35, 77), (36, 78), (37, 79), (38, 80), (39, 81), (40, 82), (41, 83), (42, 84), (43, 85), (44, 86), (45, 87), (46, 88), (47, 89), (48, 90), (49, 91), (50, 92), (51, 93), (52, 94), (53, 95)] 2 26 _ _ _ rfl (by kernel_rfl) hS ?_
                simp only [skL, skA, Act.put, List.setIfInBounds_toArray, List.set_cons_zero, List.set_cons_succ]
                refine tk 54 (v := ?_) (by simp only [List.getElem?_toArray, List.getElem?_cons_succ, List.getElem?_cons_zero]; rfl) (by kernel_rfl) (by exact fun _ _ _ h => h) (by rfl) hS ?_ ?_
                rotate_left; · (intro w hSw; go_simp; try with_reducible rfl)
                try simp only [Act.put, List.setIfInBounds_toArray, List.set_cons_zero, List.set_cons_succ]
                refine tk 55 (v := ?_) (by simp only [List.getElem?_toArray, List.getElem?_cons_succ, List.getElem?_cons_zero]; rfl) (by kernel_rfl) (by exact fun _ _ _ h => h) (by rfl) hS ?_ ?_
                rotate_left; · (intro w hSw; go_simp; try with_reducible rfl)
                try simp only [Act.put, List.setIfInBounds_toArray, List.set_cons_zero, List.set_cons_succ]
                refine wpAnyH_done (by kernel_rfl) ?_ _
                go_wp2
                go_roundw
                case rel => exact ⟨j + 1, j, k1, by omega, by go_num, rfl, rfl, hP'.out, hMt.out.symm, D2.out⟩
                case measure => simp [intOf] <;> omega
              · have hqi : ¬ ((q : Int) < 0) := by omega
                have hqn : (q : Int) < (n : Int) := by omega
                have hqd : decide ((q : Int) < 0) = false := decide_eq_false hqi
                have hxy := Lib.hid (hx2.out q he rfl)
                have hxn := Lib.hid (hx3.out q he rfl)
                replace AQ := Lib.hid (fun w' h => AQ.out q w' hqj h)
                obtain ⟨y, hy⟩ : ∃ y, y = l.getD q zero := ⟨_, rfl⟩
                rw [← hy] at hxy hxn AQ
                clear hy hq3 hq4 hx0 hx1 hx2 hx3 hu he hR
                obtain ⟨n1, l1, p1, k1, o1, e1, b1⟩ := x
                obtain ⟨d0, d1, d2, d3, d4, d5, d6⟩ := d
                dsimp only at d0 d1 d2 d3 d4 d5 d6
                obtain ⟨n2, l2, p2, k2, o2, e2, b2⟩ := y
                dsimp only at hbad hopn hgt hMt hl
                subst hbad hopn
                have hld : decide (0 < l1) = true := decide_eq_true hl
                by_cases hw1 : k1 = k2
                · subst hw1
                  have hwl : decide (k1 < k1) = false := decide_eq_false (by omega)
                  have hwe : (k1 == k1) = true := by simp
                  by_cases hn1 : n1 < n2
                  · have hnd : decide (n1 < n2) = true := decide_eq_true hn1
                    have hP' := Lib.hid (hxy.out (by unfold lessWorn; rw [if_pos rfl]; exact hnd))
                    have AL : Hid (∀ w', Below w.heap.size w w' → (w'.cell? ⟨b, off + j * 7, none⟩ = some (.int .i64 n1) ∧ w'.cell? ⟨b, off + j * 7 + 1, none⟩ = some (.int .i64 l1) ∧ w'.cell? ⟨b, off + j * 7 + 2, none⟩ = some (.int .i64 p1) ∧ w'.cell? ⟨b, off + j * 7 + 3, none⟩ = some (.int .i64 k1) ∧ w'.cell? ⟨b, off + j * 7 + 4, none⟩ = some (.bool false) ∧ w'.cell? ⟨b, off + j * 7 + 5, none⟩ = some (.bool e1) ∧ w'.cell? ⟨b, off + j * 7 + 6, none⟩ = some (.bool false)) ∧ (w'.cell? ⟨b, off + q * 7, none⟩ = some (.int .i64 n2) ∧ w'.cell? ⟨b, off + q * 7 + 1, none⟩ = some (.int .i64 l2) ∧ w'.cell? ⟨b, off + q * 7 + 2, none⟩ = some (.int .i64 p2) ∧ w'.cell? ⟨b, off + q * 7 + 3, none⟩ = some (.int .i64 k1) ∧ w'.cell? ⟨b, off + q * 7 + 4, none⟩ = some (.bool o2) ∧ w'.cell? ⟨b, off + q * 7 + 5, none⟩ = some (.bool e2) ∧ w'.cell? ⟨b, off + q * 7 + 6, none⟩ = some (.bool b2))) := Lib.hid fun w' h => ⟨AJ.out w' h, AQ.out w' h⟩
                    clear hxy hxn AQ
                    go_wp2_with fail
                    refine (HMr.out _).mono ?_
                    rintro e' wD1 ⟨rfl, bD1⟩
                    have D1 := Lib.hid (hB.out.trans (bD1.mono hB.out.size))
                    have D0 : Hid (Below w.heap.size w wD1.drew) := Lib.hid D1.out.drew
                    obtain ⟨d0, d1, d2, d3, d4, d5, d6⟩ := AJ.out _ D1.out
                    dsimp only at d0 d1 d2 d3 d4 d5 d6
                    clear bD1
                    go_wp2_with fail
                    clear d0 d1 d2 d3 d4 d5 d6
                    refine wp_region_held_drew (S := fun w' => (w'.cell? ⟨b, off + j * 7, none⟩ = some (.int .i64 n1) ∧ w'.cell? ⟨b, off + j * 7 + 1, none⟩ = some (.int .i64 l1) ∧ w'.cell? ⟨b, off + j * 7 + 2, none⟩ = some (.int .i64 p1) ∧ w'.cell? ⟨b, off + j * 7 + 3, none⟩ = some (.int .i64 k1) ∧ w'.cell? ⟨b, off + j * 7 + 4, none⟩ = some (.bool false) ∧ w'.cell? ⟨b, off + j * 7 + 5, none⟩ = some (.bool e1) ∧ w'.cell? ⟨b, off + j * 7 + 6, none⟩ = some (.bool false)) ∧ (w'.cell? ⟨b, off + q * 7, none⟩ = some (.int .i64 n2) ∧ w'.cell? ⟨b, off + q * 7 + 1, none⟩ = some (.int .i64 l2) ∧ w'.cell? ⟨b, off + q * 7 + 2, none⟩ = some (.int .i64 p2) ∧ w'.cell? ⟨b, off + q * 7 + 3, none⟩ = some (.int .i64 k1) ∧ w'.cell? ⟨b, off + q * 7 + 4, none⟩ = some (.bool o2) ∧ w'.cell? ⟨b, off + q * 7 + 5, none⟩ = some (.bool e2) ∧ w'.cell? ⟨b, off + q * 7 + 6, none⟩ = some (.bool b2))) (by kernel_rfl) (AL.out _ D0.out) (fun hS => ?_)
                    try simp only [List.size_toArray, List.length_cons, List.length_nil, Nat.reduceAdd]
                    refine tk 0 (v := ?_) (by simp only [List.getElem?_toArray, List.getElem?_cons_succ, List.getElem?_cons_zero]; rfl) (by kernel_rfl) (by exact fun _ _ _ h => h) (by rfl) hS ?_ ?_
                    rotate_left; · (intro w hSw; go_simp; try with_reducible rfl)
                    try simp only [Act.put, List.setIfInBounds_toArray, List.set_cons_zero, List.set_cons_succ]
                    refine tk 1 (v := ?_) (by simp only [List.getElem?_toArray, List.getElem?_cons_succ, List.getElem?_cons_zero]; rfl) (by kernel_rfl) (by exact fun _ _ _ h => h) (by rfl) hS ?_ ?_
                    rotate_left; · (intro w hSw; go_simp; try with_reducible rfl)
                    try simp only [Act.put, List.setIfInBounds_toArray, List.set_cons_zero, List.set_cons_succ]
                    refine tk 2 (v := ?_) (by simp only [List.getElem?_toArray, List.getElem?_cons_succ, List.getElem?_cons_zero]; rfl) (by kernel_rfl) (by exact fun _ _ _ h => h) (by rfl) hS ?_ ?_
                    rotate_left; · (intro w hSw; go_simp; try with_reducible rfl)
                    try simp only [Act.put, List.setIfInBounds_toArray, List.set_cons_zero, List.set_cons_succ]
                    refine tk 3 (v := ?_) (by simp only [List.getElem?_toArray, List.getElem?_cons_succ, List.getElem?_cons_zero]; rfl) (by kernel_rfl) (by exact fun _ _ _ h => h) (by rfl) hS ?_ ?_
                    rotate_left; · (intro w hSw; go_simp; try with_reducible rfl)
                    try simp only [Act.put, List.setIfInBounds_toArray, List.set_cons_zero, List.set_cons_succ]
                    refine wpAnyH_ready (rs := [4]) (by kernel_rfl) (by simp) ?_
                    refine AllReadyH.cons (by simp only [List.getElem?_toArray, List.getElem?_cons_succ, List.getElem?_cons_zero]; rfl) (fun K hK => ?_) AllReadyH.nil
                    go_simp
                    go_at_call 78
                    refine (HM.out _).mono ?_
                    rintro e' wD2 ⟨rfl, bD2⟩
                    have D2 : Hid (Below w.heap.size w wD2) := Lib.hid (D0.out.trans (bD2.mono D0.out.size))
                    clear bD2
                    refine hK.out _ _ (AL.out _ D2.out) (fun hS => ?_)
                    clear hK K
                    try simp only [Act.put, List.setIfInBounds_toArray, List.set_cons_zero, List.set_cons_succ]
                    refine tk 5 (v := ?_) (by simp only [List.getElem?_toArray, List.getElem?_cons_succ, List.getElem?_cons_zero]; rfl) (by kernel_rfl) (by exact fun _ _ _ h => h) (by rfl) hS ?_ ?_
                    rotate_left; · (intro w hSw; go_simp; try with_reducible rfl)
                    try simp only [Act.put, List.setIfInBounds_toArray, List.set_cons_zero, List.set_cons_succ]
                    refine tk 6 (v := ?_) (by simp only [List.getElem?_toArray, List.getElem?_cons_succ, List.getElem?_cons_zero]; rfl) (by kernel_rfl) (by exact fun _ _ _ h => h) (by rfl) hS ?_ ?_
                    rotate_left; · (intro w hSw; go_simp; try with_reducible rfl)
                    try simp only [Act.put, List.setIfInBounds_toArray, List.set_cons_zero, List.set_cons_succ]
                    refine tk 7 (v := ?_) (by simp only [List.getElem?_toArray, List.getElem?_cons_succ, List.getElem?_cons_zero]; rfl) (by kernel_rfl) (by exact fun _ _ _ h => h) (by rfl) hS ?_ ?_
                    rotate_left; · (intro w hSw; go_simp; try with_reducible rfl)
                    try simp only [Act.put, List.setIfInBounds_toArray, List.set_cons_zero, List.set_cons_succ]
                    refine tk 8 (v := ?_) (by simp only [List.getElem?_toArray, List.getElem?_cons_succ, List.getElem?_cons_zero]; rfl) (by kernel_rfl) (by exact fun _ _ _ h => h) (by rfl) hS ?_ ?_
                    rotate_left; · (intro w hSw; go_simp; try with_reducible rfl)
                    try simp only [Act.put, List.setIfInBounds_toArray, List.set_cons_zero, List.set_cons_succ]
                    refine tk 9 (v := ?_) (by simp only [List.getElem?_toArray, List.getElem?_cons_succ, List.getElem?_cons_zero]; rfl) (by kernel_rfl) (by exact fun _ _ _ h => h) (by rfl) hS ?_ ?_
                    rotate_left; · (intro w hSw; go_simp; try with_reducible rfl)
                    try simp only [Act.put, List.setIfInBounds_toArray, List.set_cons_zero, List.set_cons_succ]
                    refine tk 10 (v := ?_) (by simp only [List.getElem?_toArray, List.getElem?_cons_succ, List.getElem?_cons_zero]; rfl) (by kernel_rfl) (by exact fun _ _ _ h => h) (by rfl) hS ?_ ?_
                    rotate_left; · (intro w hSw; go_simp; try with_reducible rfl)
                    try simp only [Act.put, List.setIfInBounds_toArray, List.set_cons_zero, List.set_cons_succ]
                    refine tk 11 (v := ?_) (by simp only [List.getElem?_toArray, List.getElem?_cons_succ, List.getElem?_cons_zero]; rfl) (by kernel_rfl) (by exact fun _ _ _ h => h) (by rfl) hS ?_ ?_
                    rotate_left; · (intro w hSw; go_simp; try with_reducible rfl)
                    try simp only [Act.put, List.setIfInBounds_toArray, List.set_cons_zero, List.set_cons_succ]
                    refine tk 12 (v := ?_) (by simp only [List.getElem?_toArray, List.getElem?_cons_succ, List.getElem?_cons_zero]; rfl) (by kernel_rfl) (by exact fun _ _ _ h => h) (by rfl) hS ?_ ?_
                    rotate_left; · (intro w hSw; go_simp; try with_reducible rfl)
                    try simp only [Act.put, List.setIfInBounds_toArray, List.set_cons_zero, List.set_cons_succ]
                    refine tk 13 (v := ?_) (by simp only [List.getElem?_toArray, List.getElem?_cons_succ, List.getElem?_cons_zero]; rfl) (by kernel_rfl) (by exact fun _ _ _ h => h) (by rfl) hS ?_ ?_
                    rotate_left; · (intro w hSw; go_simp; try with_reducible rfl)
                    try simp only [Act.put, List.setIfInBounds_toArray, List.set_cons_zero, List.set_cons_succ]
                    refine tk 14 (v := ?_) (by simp only [List.getElem?_toArray, List.getElem?_cons_succ, List.getElem?_cons_zero]; rfl) (by kernel_rfl) (by exact fun _ _ _ h => h) (by rfl) hS ?_ ?_
                    rotate_left; · (intro w hSw; go_simp; try with_reducible rfl)
                    try simp only [Act.put, List.setIfInBounds_toArray, List.set_cons_zero, List.set_cons_succ]
                    refine tk 15 (v := ?_) (by simp only [List.getElem?_toArray, List.getElem?_cons_succ, List.getElem?_cons_zero]; rfl) (by kernel_rfl) (by exact fun _ _ _ h => h) (by rfl) hS ?_ ?_
                    rotate_left; · (intro w hSw; go_simp; try with_reducible rfl)
                    try simp only [Act.put, List.setIfInBounds_toArray, List.set_cons_zero, List.set_cons_succ]
                    refine tk 16 (v := ?_) (by simp only [List.getElem?_toArray, List.getElem?_cons_succ, List.getElem?_cons_zero]; rfl) (by kernel_rfl) (by exact fun _ _ _ h => h) (by rfl) hS ?_ ?_
                    rotate_left; · (intro w hSw; go_simp; try with_reducible rfl)
                    try simp only [Act.put, List.setIfInBounds_toArray, List.set_cons_zero, List.set_cons_succ]
                    refine tk 17 (v := ?_) (by simp only [List.getElem?_toArray, List.getElem?_cons_succ, List.getElem?_cons_zero]; rfl) (by kernel_rfl) (by exact fun _ _ _ h => h) (by rfl) hS ?_ ?_
                    rotate_left; · (intro w hSw; go_simp; try with_reducible rfl)
                    try simp only [Act.put, List.setIfInBounds_toArray, List.set_cons_zero, List.set_cons_succ]
                    refine tk 18 (v := ?_) (by simp only [List.getElem?_toArray, List.getElem?_cons_succ, List.getElem?_cons_zero]; rfl) (by kernel_rfl) (by exact fun _ _ _ h => h) (by rfl) hS ?_ ?_
                    rotate_left; · (intro w hSw; go_simp; try with_reducible rfl)
                    try simp only [Act.put, List.setIfInBounds_toArray, List.set_cons_zero, List.set_cons_succ]
                    refine tk 19 (v := ?_) (by simp only [List.getElem?_toArray, List.getElem?_cons_succ, List.getElem?_cons_zero]; rfl) (by kernel_rfl) (by exact fun _ _ _ h => h) (by rfl) hS ?_ ?_
                    rotate_left; · (intro w hSw; go_simp; try with_reducible rfl)
                    try simp only [Act.put, List.setIfInBounds_toArray, List.set_cons_zero, List.set_cons_succ]
                    refine tk 20 (v := ?_) (by simp only [List.getElem?_toArray, List.getElem?_cons_succ, List.getElem?_cons_zero]; rfl) (by kernel_rfl) (by exact fun _ _ _ h => h) (by rfl) hS ?_ ?_
                    rotate_left; · (intro w hSw; go_simp; try with_reducible rfl)
                    try simp only [Act.put, List.setIfInBounds_toArray, List.set_cons_zero, List.set_cons_succ]
                    refine tk 21 (v := ?_) (by simp only [List.getElem?_toArray, List.getElem?_cons_succ, List.getElem?_cons_zero]; rfl) (by kernel_rfl) (by exact fun _ _ _ h => h) (by rfl) hS ?_ ?_
                    rotate_left; · (intro w hSw; go_simp; try with_reducible rfl)
                    try simp only [Act.put, List.setIfInBounds_toArray, List.set_cons_zero, List.set_cons_succ]
                    refine tk 22 (v := ?_) (by simp only [List.getElem?_toArray, List.getElem?_cons_succ, List.getElem?_cons_zero]; rfl) (by kernel_rfl) (by exact fun _ _ _ h => h) (by rfl) hS ?_ ?_
                    rotate_left; · (intro w hSw; go_simp; try with_reducible rfl)
                    try simp only [Act.put, List.setIfInBounds_toArray, List.set_cons_zero, List.set_cons_succ]
                    refine tk 23 (v := ?_) (by simp only [List.getElem?_toArray, List.getElem?_cons_succ, List.getElem?_cons_zero]; rfl) (by kernel_rfl) (by exact fun _ _ _ h => h) (by rfl) hS ?_ ?_
                    rotate_left; · (intro w hSw; go_simp; try with_reducible rfl)
                    try simp only [Act.put, List.setIfInBounds_toArray, List.set_cons_zero, List.set_cons_succ]
                    refine tk 24 (v := ?_) (by simp only [List.getElem?_toArray, List.getElem?_cons_succ, List.getElem?_cons_zero]; rfl) (by kernel_rfl) (by exact fun _ _ _ h => h) (by rfl) hS ?_ ?_
                    rotate_left; · (intro w hSw; go_simp; try with_reducible rfl)
                    try simp only [Act.put, List.setIfInBounds_toArray, List.set_cons_zero, List.set_cons_succ]
                    refine tk 25 (v := ?_) (by simp only [List.getElem?_toArray, List.getElem?_cons_succ, List.getElem?_cons_zero]; rfl) (by kernel_rfl) (by exact fun _ _ _ h => h) (by rfl) hS ?_ ?_
                    rotate_left; · (intro w hSw; go_simp; try with_reducible rfl)
                    try simp only [Act.put, List.setIfInBounds_toArray, List.set_cons_zero, List.set_cons_succ]
                    refine tk 26 (v := ?_) (by simp only [List.getElem?_toArray, List.getElem?_cons_succ, List.getElem?_cons_zero]; rfl) (by kernel_rfl) (by exact fun _ _ _ h => h) (by rfl) hS ?_ ?_
                    rotate_left; · (intro w hSw; go_simp; try with_reducible rfl)
                    try simp only [Act.put, List.setIfInBounds_toArray, List.set_cons_zero, List.set_cons_succ]
                    refine tk 27 (v := ?_) (by simp only [List.getElem?_toArray, List.getElem?_cons_succ, List.getElem?_cons_zero]; rfl) (by kernel_rfl) (by exact fun _ _ _ h => h) (by rfl) hS ?_ ?_
                    rotate_left; · (intro w hSw; go_simp; try with_reducible rfl)
                    try simp only [Act.put, List.setIfInBounds_toArray, List.set_cons_zero, List.set_cons_succ]
                    refine tk 28 (v := ?_) (by simp only [List.getElem?_toArray, List.getElem?_cons_succ, List.getElem?_cons_zero]; rfl) (by kernel_rfl) (by exact fun _ _ _ h => h) (by rfl) hS ?_ ?_
                    rotate_left; · (intro w hSw; go_simp; try with_reducible rfl)
                    try simp only [Act.put, List.setIfInBounds_toArray, List.set_cons_zero, List.set_cons_succ]
                    refine tk 29 (v := ?_) (by simp only [List.getElem?_toArray, List.getElem?_cons_succ, List.getElem?_cons_zero]; rfl) (by kernel_rfl) (by exact fun _ _ _ h => h) (by rfl) hS ?_ ?_
                    rotate_left; · (intro w hSw; go_simp; try with_reducible rfl)
                    try simp only [Act.put, List.setIfInBounds_toArray, List.set_cons_zero, List.set_cons_succ]
                    refine tk 30 (v := ?_) (by simp only [List.getElem?_toArray, List.getElem?_cons_succ, List.getElem?_cons_zero]; rfl) (by kernel_rfl) (by exact fun _ _ _ h => h) (by rfl) hS ?_ ?_
                    rotate_left; · (intro w hSw; go_simp; try with_reducible rfl)
                    try simp only [Act.put, List.setIfInBounds_toArray, List.set_cons_zero, List.set_cons_succ]
                    refine tk 31 (v := ?_) (by simp only [List.getElem?_toArray, List.getElem?_cons_succ, List.getElem?_cons_zero]; rfl) (by kernel_rfl) (by exact fun _ _ _ h => h) (by rfl) hS ?_ ?_
                    rotate_left; · (intro w hSw; go_simp; try with_reducible rfl)
                    try simp only [Act.put, List.setIfInBounds_toArray, List.set_cons_zero, List.set_cons_succ]
                    refine tk 32 (v := ?_) (by simp only [List.getElem?_toArray, List.getElem?_cons_succ, List.getElem?_cons_zero]; rfl) (by kernel_rfl) (by exact fun _ _ _ h => h) (by rfl) hS ?_ ?_
                    rotate_left; · (intro w hSw; go_simp; try with_reducible rfl)
                    try simp only [Act.put, List.setIfInBounds_toArray, List.set_cons_zero, List.set_cons_succ]
                    refine tk 33 (v := ?_) (by simp only [List.getElem?_toArray, List.getElem?_cons_succ, List.getElem?_cons_zero]; rfl) (by kernel_rfl) (by exact fun _ _ _ h => h) (by rfl) hS ?_ ?_
                    rotate_left; · (intro w hSw; go_simp; try with_reducible rfl)
                    try simp only [Act.put, List.setIfInBounds_toArray, List.set_cons_zero, List.set_cons_succ]
                    refine tk 34 (v := ?_) (by simp only [List.getElem?_toArray, List.getElem?_cons_succ, List.getElem?_cons_zero]; rfl) (by kernel_rfl) (by exact fun _ _ _ h => h) (by rfl) hS ?_ ?_
                    rotate_left; · (intro w hSw; go_simp; try with_reducible rfl)
                    try simp only [Act.put, List.setIfInBounds_toArray, List.set_cons_zero, List.set_cons_succ]
                    refine tk 35 (v := ?_) (by simp only [List.getElem?_toArray, List.getElem?_cons_succ, List.getElem?_cons_zero]; rfl) (by kernel_rfl) (by exact fun _ _ _ h => h) (by rfl) hS ?_ ?_
                    rotate_left; · (intro w hSw; go_simp; try with_reducible rfl)
                    try simp only [Act.put, List.setIfInBounds_toArray, List.set_cons_zero, List.set_cons_succ]
                    refine tk 36 (v := ?_) (by simp only [List.getElem?_toArray, List.getElem?_cons_succ, List.getElem?_cons_zero]; rfl) (by kernel_rfl) (by exact fun _ _ _ h => h) (by rfl) hS ?_ ?_
                    rotate_left; · (intro w hSw; go_simp; try with_reducible rfl)
                    try simp only [Act.put, List.setIfInBounds_toArray, List.set_cons_zero, List.set_cons_succ]
                    refine tk 37 (v := ?_) (by simp only [List.getElem?_toArray, List.getElem?_cons_succ, List.getElem?_cons_zero]; rfl) (by kernel_rfl) (by exact fun _ _ _ h => h) (by rfl) hS ?_ ?_
                    rotate_left; · (intro w hSw; go_simp; try with_reducible rfl)
                    try simp only [Act.put, List.setIfInBounds_toArray, List.set_cons_zero, List.set_cons_succ]
                    refine tk 38 (v := ?_) (by simp only [List.getElem?_toArray, List.getElem?_cons_succ, List.getElem?_cons_zero]; rfl) (by kernel_rfl) (by exact fun _ _ _ h => h) (by rfl) hS ?_ ?_
                    rotate_left; · (intro w hSw; go_simp; try with_reducible rfl)
                    try simp only [Act.put, List.setIfInBounds_toArray, List.set_cons_zero, List.set_cons_succ]
                    refine tk 39 (v := ?_) (by simp only [List.getElem?_toArray, List.getElem?_cons_succ, List.getElem?_cons_zero]; rfl) (by kernel_rfl) (by exact fun _ _ _ h => h) (by rfl) hS ?_ ?_
                    rotate_left; · (intro w hSw; go_simp; try with_reducible rfl)
                    try simp only [Act.put, List.setIfInBounds_toArray, List.set_cons_zero, List.set_cons_succ]
                    refine tk 40 (v := ?_) (by simp only [List.getElem?_toArray, List.getElem?_cons_succ, List.getElem?_cons_zero]; rfl) (by kernel_rfl) (by exact fun _ _ _ h => h) (by rfl) hS ?_ ?_
                    rotate_left; · (intro w hSw; go_simp; try with_reducible rfl)
                    try simp only [Act.put, List.setIfInBounds_toArray, List.set_cons_zero, List.set_cons_succ]
                    refine tk 41 (v := ?_) (by simp only [List.getElem?_toArray, List.getElem?_cons_succ, List.getElem?_cons_zero]; rfl) (by kernel_rfl) (by exact fun _ _ _ h => h) (by rfl) hS ?_ ?_
                    rotate_left; · (intro w hSw; go_simp; try with_reducible rfl)
                    try simp only [Act.put, List.setIfInBounds_toArray, List.set_cons_zero, List.set_cons_succ]
                    refine tk 42 (v := ?_) (by simp only [List.getElem?_toArray, List.getElem?_cons_succ, List.getElem?_cons_zero]; rfl) (by kernel_rfl) (by exact fun _ _ _ h => h) (by rfl) hS ?_ ?_
                    rotate_left; · (intro w hSw; go_simp; try with_reducible rfl)
                    try simp only [Act.put, List.setIfInBounds_toArray, List.set_cons_zero, List.set_cons_succ]
                    refine tk 43 (v := ?_) (by simp only [List.getElem?_toArray, List.getElem?_cons_succ, List.getElem?_cons_zero]; rfl) (by kernel_rfl) (by exact fun _ _ _ h => h) (by rfl) hS ?_ ?_
                    rotate_left; · (intro w hSw; go_simp; try with_reducible rfl)
                    try simp only [Act.put, List.setIfInBounds_toArray, List.set_cons_zero, List.set_cons_succ]
                    refine tk 44 (v := ?_) (by simp only [List.getElem?_toArray, List.getElem?_cons_succ, List.getElem?_cons_zero]; rfl) (by kernel_rfl) (by exact fun _ _ _ h => h) (by rfl) hS ?_ ?_
                    rotate_left; · (intro w hSw; go_simp; try with_reducible rfl)
                    try simp only [Act.put, List.setIfInBounds_toArray, List.set_cons_zero, List.set_cons_succ]
                    refine tk 45 (v := ?_) (by simp only [List.getElem?_toArray, List.getElem?_cons_succ, List.getElem?_cons_zero]; rfl) (by kernel_rfl) (by exact fun _ _ _ h => h) (by rfl) hS ?_ ?_
                    rotate_left; · (intro w hSw; go_simp; try with_reducible rfl)
                    try simp only [Act.put, List.setIfInBounds_toArray, List.set_cons_zero, List.set_cons_succ]
                    refine tk 46 (v := ?_) (by simp only [List.getElem?_toArray, List.getElem?_cons_succ, List.getElem?_cons_zero]; rfl) (by kernel_rfl) (by exact fun _ _ _ h => h) (by rfl) hS ?_ ?_
                    rotate_left; · (intro w hSw; go_simp; try with_reducible rfl)
                    try simp only [Act.put, List.setIfInBounds_toArray, List.set_cons_zero, List.set_cons_succ]
                    refine tk 47 (v := ?_) (by simp only [List.getElem?_toArray, List.getElem?_cons_succ, List.getElem?_cons_zero]; rfl) (by kernel_rfl) (by exact fun _ _ _ h => h) (by rfl) hS ?_ ?_
                    rotate_left; · (intro w hSw; go_simp; try with_reducible rfl)
                    try simp only [Act.put, List.setIfInBounds_toArray, List.set_cons_zero, List.set_cons_succ]
                    refine tk 48 (v := ?_) (by simp only [List.getElem?_toArray, List.getElem?_cons_succ, List.getElem?_cons_zero]; rfl) (by kernel_rfl) (by exact fun _ _ _ h => h) (by rfl) hS ?_ ?_
                    rotate_left; · (intro w hSw; go_simp; try with_reducible rfl)
                    try simp only [Act.put, List.setIfInBounds_toArray, List.set_cons_zero, List.set_cons_succ]
                    refine tk 49 (v := ?_) (by simp only [List.getElem?_toArray, List.getElem?_cons_succ, List.getElem?_cons_zero]; rfl) (by kernel_rfl) (by exact fun _ _ _ h => h) (by rfl) hS ?_ ?_
                    rotate_left; · (intro w hSw; go_simp; try with_reducible rfl)
                    try simp only [Act.put, List.setIfInBounds_toArray, List.set_cons_zero, List.set_cons_succ]
                    refine tk 50 (v := ?_) (by simp only [List.getElem?_toArray, List.getElem?_cons_succ, List.getElem?_cons_zero]; rfl) (by kernel_rfl) (by exact fun _ _ _ h => h) (by rfl) hS ?_ ?_
                    rotate_left; · (intro w hSw; go_simp; try with_reducible rfl)
                    try simp only [Act.put, List.setIfInBounds_toArray, List.set_cons_zero, List.set_cons_succ]
                    refine tk 51 (v := ?_) (by simp only [List.getElem?_toArray, List.getElem?_cons_succ, List.getElem?_cons_zero]; rfl) (by kernel_rfl) (by exact fun _ _ _ h => h) (by rfl) hS ?_ ?_
                    rotate_left; · (intro w hSw; go_simp; try with_reducible rfl)
                    try simp only [Act.put, List.setIfInBounds_toArray, List.set_cons_zero, List.set_cons_succ]
                    refine tk 52 (v := ?_) (by simp only [List.getElem?_toArray, List.getElem?_cons_succ, List.getElem?_cons_zero]; rfl) (by kernel_rfl) (by exact fun _ _ _ h => h) (by rfl) hS ?_ ?_
                    rotate_left; · (intro w hSw; go_simp; try with_reducible rfl)
                    try simp only [Act.put, List.setIfInBounds_toArray, List.set_cons_zero, List.set_cons_succ]
                    refine tk 53 (v := ?_) (by simp only [List.getElem?_toArray, List.getElem?_cons_succ, List.getElem?_cons_zero]; rfl) (by kernel_rfl) (by exact fun _ _ _ h => h) (by rfl) hS ?_ ?_
                    rotate_left; · (intro w hSw; go_simp; try with_reducible rfl)
                    try simp only [Act.put, List.setIfInBounds_toArray, List.set_cons_zero, List.set_cons_succ]
                    refine tk 54 (v := ?_) (by simp only [List.getElem?_toArray, List.getElem?_cons_succ, List.getElem?_cons_zero]; rfl) (by kernel_rfl) (by exact fun _ _ _ h => h) (by rfl) hS ?_ ?_
                    rotate_left; · (intro w hSw; go_simp; try with_reducible rfl)
                    try simp only [Act.put, List.setIfInBounds_toArray, List.set_cons_zero, List.set_cons_succ]
                    refine tk 55 (v := ?_) (by simp only [List.getElem?_toArray, List.getElem?_cons_succ, List.getElem?_cons_zero]; rfl) (by kernel_rfl) (by exact fun _ _ _ h => h) (by rfl) hS ?_ ?_
                    rotate_left; · (intro w hSw; go_simp; try with_reducible rfl)
                    try simp only [Act.put, List.setIfInBounds_toArray, List.set_cons_zero, List.set_cons_succ]
                    refine wpAnyH_done (by kernel_rfl) ?_ _
                    go_wp2
                    go_roundw
                    case rel => exact ⟨j + 1, j, k1, by omega, by go_num, rfl, rfl, hP'.out, hMt.out.symm, D2.out⟩
                    case measure => simp [intOf] <;> omega
                  · have hnd : decide (n1 < n2) = false := decide_eq_false hn1
                    have hP' := Lib.hid (hxn.out (by unfold lessWorn; rw [if_pos rfl]; exact hnd))
                    have AL : Hid (∀ w', Below w.heap.size w w' → (w'.cell? ⟨b, off + j * 7, none⟩ = some (.int .i64 n1) ∧ w'.cell? ⟨b, off + j * 7 + 1, none⟩ = some (.int .i64 l1) ∧ w'.cell? ⟨b, off + j * 7 + 2, none⟩ = some (.int .i64 p1) ∧ w'.cell? ⟨b, off + j * 7 + 3, none⟩ = some (.int .i64 k1) ∧ w'.cell? ⟨b, off + j * 7 + 4, none⟩ = some (.bool false) ∧ w'.cell? ⟨b, off + j * 7 + 5, none⟩ = some (.bool e1) ∧ w'.cell? ⟨b, off + j * 7 + 6, none⟩ = some (.bool false)) ∧ (w'.cell? ⟨b, off + q * 7, none⟩ = some (.int .i64 n2) ∧ w'.cell? ⟨b, off + q * 7 + 1, none⟩ = some (.int .i64 l2) ∧ w'.cell? ⟨b, off + q * 7 + 2, none⟩ = some (.int .i64 p2) ∧ w'.cell? ⟨b, off + q * 7 + 3, none⟩ = some (.int .i64 k1) ∧ w'.cell? ⟨b, off + q * 7 + 4, none⟩ = some (.bool o2) ∧ w'.cell? ⟨b, off + q * 7 + 5, none⟩ = some (.bool e2) ∧ w'.cell? ⟨b, off + q * 7 + 6, none⟩ = some (.bool b2))) := Lib.hid fun w' h => ⟨AJ.out w' h, AQ.out w' h⟩
                    clear hxy hxn AQ
                    go_wp2_with fail
                    refine (HMr.out _).mono ?_
                    rintro e' wD1 ⟨rfl, bD1⟩
                    have D1 := Lib.hid (hB.out.trans (bD1.mono hB.out.size))
                    have D0 : Hid (Below w.heap.size w wD1.drew) := Lib.hid D1.out.drew
                    obtain ⟨d0, d1, d2, d3, d4, d5, d6⟩ := AJ.out _ D1.out
                    dsimp only at d0 d1 d2 d3 d4 d5 d6
                    clear bD1
                    go_wp2_with fail
                    clear d0 d1 d2 d3 d4 d5 d6
                    refine wp_region_held_drew (S := fun w' => (w'.cell? ⟨b, off + j * 7, none⟩ = some (.int .i64 n1) ∧ w'.cell? ⟨b, off + j * 7 + 1, none⟩ = some (.int .i64 l1) ∧ w'.cell? ⟨b, off + j * 7 + 2, none⟩ = some (.int .i64 p1) ∧ w'.cell? ⟨b, off + j * 7 + 3, none⟩ = some (.int .i64 k1) ∧ w'.cell? ⟨b, off + j * 7 + 4, none⟩ = some (.bool false) ∧ w'.cell? ⟨b, off + j * 7 + 5, none⟩ = some (.bool e1) ∧ w'.cell? ⟨b, off + j * 7 + 6, none⟩ = some (.bool false)) ∧ (w'.cell? ⟨b, off + q * 7, none⟩ = some (.int .i64 n2) ∧ w'.cell? ⟨b, off + q * 7 + 1, none⟩ = some (.int .i64 l2) ∧ w'.cell? ⟨b, off + q * 7 + 2, none⟩ = some (.int .i64 p2) ∧ w'.cell? ⟨b, off + q * 7 + 3, none⟩ = some (.int .i64 k1) ∧ w'.cell? ⟨b, off + q * 7 + 4, none⟩ = some (.bool o2) ∧ w'.cell? ⟨b, off + q * 7 + 5, none⟩ = some (.bool e2) ∧ w'.cell? ⟨b, off + q * 7 + 6, none⟩ = some (.bool b2))) (by kernel_rfl) (AL.out _ D0.out) (fun hS => ?_)
                    try simp only [List.size_toArray, List.length_cons, List.length_nil, Nat.reduceAdd]
                    refine tk 0 (v := ?_) (by simp only [List.getElem?_toArray, List.getElem?_cons_succ, List.getElem?_cons_zero]; rfl) (by kernel_rfl) (by exact fun _ _ _ h => h) (by rfl) hS ?_ ?_
                    rotate_left; · (intro w hSw; go_simp; try with_reducible rfl)
                    try simp only [Act.put, List.setIfInBounds_toArray, List.set_cons_zero, List.set_cons_succ]
                    refine tk 1 (v := ?_) (by simp only [List.getElem?_toArray, List.getElem?_cons_succ, List.getElem?_cons_zero]; rfl) (by kernel_rfl) (by exact fun _ _ _ h => h) (by rfl) hS ?_ ?_
                    rotate_left; · (intro w hSw; go_simp; try with_reducible rfl)
                    try simp only [Act.put, List.setIfInBounds_toArray, List.set_cons_zero, List.set_cons_succ]
                    refine tk 2 (v := ?_) (by simp only [List.getElem?_toArray, List.getElem?_cons_succ, List.getElem?_cons_zero]; rfl) (by kernel_rfl) (by exact fun _ _ _ h => h) (by rfl) hS ?_ ?_
                    rotate_left; · (intro w hSw; go_simp; try with_reducible rfl)
                    try simp only [Act.put, List.setIfInBounds_toArray, List.set_cons_zero, List.set_cons_succ]
                    refine tk 3 (v := ?_) (by simp only [List.getElem?_toArray, List.getElem?_cons_succ, List.getElem?_cons_zero]; rfl) (by kernel_rfl) (by exact fun _ _ _ h => h) (by rfl) hS ?_ ?_
                    rotate_left; · (intro w hSw; go_simp; try with_reducible rfl)
                    try simp only [Act.put, List.setIfInBounds_toArray, List.set_cons_zero, List.set_cons_succ]
                    refine wpAnyH_ready (rs := [4]) (by kernel_rfl) (by simp) ?_
                    refine AllReadyH.cons (by simp only [List.getElem?_toArray, List.getElem?_cons_succ, List.getElem?_cons_zero]; rfl) (fun K hK => ?_) AllReadyH.nil
                    go_simp
                    go_at_call 78
                    refine (HM.out _).mono ?_
                    rintro e' wD2 ⟨rfl, bD2⟩
                    have D2 : Hid (Below w.heap.size w wD2) := Lib.hid (D0.out.trans (bD2.mono D0.out.size))
                    clear bD2
                    refine hK.out _ _ (AL.out _ D2.out) (fun hS => ?_)
                    clear hK K
                    try simp only [Act.put, List.setIfInBounds_toArray, List.set_cons_zero, List.set_cons_succ]
                    refine tk 5 (v := ?_) (by simp only [List.getElem?_toArray, List.getElem?_cons_succ, List.getElem?_cons_zero]; rfl) (by kernel_rfl) (by exact fun _ _ _ h => h) (by rfl) hS ?_ ?_
                    rotate_left; · (intro w hSw; go_simp; try with_reducible rfl)
                    try simp only [Act.put, List.setIfInBounds_toArray, List.set_cons_zero, List.set_cons_succ]
                    refine tk 6 (v := ?_) (by simp only [List.getElem?_toArray, List.getElem?_cons_succ, List.getElem?_cons_zero]; rfl) (by kernel_rfl) (by exact fun _ _ _ h => h) (by rfl) hS ?_ ?_
                    rotate_left; · (intro w hSw; go_simp; try with_reducible rfl)
                    try simp only [Act.put, List.setIfInBounds_toArray, List.set_cons_zero, List.set_cons_succ]
                    refine tk 7 (v := ?_) (by simp only [List.getElem?_toArray, List.getElem?_cons_succ, List.getElem?_cons_zero]; rfl) (by kernel_rfl) (by exact fun _ _ _ h => h) (by rfl) hS ?_ ?_
                    rotate_left; · (intro w hSw; go_simp; try with_reducible rfl)
                    try simp only [Act.put, List.setIfInBounds_toArray, List.set_cons_zero, List.set_cons_succ]
                    refine tk 8 (v := ?_) (by simp only [List.getElem?_toArray, List.getElem?_cons_succ, List.getElem?_cons_zero]; rfl) (by kernel_rfl) (by exact fun _ _ _ h => h) (by rfl) hS ?_ ?_
                    rotate_left; · (intro w hSw; go_simp; try with_reducible rfl)
                    try simp only [Act.put, List.setIfInBounds_toArray, List.set_cons_zero, List.set_cons_succ]
                    refine tk 9 (v := ?_) (by simp only [List.getElem?_toArray, List.getElem?_cons_succ, List.getElem?_cons_zero]; rfl) (by kernel_rfl) (by exact fun _ _ _ h => h) (by rfl) hS ?_ ?_
                    rotate_left; · (intro w hSw; go_simp; try with_reducible rfl)
                    try simp only [Act.put, List.setIfInBounds_toArray, List.set_cons_zero, List.set_cons_succ]
                    refine tk 10 (v := ?_) (by simp only [List.getElem?_toArray, List.getElem?_cons_succ, List.getElem?_cons_zero]; rfl) (by kernel_rfl) (by exact fun _ _ _ h => h) (by rfl) hS ?_ ?_
                    rotate_left; · (intro w hSw; go_simp; try with_reducible rfl)
                    try simp only [Act.put, List.setIfInBounds_toArray, List.set_cons_zero, List.set_cons_succ]
                    refine tk 11 (v := ?_) (by simp only [List.getElem?_toArray, List.getElem?_cons_succ, List.getElem?_cons_zero]; rfl) (by kernel_rfl) (by exact fun _ _ _ h => h) (by rfl) hS ?_ ?_
                    rotate_left; · (intro w hSw; go_simp; try with_reducible rfl)
                    try simp only [Act.put, List.setIfInBounds_toArray, List.set_cons_zero, List.set_cons_succ]
                    refine tk 12 (v := ?_) (by simp only [List.getElem?_toArray, List.getElem?_cons_succ, List.getElem?_cons_zero]; rfl) (by kernel_rfl) (by exact fun _ _ _ h => h) (by rfl) hS ?_ ?_
                    rotate_left; · (intro w hSw; go_simp; try with_reducible rfl)
                    try simp only [Act.put, List.setIfInBounds_toArray, List.set_cons_zero, List.set_cons_succ]
                    refine tk 13 (v := ?_) (by simp only [List.getElem?_toArray, List.getElem?_cons_succ, List.getElem?_cons_zero]; rfl) (by kernel_rfl) (by exact fun _ _ _ h => h) (by rfl) hS ?_ ?_
                    rotate_left; · (intro w hSw; go_simp; try with_reducible rfl)
                    try simp only [Act.put, List.setIfInBounds_toArray, List.set_cons_zero, List.set_cons_succ]
                    refine tk 14 (v := ?_) (by simp only [List.getElem?_toArray, List.getElem?_cons_succ, List.getElem?_cons_zero]; rfl) (by kernel_rfl) (by exact fun _ _ _ h => h) (by rfl) hS ?_ ?_
                    rotate_left; · (intro w hSw; go_simp; try with_reducible rfl)
                    try simp only [Act.put, List.setIfInBounds_toArray, List.set_cons_zero, List.set_cons_succ]
                    refine tk 15 (v := ?_) (by simp only [List.getElem?_toArray, List.getElem?_cons_succ, List.getElem?_cons_zero]; rfl) (by kernel_rfl) (by exact fun _ _ _ h => h) (by rfl) hS ?_ ?_
                    rotate_left; · (intro w hSw; go_simp; try with_reducible rfl)
                    try simp only [Act.put, List.setIfInBounds_toArray, List.set_cons_zero, List.set_cons_succ]
                    refine tk 16 (v := ?_) (by simp only [List.getElem?_toArray, List.getElem?_cons_succ, List.getElem?_cons_zero]; rfl) (by kernel_rfl) (by exact fun _ _ _ h => h) (by rfl) hS ?_ ?_
                    rotate_left; · (intro w hSw; go_simp; try with_reducible rfl)
                    try simp only [Act.put, List.setIfInBounds_toArray, List.set_cons_zero, List.set_cons_succ]
                    refine tk 17 (v := ?_) (by simp only [List.getElem?_toArray, List.getElem?_cons_succ, List.getElem?_cons_zero]; rfl) (by kernel_rfl) (by exact fun _ _ _ h => h) (by rfl) hS ?_ ?_
                    rotate_left; · (intro w hSw; go_simp; try with_reducible rfl)
                    try simp only [Act.put, List.setIfInBounds_toArray, List.set_cons_zero, List.set_cons_succ]
                    refine tk 18 (v := ?_) (by simp only [List.getElem?_toArray, List.getElem?_cons_succ, List.getElem?_cons_zero]; rfl) (by kernel_rfl) (by exact fun _ _ _ h => h) (by rfl) hS ?_ ?_
                    rotate_left; · (intro w hSw; go_simp; try with_reducible rfl)
                    try simp only [Act.put, List.setIfInBounds_toArray, List.set_cons_zero, List.set_cons_succ]
                    refine tk 19 (v := ?_) (by simp only [List.getElem?_toArray, List.getElem?_cons_succ, List.getElem?_cons_zero]; rfl) (by kernel_rfl) (by exact fun _ _ _ h => h) (by rfl) hS ?_ ?_
                    rotate_left; · (intro w hSw; go_simp; try with_reducible rfl)
                    try simp only [Act.put, List.setIfInBounds_toArray, List.set_cons_zero, List.set_cons_succ]
                    refine tk 20 (v := ?_) (by simp only [List.getElem?_toArray, List.getElem?_cons_succ, List.getElem?_cons_zero]; rfl) (by kernel_rfl) (by exact fun _ _ _ h => h) (by rfl) hS ?_ ?_
                    rotate_left; · (intro w hSw; go_simp; try with_reducible rfl)
                    try simp only [Act.put, List.setIfInBounds_toArray, List.set_cons_zero, List.set_cons_succ]
                    refine tk 21 (v := ?_) (by simp only [List.getElem?_toArray, List.getElem?_cons_succ, List.getElem?_cons_zero]; rfl) (by kernel_rfl) (by exact fun _ _ _ h => h) (by rfl) hS ?_ ?_
                    rotate_left; · (intro w hSw; go_simp; try with_reducible rfl)
                    try simp only [Act.put, List.setIfInBounds_toArray, List.set_cons_zero, List.set_cons_succ]
                    refine tk 22 (v := ?_) (by simp only [List.getElem?_toArray, List.getElem?_cons_succ, List.getElem?_cons_zero]; rfl) (by kernel_rfl) (by exact fun _ _ _ h => h) (by rfl) hS ?_ ?_
                    rotate_left; · (intro w hSw; go_simp; try with_reducible rfl)
                    try simp only [Act.put, List.setIfInBounds_toArray, List.set_cons_zero, List.set_cons_succ]
                    refine tk 23 (v := ?_) (by simp only [List.getElem?_toArray, List.getElem?_cons_succ, List.getElem?_cons_zero]; rfl) (by kernel_rfl) (by exact fun _ _ _ h => h) (by rfl) hS ?_ ?_
                    rotate_left; · (intro w hSw; go_simp; try with_reducible rfl)
                    try simp only [Act.put, List.setIfInBounds_toArray, List.set_cons_zero, List.set_cons_succ]
                    refine tk 24 (v := ?_) (by simp only [List.getElem?_toArray, List.getElem?_cons_succ, List.getElem?_cons_zero]; rfl) (by kernel_rfl) (by exact fun _ _ _ h => h) (by rfl) hS ?_ ?_
                    rotate_left; · (intro w hSw; go_simp; try with_reducible rfl)
                    try simp only [Act.put, List.setIfInBounds_toArray, List.set_cons_zero, List.set_cons_succ]
                    refine tk 25 (v := ?_) (by simp only [List.getElem?_toArray, List.getElem?_cons_succ, List.getElem?_cons_zero]; rfl) (by kernel_rfl) (by exact fun _ _ _ h => h) (by rfl) hS ?_ ?_
                    rotate_left; · (intro w hSw; go_simp; try with_reducible rfl)
                    try simp only [Act.put, List.setIfInBounds_toArray, List.set_cons_zero, List.set_cons_succ]
                    refine tk 26 (v := ?_) (by simp only [List.getElem?_toArray, List.getElem?_cons_succ, List.getElem?_cons_zero]; rfl) (by kernel_rfl) (by exact fun _ _ _ h => h) (by rfl) hS ?_ ?_
                    rotate_left; · (intro w hSw; go_simp; try with_reducible rfl)
                    try simp only [Act.put, List.setIfInBounds_toArray, List.set_cons_zero, List.set_cons_succ]
                    refine tk 27 (v := ?_) (by simp only [List.getElem?_toArray, List.getElem?_cons_succ, List.getElem?_cons_zero]; rfl) (by kernel_rfl) (by exact fun _ _ _ h => h) (by rfl) hS ?_ ?_
                    rotate_left; · (intro w hSw; go_simp; try with_reducible rfl)
                    try simp only [Act.put, List.setIfInBounds_toArray, List.set_cons_zero, List.set_cons_succ]
                    refine tk 28 (v := ?_) (by simp only [List.getElem?_toArray, List.getElem?_cons_succ, List.getElem?_cons_zero]; rfl) (by kernel_rfl) (by exact fun _ _ _ h => h) (by rfl) hS ?_ ?_
                    rotate_left; · (intro w hSw; go_simp; try with_reducible rfl)
                    try simp only [Act.put, List.setIfInBounds_toArray, List.set_cons_zero, List.set_cons_succ]
                    refine tk 29 (v := ?_) (by simp only [List.getElem?_toArray, List.getElem?_cons_succ, List.getElem?_cons_zero]; rfl) (by kernel_rfl) (by exact fun _ _ _ h => h) (by rfl) hS ?_ ?_
                    rotate_left; · (intro w hSw; go_simp; try with_reducible rfl)
                    try simp only [Act.put, List.setIfInBounds_toArray, List.set_cons_zero, List.set_cons_succ]
                    refine tk 30 (v := ?_) (by simp only [List.getElem?_toArray, List.getElem?_cons_succ, List.getElem?_cons_zero]; rfl) (by kernel_rfl) (by exact fun _ _ _ h => h) (by rfl) hS ?_ ?_
                    rotate_left; · (intro w hSw; go_simp; try with_reducible rfl)
                    try simp only [Act.put, List.setIfInBounds_toArray, List.set_cons_zero, List.set_cons_succ]
                    refine tk 31 (v := ?_) (by simp only [List.getElem?_toArray, List.getElem?_cons_succ, List.getElem?_cons_zero]; rfl) (by kernel_rfl) (by exact fun _ _ _ h => h) (by rfl) hS ?_ ?_
                    rotate_left; · (intro w hSw; go_simp; try with_reducible rfl)
                    try simp only [Act.put, List.setIfInBounds_toArray, List.set_cons_zero, List.set_cons_succ]
                    refine tk 32 (v := ?_) (by simp only [List.getElem?_toArray, List.getElem?_cons_succ, List.getElem?_cons_zero]; rfl) (by kernel_rfl) (by exact fun _ _ _ h => h) (by rfl) hS ?_ ?_
                    rotate_left; · (intro w hSw; go_simp; try with_reducible rfl)
                    try simp only [Act.put, List.setIfInBounds_toArray, List.set_cons_zero, List.set_cons_succ]
                    refine tk 33 (v := ?_) (by simp only [List.getElem?_toArray, List.getElem?_cons_succ, List.getElem?_cons_zero]; rfl) (by kernel_rfl) (by exact fun _ _ _ h => h) (by rfl) hS ?_ ?_
                    rotate_left; · (intro w hSw; go_simp; try with_reducible rfl)
                    try simp only [Act.put, List.setIfInBounds_toArray, List.set_cons_zero, List.set_cons_succ]
                    refine tk 34 (v := ?_) (by simp only [List.getElem?_toArray, List.getElem?_cons_succ, List.getElem?_cons_zero]; rfl) (by kernel_rfl) (by exact fun _ _ _ h => h) (by rfl) hS ?_ ?_
                    rotate_left; · (intro w hSw; go_simp; try with_reducible rfl)
                    try simp only [Act.put, List.setIfInBounds_toArray, List.set_cons_zero, List.set_cons_succ]
                    refine tk 35 (v := ?_) (by simp only [List.getElem?_toArray, List.getElem?_cons_succ, List.getElem?_cons_zero]; rfl) (by kernel_rfl) (by exact fun _ _ _ h => h) (by rfl) hS ?_ ?_
                    rotate_left; · (intro w hSw; go_simp; try with_reducible rfl)
                    try simp only [Act.put, List.setIfInBounds_toArray, List.set_cons_zero, List.set_cons_succ]
                    refine tk 36 (v := ?_) (by simp only [List.getElem?_toArray, List.getElem?_cons_succ, List.getElem?_cons_zero]; rfl) (by kernel_rfl) (by exact fun _ _ _ h => h) (by rfl) hS ?_ ?_
                    rotate_left; · (intro w hSw; go_simp; try with_reducible rfl)
                    try simp only [Act.put, List.setIfInBounds_toArray, List.set_cons_zero, List.set_cons_succ]
                    refine tk 37 (v := ?_) (by simp only [List.getElem?_toArray, List.getElem?_cons_succ, List.getElem?_cons_zero]; rfl) (by kernel_rfl) (by exact fun _ _ _ h => h) (by rfl) hS ?_ ?_
                    rotate_left; · (intro w hSw; go_simp; try with_reducible rfl)
                    try simp only [Act.put, List.setIfInBounds_toArray, List.set_cons_zero, List.set_cons_succ]
                    refine tk 38 (v := ?_) (by simp only [List.getElem?_toArray, List.getElem?_cons_succ, List.getElem?_cons_zero]; rfl) (by kernel_rfl) (by exact fun _ _ _ h => h) (by rfl) hS ?_ ?_
                    rotate_left; · (intro w hSw; go_simp; try with_reducible rfl)
                    try simp only [Act.put, List.setIfInBounds_toArray, List.set_cons_zero, List.set_cons_succ]
                    refine tk 39 (v := ?_) (by simp only [List.getElem?_toArray, List.getElem?_cons_succ, List.getElem?_cons_zero]; rfl) (by kernel_rfl) (by exact fun _ _ _ h => h) (by rfl) hS ?_ ?_
                    rotate_left; · (intro w hSw; go_simp; try with_reducible rfl)
                    try simp only [Act.put, List.setIfInBounds_toArray, List.set_cons_zero, List.set_cons_succ]
                    refine tk 40 (v := ?_) (by simp only [List.getElem?_toArray, List.getElem?_cons_succ, List.getElem?_cons_zero]; rfl) (by kernel_rfl) (by exact fun _ _ _ h => h) (by rfl) hS ?_ ?_
                    rotate_left; · (intro w hSw; go_simp; try with_reducible rfl)
                    try simp only [Act.put, List.setIfInBounds_toArray, List.set_cons_zero, List.set_cons_succ]
                    refine tk 41 (v := ?_) (by simp only [List.getElem?_toArray, List.getElem?_cons_succ, List.getElem?_cons_zero]; rfl) (by kernel_rfl) (by exact fun _ _ _ h => h) (by rfl) hS ?_ ?_
                    rotate_left; · (intro w hSw; go_simp; try with_reducible rfl)
                    try simp only [Act.put, List.setIfInBounds_toArray, List.set_cons_zero, List.set_cons_succ]
                    refine tk 42 (v := ?_) (by simp only [List.getElem?_toArray, List.getElem?_cons_succ, List.getElem?_cons_zero]; rfl) (by kernel_rfl) (by exact fun _ _ _ h => h) (by rfl) hS ?_ ?_
                    rotate_left; · (intro w hSw; go_simp; try with_reducible rfl)
                    try simp only [Act.put, List.setIfInBounds_toArray, List.set_cons_zero, List.set_cons_succ]
                    refine tk 43 (v := ?_) (by simp only [List.getElem?_toArray, List.getElem?_cons_succ, List.getElem?_cons_zero]; rfl) (by kernel_rfl) (by exact fun _ _ _ h => h) (by rfl) hS ?_ ?_
                    rotate_left; · (intro w hSw; go_simp; try with_reducible rfl)
                    try simp only [Act.put, List.setIfInBounds_toArray, List.set_cons_zero, List.set_cons_succ]
                    refine tk 44 (v := ?_) (by simp only [List.getElem?_toArray, List.getElem?_cons_succ, List.getElem?_cons_zero]; rfl) (by kernel_rfl) (by exact fun _ _ _ h => h) (by rfl) hS ?_ ?_
                    rotate_left; · (intro w hSw; go_simp; try with_reducible rfl)
                    try simp only [Act.put, List.setIfInBounds_toArray, List.set_cons_zero, List.set_cons_succ]
                    refine tk 45 (v := ?_) (by simp only [List.getElem?_toArray, List.getElem?_cons_succ, List.getElem?_cons_zero]; rfl) (by kernel_rfl) (by exact fun _ _ _ h => h) (by rfl) hS ?_ ?_
                    rotate_left; · (intro w hSw; go_simp; try with_reducible rfl)
                    try simp only [Act.put, List.setIfInBounds_toArray, List.set_cons_zero, List.set_cons_succ]
                    refine tk 46 (v := ?_) (by simp only [List.getElem?_toArray, List.getElem?_cons_succ, List.getElem?_cons_zero]; rfl) (by kernel_rfl) (by exact fun _ _ _ h => h) (by rfl) hS ?_ ?_
                    rotate_left; · (intro w hSw; go_simp; try with_reducible rfl)
                    try simp only [Act.put, List.setIfInBounds_toArray, List.set_cons_zero, List.set_cons_succ]
                    refine tk 47 (v := ?_) (by simp only [List.getElem?_toArray, List.getElem?_cons_succ, List.getElem?_cons_zero]; rfl) (by kernel_rfl) (by exact fun _ _ _ h => h) (by rfl) hS ?_ ?_
                    rotate_left; · (intro w hSw; go_simp; try with_reducible rfl)
                    try simp only [Act.put, List.setIfInBounds_toArray, List.set_cons_zero, List.set_cons_succ]
                    refine tk 48 (v := ?_) (by simp only [List.getElem?_toArray, List.getElem?_cons_succ, List.getElem?_cons_zero]; rfl) (by kernel_rfl) (by exact fun _ _ _ h => h) (by rfl) hS ?_ ?_
                    rotate_left; · (intro w hSw; go_simp; try with_reducible rfl)
                    try simp only [Act.put, List.setIfInBounds_toArray, List.set_cons_zero, List.set_cons_succ]
                    refine tk 49 (v := ?_) (by simp only [List.getElem?_toArray, List.getElem?_cons_succ, List.getElem?_cons_zero]; rfl) (by kernel_rfl) (by exact fun _ _ _ h => h) (by rfl) hS ?_ ?_
                    rotate_left; · (intro w hSw; go_simp; try with_reducible rfl)
                    try simp only [Act.put, List.setIfInBounds_toArray, List.set_cons_zero, List.set_cons_succ]
                    refine tk 50 (v := ?_) (by simp only [List.getElem?_toArray, List.getElem?_cons_succ, List.getElem?_cons_zero]; rfl) (by kernel_rfl) (by exact fun _ _ _ h => h) (by rfl) hS ?_ ?_
                    rotate_left; · (intro w hSw; go_simp; try with_reducible rfl)
                    try simp only [Act.put, List.setIfInBounds_toArray, List.set_cons_zero, List.set_cons_succ]
                    refine tk 51 (v := ?_) (by simp only [List.getElem?_toArray, List.getElem?_cons_succ, List.getElem?_cons_zero]; rfl) (by kernel_rfl) (by exact fun _ _ _ h => h) (by rfl) hS ?_ ?_
                    rotate_left; · (intro w hSw; go_simp; try with_reducible rfl)
                    try simp only [Act.put, List.setIfInBounds_toArray, List.set_cons_zero, List.set_cons_succ]
                    refine tk 52 (v := ?_) (by simp only [List.getElem?_toArray, List.getElem?_cons_succ, List.getElem?_cons_zero]; rfl) (by kernel_rfl) (by exact fun _ _ _ h => h) (by rfl) hS ?_ ?_
                    rotate_left; · (intro w hSw; go_simp; try with_reducible rfl)
                    try simp only [Act.put, List.setIfInBounds_toArray, List.set_cons_zero, List.set_cons_succ]
                    refine tk 53 (v := ?_) (by simp only [List.getElem?_toArray, List.getElem?_cons_succ, List.getElem?_cons_zero]; rfl) (by kernel_rfl) (by exact fun _ _ _ h => h) (by rfl) hS ?_ ?_
                    rotate_left; · (intro w hSw; go_simp; try with_reducible rfl)
                    try simp only [Act.put, List.setIfInBounds_toArray, List.set_cons_zero, List.set_cons_succ]
                    refine tk 54 (v := ?_) (by simp only [List.getElem?_toArray, List.getElem?_cons_succ, List.getElem?_cons_zero]; rfl) (by kernel_rfl) (by exact fun _ _ _ h => h) (by rfl) hS ?_ ?_
                    rotate_left; · (intro w hSw; go_simp; try with_reducible rfl)
                    try simp only [Act.put, List.setIfInBounds_toArray, List.set_cons_zero, List.set_cons_succ]
                    refine tk 55 (v := ?_) (by simp only [List.getElem?_toArray, List.getElem?_cons_succ, List.getElem?_cons_zero]; rfl) (by kernel_rfl) (by exact fun _ _ _ h => h) (by rfl) hS ?_ ?_
                    rotate_left; · (intro w hSw; go_simp; try with_reducible rfl)
                    try simp only [Act.put, List.setIfInBounds_toArray, List.set_cons_zero, List.set_cons_succ]
                    refine wpAnyH_done (by kernel_rfl) ?_ _
                    go_wp2
                    go_roundw
                    case rel => exact ⟨j + 1, _, k1, by omega, by go_num, rfl, rfl, hP'.out, hMt.out.symm, D2.out⟩
                    case measure => simp [intOf] <;> omega
                · have hwe : (k1 == k2) = false := by rw [beq_eq_false_iff_ne]; exact hw1
                  by_cases hw2 : k1 < k2
                  · have hwl : decide (k1 < k2) = true := decide_eq_true hw2
                    have hP' := Lib.hid (hxy.out (by unfold lessWorn; rw [if_neg hw1]; exact hwl))
                    have AL : Hid (∀ w', Below w.heap.size w w' → (w'.cell? ⟨b, off + j * 7, none⟩ = some (.int .i64 n1) ∧ w'.cell? ⟨b, off + j * 7 + 1, none⟩ = some (.int .i64 l1) ∧ w'.cell? ⟨b, off + j * 7 + 2, none⟩ = some (.int .i64 p1) ∧ w'.cell? ⟨b, off + j * 7 + 3, none⟩ = some (.int .i64 k1) ∧ w'.cell? ⟨b, off + j * 7 + 4, none⟩ = some (.bool false) ∧ w'.cell? ⟨b, off + j * 7 + 5, none⟩ = some (.bool e1) ∧ w'.cell? ⟨b, off + j * 7 + 6, none⟩ = some (.bool false)) ∧ (w'.cell? ⟨b, off + q * 7, none⟩ = some (.int .i64 n2) ∧ w'.cell? ⟨b, off + q * 7 + 1, none⟩ = some (.int .i64 l2) ∧ w'.cell? ⟨b, off + q * 7 + 2, none⟩ = some (.int .i64 p2) ∧ w'.cell? ⟨b, off + q * 7 + 3, none⟩ = some (.int .i64 k2) ∧ w'.cell? ⟨b, off + q * 7 + 4, none⟩ = some (.bool o2) ∧ w'.cell? ⟨b, off + q * 7 + 5, none⟩ = some (.bool e2) ∧ w'.cell? ⟨b, off + q * 7 + 6, none⟩ = some (.bool b2))) := Lib.hid fun w' h => ⟨AJ.out w' h, AQ.out w' h⟩
                    clear hxy hxn AQ
                    go_wp2_with fail
                    refine (HMr.out _).mono ?_
                    rintro e' wD1 ⟨rfl, bD1⟩
                    have D1 := Lib.hid (hB.out.trans (bD1.mono hB.out.size))
                    have D0 : Hid (Below w.heap.size w wD1.drew) := Lib.hid D1.out.drew
                    obtain ⟨d0, d1, d2, d3, d4, d5, d6⟩ := AJ.out _ D1.out
                    dsimp only at d0 d1 d2 d3 d4 d5 d6
                    clear bD1
                    go_wp2_with fail
                    clear d0 d1 d2 d3 d4 d5 d6
                    refine wp_region_held_drew (S := fun w' => (w'.cell? ⟨b, off + j * 7, none⟩ = some (.int .i64 n1) ∧ w'.cell? ⟨b, off + j * 7 + 1, none⟩ = some (.int .i64 l1) ∧ w'.cell? ⟨b, off + j * 7 + 2, none⟩ = some (.int .i64 p1) ∧ w'.cell? ⟨b, off + j * 7 + 3, none⟩ = some (.int .i64 k1) ∧ w'.cell? ⟨b, off + j * 7 + 4, none⟩ = some (.bool false) ∧ w'.cell? ⟨b, off + j * 7 + 5, none⟩ = some (.bool e1) ∧ w'.cell? ⟨b, off + j * 7 + 6, none⟩ = some (.bool false)) ∧ (w'.cell? ⟨b, off + q * 7, none⟩ = some (.int .i64 n2) ∧ w'.cell? ⟨b, off + q * 7 + 1, none⟩ = some (.int .i64 l2) ∧ w'.cell? ⟨b, off + q * 7 + 2, none⟩ = some (.int .i64 p2) ∧ w'.cell? ⟨b, off + q * 7 + 3, none⟩ = some (.int .i64 k2) ∧ w'.cell? ⟨b, off + q * 7 + 4, none⟩ = some (.bool o2) ∧ w'.cell? ⟨b, off + q * 7 + 5, none⟩ = some (.bool e2) ∧ w'.cell? ⟨b, off + q * 7 + 6, none⟩ = some (.bool b2))) (by kernel_rfl) (AL.out _ D0.out) (fun hS => ?_)
                    try simp only [List.size_toArray, List.length_cons, List.length_nil, Nat.reduceAdd]
                    refine tk 0 (v := ?_) (by simp only [List.getElem?_toArray, List.getElem?_cons_succ, List.getElem?_cons_zero]; rfl) (by kernel_rfl) (by exact fun _ _ _ h => h) (by rfl) hS ?_ ?_
                    rotate_left; · (intro w hSw; go_simp; try with_reducible rfl)
                    try simp only [Act.put, List.setIfInBounds_toArray, List.set_cons_zero, List.set_cons_succ]
                    refine tk 1 (v := ?_) (by simp only [List.getElem?_toArray, List.getElem?_cons_succ, List.getElem?_cons_zero]; rfl) (by kernel_rfl) (by exact fun _ _ _ h => h) (by rfl) hS ?_ ?_
                    rotate_left; · (intro w hSw; go_simp; try with_reducible rfl)
                    try simp only [Act.put, List.setIfInBounds_toArray, List.set_cons_zero, List.set_cons_succ]
                    refine tk 2 (v := ?_) (by simp only [List.getElem?_toArray, List.getElem?_cons_succ, List.getElem?_cons_zero]; rfl) (by kernel_rfl) (by exact fun _ _ _ h => h) (by rfl) hS ?_ ?_
                    rotate_left; · (intro w hSw; go_simp; try with_reducible rfl)
                    try simp only [Act.put, List.setIfInBounds_toArray, List.set_cons_zero, List.set_cons_succ]
                    refine tk 3 (v := ?_) (by simp only [List.getElem?_toArray, List.getElem?_cons_succ, List.getElem?_cons_zero]; rfl) (by kernel_rfl) (by exact fun _ _ _ h => h) (by rfl) hS ?_ ?_
                    rotate_left; · (intro w hSw; go_simp; try with_reducible rfl)
                    try simp only [Act.put, List.setIfInBounds_toArray, List.set_cons_zero, List.set_cons_succ]
                    refine wpAnyH_ready (rs := [4]) (by kernel_rfl) (by simp) ?_
                    refine AllReadyH.cons (by simp only [List.getElem?_toArray, List.getElem?_cons_succ, List.getElem?_cons_zero]; rfl) (fun K hK => ?_) AllReadyH.nil
                    go_simp
                    go_at_call 78
                    refine (HM.out _).mono ?_
                    rintro e' wD2 ⟨rfl, bD2⟩
                    have D2 : Hid (Below w.heap.size w wD2) := Lib.hid (D0.out.trans (bD2.mono D0.out.size))
                    clear bD2
                    refine hK.out _ _ (AL.out _ D2.out) (fun hS => ?_)
                    clear hK K
                    try simp only [Act.put, List.setIfInBounds_toArray, List.set_cons_zero, List.set_cons_succ]
                    refine tk 5 (v := ?_) (by simp only [List.getElem?_toArray, List.getElem?_cons_succ, List.getElem?_cons_zero]; rfl) (by kernel_rfl) (by exact fun _ _ _ h => h) (by rfl) hS ?_ ?_
                    rotate_left; · (intro w hSw; go_simp; try with_reducible rfl)
                    try simp only [Act.put, List.setIfInBounds_toArray, List.set_cons_zero, List.set_cons_succ]
                    refine tk 6 (v := ?_) (by simp only [List.getElem?_toArray, List.getElem?_cons_succ, List.getElem?_cons_zero]; rfl) (by kernel_rfl) (by exact fun _ _ _ h => h) (by rfl) hS ?_ ?_
                    rotate_left; · (intro w hSw; go_simp; try with_reducible rfl)
                    try simp only [Act.put, List.setIfInBounds_toArray, List.set_cons_zero, List.set_cons_succ]
                    refine tk 7 (v := ?_) (by simp only [List.getElem?_toArray, List.getElem?_cons_succ, List.getElem?_cons_zero]; rfl) (by kernel_rfl) (by exact fun _ _ _ h => h) (by rfl) hS ?_ ?_
                    rotate_left; · (intro w hSw; go_simp; try with_reducible rfl)
                    try simp only [Act.put, List.setIfInBounds_toArray, List.set_cons_zero, List.set_cons_succ]
                    refine tk 8 (v := ?_) (by simp only [List.getElem?_toArray, List.getElem?_cons_succ, List.getElem?_cons_zero]; rfl) (by kernel_rfl) (by exact fun _ _ _ h => h) (by rfl) hS ?_ ?_
                    rotate_left; · (intro w hSw; go_simp; try with_reducible rfl)
                    try simp only [Act.put, List.setIfInBounds_toArray, List.set_cons_zero, List.set_cons_succ]
                    refine tk 9 (v := ?_) (by simp only [List.getElem?_toArray, List.getElem?_cons_succ, List.getElem?_cons_zero]; rfl) (by kernel_rfl) (by exact fun _ _ _ h => h) (by rfl) hS ?_ ?_
                    rotate_left; · (intro w hSw; go_simp; try with_reducible rfl)
                    try simp only [Act.put, List.setIfInBounds_toArray, List.set_cons_zero, List.set_cons_succ]
                    refine tk 10 (v := ?_) (by simp only [List.getElem?_toArray, List.getElem?_cons_succ, List.getElem?_cons_zero]; rfl) (by kernel_rfl) (by exact fun _ _ _ h => h) (by rfl) hS ?_ ?_
                    rotate_left; · (intro w hSw; go_simp; try with_reducible rfl)
                    try simp only [Act.put, List.setIfInBounds_toArray, List.set_cons_zero, List.set_cons_succ]
                    refine tk 11 (v := ?_) (by simp only [List.getElem?_toArray, List.getElem?_cons_succ, List.getElem?_cons_zero]; rfl) (by kernel_rfl) (by exact fun _ _ _ h => h) (by rfl) hS ?_ ?_
                    rotate_left; · (intro w hSw; go_simp; try with_reducible rfl)
                    try simp only [Act.put, List.setIfInBounds_toArray, List.set_cons_zero, List.set_cons_succ]
                    refine tk 12 (v := ?_) (by simp only [List.getElem?_toArray, List.getElem?_cons_succ, List.getElem?_cons_zero]; rfl) (by kernel_rfl) (by exact fun _ _ _ h => h) (by rfl) hS ?_ ?_
                    rotate_left; · (intro w hSw; go_simp; try with_reducible rfl)
                    try simp only [Act.put, List.setIfInBounds_toArray, List.set_cons_zero, List.set_cons_succ]
                    refine tk 13 (v := ?_) (by simp only [List.getElem?_toArray, List.getElem?_cons_succ, List.getElem?_cons_zero]; rfl) (by kernel_rfl) (by exact fun _ _ _ h => h) (by rfl) hS ?_ ?_
                    rotate_left; · (intro w hSw; go_simp; try with_reducible rfl)
                    try simp only [Act.put, List.setIfInBounds_toArray, List.set_cons_zero, List.set_cons_succ]
                    refine tk 14 (v := ?_) (by simp only [List.getElem?_toArray, List.getElem?_cons_succ, List.getElem?_cons_zero]; rfl) (by kernel_rfl) (by exact fun _ _ _ h => h) (by rfl) hS ?_ ?_
                    rotate_left; · (intro w hSw; go_simp; try with_reducible rfl)
                    try simp only [Act.put, List.setIfInBounds_toArray, List.set_cons_zero, List.set_cons_succ]
                    refine tk 15 (v := ?_) (by simp only [List.getElem?_toArray, List.getElem?_cons_succ, List.getElem?_cons_zero]; rfl) (by kernel_rfl) (by exact fun _ _ _ h => h) (by rfl) hS ?_ ?_
                    rotate_left; · (intro w hSw; go_simp; try with_reducible rfl)
                    try simp only [Act.put, List.setIfInBounds_toArray, List.set_cons_zero, List.set_cons_succ]
                    refine tk 16 (v := ?_) (by simp only [List.getElem?_toArray, List.getElem?_cons_succ, List.getElem?_cons_zero]; rfl) (by kernel_rfl) (by exact fun _ _ _ h => h) (by rfl) hS ?_ ?_
                    rotate_left; · (intro w hSw; go_simp; try with_reducible rfl)
                    try simp only [Act.put, List.setIfInBounds_toArray, List.set_cons_zero, List.set_cons_succ]
                    refine tk 17 (v := ?_) (by simp only [List.getElem?_toArray, List.getElem?_cons_succ, List.getElem?_cons_zero]; rfl) (by kernel_rfl) (by exact fun _ _ _ h => h) (by rfl) hS ?_ ?_
                    rotate_left; · (intro w hSw; go_simp; try with_reducible rfl)
                    try simp only [Act.put, List.setIfInBounds_toArray, List.set_cons_zero, List.set_cons_succ]
                    refine tk 18 (v := ?_) (by simp only [List.getElem?_toArray, List.getElem?_cons_succ, List.getElem?_cons_zero]; rfl) (by kernel_rfl) (by exact fun _ _ _ h => h) (by rfl) hS ?_ ?_
                    rotate_left; · (intro w hSw; go_simp; try with_reducible rfl)
                    try simp only [Act.put, List.setIfInBounds_toArray, List.set_cons_zero, List.set_cons_succ]
                    refine tk 19 (v := ?_) (by simp only [List.getElem?_toArray, List.getElem?_cons_succ, List.getElem?_cons_zero]; rfl) (by kernel_rfl) (by exact fun _ _ _ h => h) (by rfl) hS ?_ ?_
                    rotate_left; · (intro w hSw; go_simp; try with_reducible rfl)
                    try simp only [Act.put, List.setIfInBounds_toArray, List.set_cons_zero, List.set_cons_succ]
                    refine tk 20 (v := ?_) (by simp only [List.getElem?_toArray, List.getElem?_cons_succ, List.getElem?_cons_zero]; rfl) (by kernel_rfl) (by exact fun _ _ _ h => h) (by rfl) hS ?_ ?_
                    rotate_left; · (intro w hSw; go_simp; try with_reducible rfl)
                    try simp only [Act.put, List.setIfInBounds_toArray, List.set_cons_zero, List.set_cons_succ]
                    refine tk 21 (v := ?_) (by simp only [List.getElem?_toArray, List.getElem?_cons_succ, List.getElem?_cons_zero]; rfl) (by kernel_rfl) (by exact fun _ _ _ h => h) (by rfl) hS ?_ ?_
                    rotate_left; · (intro w hSw; go_simp; try with_reducible rfl)
                    try simp only [Act.put, List.setIfInBounds_toArray, List.set_cons_zero, List.set_cons_succ]
                    refine tk 22 (v := ?_) (by simp only [List.getElem?_toArray, List.getElem?_cons_succ, List.getElem?_cons_zero]; rfl) (by kernel_rfl) (by exact fun _ _ _ h => h) (by rfl) hS ?_ ?_
                    rotate_left; · (intro w hSw; go_simp; try with_reducible rfl)
                    try simp only [Act.put, List.setIfInBounds_toArray, List.set_cons_zero, List.set_cons_succ]
                    refine tk 23 (v := ?_) (by simp only [List.getElem?_toArray, List.getElem?_cons_succ, List.getElem?_cons_zero]; rfl) (by kernel_rfl) (by exact fun _ _ _ h => h) (by rfl) hS ?_ ?_
                    rotate_left; · (intro w hSw; go_simp; try with_reducible rfl)
                    try simp only [Act.put, List.setIfInBounds_toArray, List.set_cons_zero, List.set_cons_succ]
                    refine tk 24 (v := ?_) (by simp only [List.getElem?_toArray, List.getElem?_cons_succ, List.getElem?_cons_zero]; rfl) (by kernel_rfl) (by exact fun _ _ _ h => h) (by rfl) hS ?_ ?_
                    rotate_left; · (intro w hSw; go_simp; try with_reducible rfl)
                    try simp only [Act.put, List.setIfInBounds_toArray, List.set_cons_zero, List.set_cons_succ]
                    refine tk 25 (v := ?_) (by simp only [List.getElem?_toArray, List.getElem?_cons_succ, List.getElem?_cons_zero]; rfl) (by kernel_rfl) (by exact fun _ _ _ h => h) (by rfl) hS ?_ ?_
                    rotate_left; · (intro w hSw; go_simp; try with_reducible rfl)
                    try simp only [Act.put, List.setIfInBounds_toArray, List.set_cons_zero, List.set_cons_succ]
                    refine tk 26 (v := ?_) (by simp only [List.getElem?_toArray, List.getElem?_cons_succ, List.getElem?_cons_zero]; rfl) (by kernel_rfl) (by exact fun _ _ _ h => h) (by rfl) hS ?_ ?_
                    rotate_left; · (intro w hSw; go_simp; try with_reducible rfl)
                    try simp only [Act.put, List.setIfInBounds_toArray, List.set_cons_zero, List.set_cons_succ]
                    refine tk 27 (v := ?_) (by simp only [List.getElem?_toArray, List.getElem?_cons_succ, List.getElem?_cons_zero]; rfl) (by kernel_rfl) (by exact fun _ _ _ h => h) (by rfl) hS ?_ ?_
                    rotate_left; · (intro w hSw; go_simp; try with_reducible rfl)
                    try simp only [Act.put, List.setIfInBounds_toArray, List.set_cons_zero, List.set_cons_succ]
                    refine tk 28 (v := ?_) (by simp only [List.getElem?_toArray, List.getElem?_cons_succ, List.getElem?_cons_zero]; rfl) (by kernel_rfl) (by exact fun _ _ _ h => h) (by rfl) hS ?_ ?_
                    rotate_left; · (intro w hSw; go_simp; try with_reducible rfl)
                    try simp only [Act.put, List.setIfInBounds_toArray, List.set_cons_zero, List.set_cons_succ]
                    refine tk 29 (v := ?_) (by simp only [List.getElem?_toArray, List.getElem?_cons_succ, List.getElem?_cons_zero]; rfl) (by kernel_rfl) (by exact fun _ _ _ h => h) (by rfl) hS ?_ ?_
                    rotate_left; · (intro w hSw; go_simp; try with_reducible rfl)
                    try simp only [Act.put, List.setIfInBounds_toArray, List.set_cons_zero, List.set_cons_succ]
                    refine skips (by kernel_rfl) (by exact fun _ _ _ _ h => h) [(30, 72), (31, 73), (32, 74), (33, 75), (34, 76), (35, 77), (36, 78), (37, 79), (38, 80), (39, 81), (40, 82), (41, 83), (42, 84), (43, 85), (44, 86), (45, 87), (46, 88), (47, 89), (48, 90), (49, 91), (50, 92), (51, 93), (52, 94), (53, 95)] 2 26 _ _ _ rfl (by kernel_rfl) hS ?_
                    simp only [skL, skA, Act.put, List.setIfInBounds_toArray, List.set_cons_zero, List.set_cons_succ]
                    refine tk 54 (v := ?_) (by simp only [List.getElem?_toArray, List.getElem?_cons_succ, List.getElem?_cons_zero]; rfl) (by kernel_rfl) (by exact fun _ _ _ h => h) (by rfl) hS ?_ ?_
                    rotate_left; · (intro w hSw; go_simp; try with_reducible rfl)
                    try simp only [Act.put, List.setIfInBounds_toArray, List.set_cons_zero, List.set_cons_succ]
                    refine tk 55 (v := ?_) (by simp only [List.getElem?_toArray, List.getElem?_cons_succ, List.getElem?_cons_zero]; rfl) (by kernel_rfl) (by exact fun _ _ _ h => h) (by rfl) hS ?_ ?_
                    rotate_left; · (intro w hSw; go_simp; try with_reducible rfl)
                    try simp only [Act.put, List.setIfInBounds_toArray, List.set_cons_zero, List.set_cons_succ]
                    refine wpAnyH_done (by kernel_rfl) ?_ _
                    go_wp2
                    go_roundw
                    case rel => exact ⟨j + 1, j, k1, by omega, by go_num, rfl, rfl, hP'.out, hMt.out.symm, D2.out⟩
                    case measure => simp [intOf] <;> omega
                  · have hwl : decide (k1 < k2) = false := decide_eq_false hw2
                    have hP' := Lib.hid (hxn.out (by unfold lessWorn; rw [if_neg hw1]; exact hwl))
                    have AL : Hid (∀ w', Below w.heap.size w w' → (w'.cell? ⟨b, off + j * 7, none⟩ = some (.int .i64 n1) ∧ w'.cell? ⟨b, off + j * 7 + 1, none⟩ = some (.int .i64 l1) ∧ w'.cell? ⟨b, off + j * 7 + 2, none⟩ = some (.int .i64 p1) ∧ w'.cell? ⟨b, off + j * 7 + 3, none⟩ = some (.int .i64 k1) ∧ w'.cell? ⟨b, off + j * 7 + 4, none⟩ = some (.bool false) ∧ w'.cell? ⟨b, off + j * 7 + 5, none⟩ = some (.bool e1) ∧ w'.cell? ⟨b, off + j * 7 + 6, none⟩ = some (.bool false)) ∧ (w'.cell? ⟨b, off + q * 7, none⟩ = some (.int .i64 n2) ∧ w'.cell? ⟨b, off + q * 7 + 1, none⟩ = some (.int .i64 l2) ∧ w'.cell? ⟨b, off + q * 7 + 2, none⟩ = some (.int .i64 p2) ∧ w'.cell? ⟨b, off + q * 7 + 3, none⟩ = some (.int .i64 k2) ∧ w'.cell? ⟨b, off + q * 7 + 4, none⟩ = some (.bool o2) ∧ w'.cell? ⟨b, off + q * 7 + 5, none⟩ = some (.bool e2) ∧ w'.cell? ⟨b, off + q * 7 + 6, none⟩ = some (.bool b2))) := Lib.hid fun w' h => ⟨AJ.out w' h, AQ.out w' h⟩
                    clear hxy hxn AQ
                    go_wp2_with fail
                    refine (HMr.out _).mono ?_
                    rintro e' wD1 ⟨rfl, bD1⟩
                    have D1 := Lib.hid (hB.out.trans (bD1.mono hB.out.size))
                    have D0 : Hid (Below w.heap.size w wD1.drew) := Lib.hid D1.out.drew
                    obtain ⟨d0, d1, d2, d3, d4, d5, d6⟩ := AJ.out _ D1.out
                    dsimp only at d0 d1 d2 d3 d4 d5 d6
                    clear bD1
                    go_wp2_with fail
                    clear d0 d1 d2 d3 d4 d5 d6
                    refine wp_region_held_drew (S := fun w' => (w'.cell? ⟨b, off + j * 7, none⟩ = some (.int .i64 n1) ∧ w'.cell? ⟨b, off + j * 7 + 1, none⟩ = some (.int .i64 l1) ∧ w'.cell? ⟨b, off + j * 7 + 2, none⟩ = some (.int .i64 p1) ∧ w'.cell? ⟨b, off + j * 7 + 3, none⟩ = some (.int .i64 k1) ∧ w'.cell? ⟨b, off + j * 7 + 4, none⟩ = some (.bool false) ∧ w'.cell? ⟨b, off + j * 7 + 5, none⟩ = some (.bool e1) ∧ w'.cell? ⟨b, off + j * 7 + 6, none⟩ = some (.bool false)) ∧ (w'.cell? ⟨b, off + q * 7, none⟩ = some (.int .i64 n2) ∧ w'.cell? ⟨b, off + q * 7 + 1, none⟩ = some (.int .i64 l2) ∧ w'.cell? ⟨b, off + q * 7 + 2, none⟩ = some (.int .i64 p2) ∧ w'.cell? ⟨b, off + q * 7 + 3, none⟩ = some (.int .i64 k2) ∧ w'.cell? ⟨b, off + q * 7 + 4, none⟩ = some (.bool o2) ∧ w'.cell? ⟨b, off + q * 7 + 5, none⟩ = some (.bool e2) ∧ w'.cell? ⟨b, off + q * 7 + 6, none⟩ = some (.bool b2))) (by kernel_rfl) (AL.out _ D0.out) (fun hS => ?_)
                    try simp only [List.size_toArray, List.length_cons, List.length_nil, Nat.reduceAdd]
                    refine tk 0 (v := ?_) (by simp only [List.getElem?_toArray, List.getElem?_cons_succ, List.getElem?_cons_zero]; rfl) (by kernel_rfl) (by exact fun _ _ _ h => h) (by rfl) hS ?_ ?_
                    rotate_left; · (intro w hSw; go_simp; try with_reducible rfl)
                    try simp only [Act.put, List.setIfInBounds_toArray, List.set_cons_zero, List.set_cons_succ]
                    refine tk 1 (v := ?_) (by simp only [List.getElem?_toArray, List.getElem?_cons_succ, List.getElem?_cons_zero]; rfl) (by kernel_rfl) (by exact fun _ _ _ h => h) (by rfl) hS ?_ ?_
                    rotate_left; · (intro w hSw; go_simp; try with_reducible rfl)
                    try simp only [Act.put, List.setIfInBounds_toArray, List.set_cons_zero, List.set_cons_succ]
                    refine tk 2 (v := ?_) (by simp only [List.getElem?_toArray, List.getElem?_cons_succ, List.getElem?_cons_zero]; rfl) (by kernel_rfl) (by exact fun _ _ _ h => h) (by rfl) hS ?_ ?_
                    rotate_left; · (intro w hSw; go_simp; try with_reducible rfl)
                    try simp only [Act.put, List.setIfInBounds_toArray, List.set_cons_zero, List.set_cons_succ]
                    refine tk 3 (v := ?_) (by simp only [List.getElem?_toArray, List.getElem?_cons_succ, List.getElem?_cons_zero]; rfl) (by kernel_rfl) (by exact fun _ _ _ h => h) (by rfl) hS ?_ ?_
                    rotate_left; · (intro w hSw; go_simp; try with_reducible rfl)
                    try simp only [Act.put, List.setIfInBounds_toArray, List.set_cons_zero, List.set_cons_succ]
                    refine wpAnyH_ready (rs := [4]) (by kernel_rfl) (by simp) ?_
                    refine AllReadyH.cons (by simp only [List.getElem?_toArray, List.getElem?_cons_succ, List.getElem?_cons_zero]; rfl) (fun K hK => ?_) AllReadyH.nil
                    go_simp
                    go_at_call 78
                    refine (HM.out _).mono ?_
                    rintro e' wD2 ⟨rfl, bD2⟩
                    have D2 : Hid (Below w.heap.size w wD2) := Lib.hid (D0.out.trans (bD2.mono D0.out.size))
                    clear bD2
                    refine hK.out _ _ (AL.out _ D2.out) (fun hS => ?_)
                    clear hK K
                    try simp only [Act.put, List.setIfInBounds_toArray, List.set_cons_zero, List.set_cons_succ]
                    refine tk 5 (v := ?_) (by simp only [List.getElem?_toArray, List.getElem?_cons_succ, List.getElem?_cons_zero]; rfl) (by kernel_rfl) (by exact fun _ _ _ h => h) (by rfl) hS ?_ ?_
                    rotate_left; · (intro w hSw; go_simp; try with_reducible rfl)
                    try simp only [Act.put, List.setIfInBounds_toArray, List.set_cons_zero, List.set_cons_succ]
                    refine tk 6 (v := ?_) (by simp only [List.getElem?_toArray, List.getElem?_cons_succ, List.getElem?_cons_zero]; rfl) (by kernel_rfl) (by exact fun _ _ _ h => h) (by rfl) hS ?_ ?_
                    rotate_left; · (intro w hSw; go_simp; try with_reducible rfl)
                    try simp only [Act.put, List.setIfInBounds_toArray, List.set_cons_zero, List.set_cons_succ]
                    refine tk 7 (v := ?_) (by simp only [List.getElem?_toArray, List.getElem?_cons_succ, List.getElem?_cons_zero]; rfl) (by kernel_rfl) (by exact fun _ _ _ h => h) (by rfl) hS ?_ ?_
                    rotate_left; · (intro w hSw; go_simp; try with_reducible rfl)
                    try simp only [Act.put, List.setIfInBounds_toArray, List.set_cons_zero, List.set_cons_succ]
                    refine tk 8 (v := ?_) (by simp only [List.getElem?_toArray, List.getElem?_cons_succ, List.getElem?_cons_zero]; rfl) (by kernel_rfl) (by exact fun _ _ _ h => h) (by rfl) hS ?_ ?_
                    rotate_left; · (intro w hSw; go_simp; try with_reducible rfl)
                    try simp only [Act.put, List.setIfInBounds_toArray, List.set_cons_zero, List.set_cons_succ]
                    refine tk 9 (v := ?_) (by simp only [List.getElem?_toArray, List.getElem?_cons_succ, List.getElem?_cons_zero]; rfl) (by kernel_rfl) (by exact fun _ _ _ h => h) (by rfl) hS ?_ ?_
                    rotate_left; · (intro w hSw; go_simp; try with_reducible rfl)
                    try simp only [Act.put, List.setIfInBounds_toArray, List.set_cons_zero, List.set_cons_succ]
                    refine tk 10 (v := ?_) (by simp only [List.getElem?_toArray, List.getElem?_cons_succ, List.getElem?_cons_zero]; rfl) (by kernel_rfl) (by exact fun _ _ _ h => h) (by rfl) hS ?_ ?_
                    rotate_left; · (intro w hSw; go_simp; try with_reducible rfl)
                    try simp only [Act.put, List.setIfInBounds_toArray, List.set_cons_zero, List.set_cons_succ]
                    refine tk 11 (v := ?_) (by simp only [List.getElem?_toArray, List.getElem?_cons_succ, List.getElem?_cons_zero]; rfl) (by kernel_rfl) (by exact fun _ _ _ h => h) (by rfl) hS ?_ ?_
                    rotate_left; · (intro w hSw; go_simp; try with_reducible rfl)
                    try simp only [Act.put, List.setIfInBounds_toArray, List.set_cons_zero, List.set_cons_succ]
                    refine tk 12 (v := ?_) (by simp only [List.getElem?_toArray, List.getElem?_cons_succ, List.getElem?_cons_zero]; rfl) (by kernel_rfl) (by exact fun _ _ _ h => h) (by rfl) hS ?_ ?_
                    rotate_left; · (intro w hSw; go_simp; try with_reducible rfl)
                    try simp only [Act.put, List.setIfInBounds_toArray, List.set_cons_zero, List.set_cons_succ]
                    refine tk 13 (v := ?_) (by simp only [List.getElem?_toArray, List.getElem?_cons_succ, List.getElem?_cons_zero]; rfl) (by kernel_rfl) (by exact fun _ _ _ h => h) (by rfl) hS ?_ ?_
                    rotate_left; · (intro w hSw; go_simp; try with_reducible rfl)
                    try simp only [Act.put, List.setIfInBounds_toArray, List.set_cons_zero, List.set_cons_succ]
                    refine tk 14 (v := ?_) (by simp only [List.getElem?_toArray, List.getElem?_cons_succ, List.getElem?_cons_zero]; rfl) (by kernel_rfl) (by exact fun _ _ _ h => h) (by rfl) hS ?_ ?_
                    rotate_left; · (intro w hSw; go_simp; try with_reducible rfl)
                    try simp only [Act.put, List.setIfInBounds_toArray, List.set_cons_zero, List.set_cons_succ]
                    refine tk 15 (v := ?_) (by simp only [List.getElem?_toArray, List.getElem?_cons_succ, List.getElem?_cons_zero]; rfl) (by kernel_rfl) (by exact fun _ _ _ h => h) (by rfl) hS ?_ ?_
                    rotate_left; · (intro w hSw; go_simp; try with_reducible rfl)
                    try simp only [Act.put, List.setIfInBounds_toArray, List.set_cons_zero, List.set_cons_succ]
                    refine tk 16 (v := ?_) (by simp only [List.getElem?_toArray, List.getElem?_cons_succ, List.getElem?_cons_zero]; rfl) (by kernel_rfl) (by exact fun _ _ _ h => h) (by rfl) hS ?_ ?_
                    rotate_left; · (intro w hSw; go_simp; try with_reducible rfl)
                    try simp only [Act.put, List.setIfInBounds_toArray, List.set_cons_zero, List.set_cons_succ]
                    refine tk 17 (v := ?_) (by simp only [List.getElem?_toArray, List.getElem?_cons_succ, List.getElem?_cons_zero]; rfl) (by kernel_rfl) (by exact fun _ _ _ h => h) (by rfl) hS ?_ ?_
                    rotate_left; · (intro w hSw; go_simp; try with_reducible rfl)
                    try simp only [Act.put, List.setIfInBounds_toArray, List.set_cons_zero, List.set_cons_succ]
                    refine tk 18 (v := ?_) (by simp only [List.getElem?_toArray, List.getElem?_cons_succ, List.getElem?_cons_zero]; rfl) (by kernel_rfl) (by exact fun _ _ _ h => h) (by rfl) hS ?_ ?_
                    rotate_left; · (intro w hSw; go_simp; try with_reducible rfl)
                    try simp only [Act.put, List.setIfInBounds_toArray, List.set_cons_zero, List.set_cons_succ]
                    refine tk 19 (v := ?_) (by simp only [List.getElem?_toArray, List.getElem?_cons_succ, List.getElem?_cons_zero]; rfl) (by kernel_rfl) (by exact fun _ _ _ h => h) (by rfl) hS ?_ ?_
                    rotate_left; · (intro w hSw; go_simp; try with_reducible rfl)
                    try simp only [Act.put, List.setIfInBounds_toArray, List.set_cons_zero, List.set_cons_succ]
                    refine tk 20 (v := ?_) (by simp only [List.getElem?_toArray, List.getElem?_cons_succ, List.getElem?_cons_zero]; rfl) (by kernel_rfl) (by exact fun _ _ _ h => h) (by rfl) hS ?_ ?_
                    rotate_left; · (intro w hSw; go_simp; try with_reducible rfl)
                    try simp only [Act.put, List.setIfInBounds_toArray, List.set_cons_zero, List.set_cons_succ]
                    refine tk 21 (v := ?_) (by simp only [List.getElem?_toArray, List.getElem?_cons_succ, List.getElem?_cons_zero]; rfl) (by kernel_rfl) (by exact fun _ _ _ h => h) (by rfl) hS ?_ ?_
                    rotate_left; · (intro w hSw; go_simp; try with_reducible rfl)
                    try simp only [Act.put, List.setIfInBounds_toArray, List.set_cons_zero, List.set_cons_succ]
                    refine tk 22 (v := ?_) (by simp only [List.getElem?_toArray, List.getElem?_cons_succ, List.getElem?_cons_zero]; rfl) (by kernel_rfl) (by exact fun _ _ _ h => h) (by rfl) hS ?_ ?_
                    rotate_left; · (intro w hSw; go_simp; try with_reducible rfl)
                    try simp only [Act.put, List.setIfInBounds_toArray, List.set_cons_zero, List.set_cons_succ]
                    refine tk 23 (v := ?_) (by simp only [List.getElem?_toArray, List.getElem?_cons_succ, List.getElem?_cons_zero]; rfl) (by kernel_rfl) (by exact fun _ _ _ h => h) (by rfl) hS ?_ ?_
                    rotate_left; · (intro w hSw; go_simp; try with_reducible rfl)
                    try simp only [Act.put, List.setIfInBounds_toArray, List.set_cons_zero, List.set_cons_succ]
                    refine tk 24 (v := ?_) (by simp only [List.getElem?_toArray, List.getElem?_cons_succ, List.getElem?_cons_zero]; rfl) (by kernel_rfl) (by exact fun _ _ _ h => h) (by rfl) hS ?_ ?_
                    rotate_left; · (intro w hSw; go_simp; try with_reducible rfl)
                    try simp only [Act.put, List.setIfInBounds_toArray, List.set_cons_zero, List.set_cons_succ]
                    refine tk 25 (v := ?_) (by simp only [List.getElem?_toArray, List.getElem?_cons_succ, List.getElem?_cons_zero]; rfl) (by kernel_rfl) (by exact fun _ _ _ h => h) (by rfl) hS ?_ ?_
                    rotate_left; · (intro w hSw; go_simp; try with_reducible rfl)
                    try simp only [Act.put, List.setIfInBounds_toArray, List.set_cons_zero, List.set_cons_succ]
                    refine tk 26 (v := ?_) (by simp only [List.getElem?_toArray, List.getElem?_cons_succ, List.getElem?_cons_zero]; rfl) (by kernel_rfl) (by exact fun _ _ _ h => h) (by rfl) hS ?_ ?_
                    rotate_left; · (intro w hSw; go_simp; try with_reducible rfl)
                    try simp only [Act.put, List.setIfInBounds_toArray, List.set_cons_zero, List.set_cons_succ]
                    refine tk 27 (v := ?_) (by simp only [List.getElem?_toArray, List.getElem?_cons_succ, List.getElem?_cons_zero]; rfl) (by kernel_rfl) (by exact fun _ _ _ h => h) (by rfl) hS ?_ ?_
                    rotate_left; · (intro w hSw; go_simp; try with_reducible rfl)
                    try simp only [Act.put, List.setIfInBounds_toArray, List.set_cons_zero, List.set_cons_succ]
                    refine tk 28 (v := ?_) (by simp only [List.getElem?_toArray, List.getElem?_cons_succ, List.getElem?_cons_zero]; rfl) (by kernel_rfl) (by exact fun _ _ _ h => h) (by rfl) hS ?_ ?_
                    rotate_left; · (intro w hSw; go_simp; try with_reducible rfl)
                    try simp only [Act.put, List.setIfInBounds_toArray, List.set_cons_zero, List.set_cons_succ]
                    refine tk 29 (v := ?_) (by simp only [List.getElem?_toArray, List.getElem?_cons_succ, List.getElem?_cons_zero]; rfl) (by kernel_rfl) (by exact fun _ _ _ h => h) (by rfl) hS ?_ ?_
                    rotate_left; · (intro w hSw; go_simp; try with_reducible rfl)
                    try simp only [Act.put, List.setIfInBounds_toArray, List.set_cons_zero, List.set_cons_succ]
                    refine tk 30 (v := ?_) (by simp only [List.getElem?_toArray, List.getElem?_cons_succ, List.getElem?_cons_zero]; rfl) (by kernel_rfl) (by exact fun _ _ _ h => h) (by rfl) hS ?_ ?_
                    rotate_left; · (intro w hSw; go_simp; try with_reducible rfl)
                    try simp only [Act.put, List.setIfInBounds_toArray, List.set_cons_zero, List.set_cons_succ]
                    refine tk 31 (v := ?_) (by simp only [List.getElem?_toArray, List.getElem?_cons_succ, List.getElem?_cons_zero]; rfl) (by kernel_rfl) (by exact fun _ _ _ h => h) (by rfl) hS ?_ ?_
                    rotate_left; · (intro w hSw; go_simp; try with_reducible rfl)
                    try simp only [Act.put, List.setIfInBounds_toArray, List.set_cons_zero, List.set_cons_succ]
                    refine tk 32 (v := ?_) (by simp only [List.getElem?_toArray, List.getElem?_cons_succ, List.getElem?_cons_zero]; rfl) (by kernel_rfl) (by exact fun _ _ _ h => h) (by rfl) hS ?_ ?_
                    rotate_left; · (intro w hSw; go_simp; try with_reducible rfl)
                    try simp only [Act.put, List.setIfInBounds_toArray, List.set_cons_zero, List.set_cons_succ]
                    refine tk 33 (v := ?_) (by simp only [List.getElem?_toArray, List.getElem?_cons_succ, List.getElem?_cons_zero]; rfl) (by kernel_rfl) (by exact fun _ _ _ h => h) (by rfl) hS ?_ ?_
                    rotate_left; · (intro w hSw; go_simp; try with_reducible rfl)
                    try simp only [Act.put, List.setIfInBounds_toArray, List.set_cons_zero, List.set_cons_succ]
                    refine tk 34 (v := ?_) (by simp only [List.getElem?_toArray, List.getElem?_cons_succ, List.getElem?_cons_zero]; rfl) (by kernel_rfl) (by exact fun _ _ _ h => h) (by rfl) hS ?_ ?_
                    rotate_left; · (intro w hSw; go_simp; try with_reducible rfl)
                    try simp only [Act.put, List.setIfInBounds_toArray, List.set_cons_zero, List.set_cons_succ]
                    refine tk 35 (v := ?_) (by simp only [List.getElem?_toArray, List.getElem?_cons_succ, List.getElem?_cons_zero]; rfl) (by kernel_rfl) (by exact fun _ _ _ h => h) (by rfl) hS ?_ ?_
                    rotate_left; · (intro w hSw; go_simp; try with_reducible rfl)
                    try simp only [Act.put, List.setIfInBounds_toArray, List.set_cons_zero, List.set_cons_succ]
                    refine tk 36 (v := ?_) (by simp only [List.getElem?_toArray, List.getElem?_cons_succ, List.getElem?_cons_zero]; rfl) (by kernel_rfl) (by exact fun _ _ _ h => h) (by rfl) hS ?_ ?_
                    rotate_left; · (intro w hSw; go_simp; try with_reducible rfl)
                    try simp only [Act.put, List.setIfInBounds_toArray, List.set_cons_zero, List.set_cons_succ]
                    refine tk 37 (v := ?_) (by simp only [List.getElem?_toArray, List.getElem?_cons_succ, List.getElem?_cons_zero]; rfl) (by kernel_rfl) (by exact fun _ _ _ h => h) (by rfl) hS ?_ ?_
                    rotate_left; · (intro w hSw; go_simp; try with_reducible rfl)
                    try simp only [Act.put, List.setIfInBounds_toArray, List.set_cons_zero, List.set_cons_succ]
                    refine tk 38 (v := ?_) (by simp only [List.getElem?_toArray, List.getElem?_cons_succ, List.getElem?_cons_zero]; rfl) (by kernel_rfl) (by exact fun _ _ _ h => h) (by rfl) hS ?_ ?_
                    rotate_left; · (intro w hSw; go_simp; try with_reducible rfl)
                    try simp only [Act.put, List.setIfInBounds_toArray, List.set_cons_zero, List.set_cons_succ]
                    refine tk 39 (v := ?_) (by simp only [List.getElem?_toArray, List.getElem?_cons_succ, List.getElem?_cons_zero]; rfl) (by kernel_rfl) (by exact fun _ _ _ h => h) (by rfl) hS ?_ ?_
                    rotate_left; · (intro w hSw; go_simp; try with_reducible rfl)
                    try simp only [Act.put, List.setIfInBounds_toArray, List.set_cons_zero, List.set_cons_succ]
                    refine tk 40 (v := ?_) (by simp only [List.getElem?_toArray, List.getElem?_cons_succ, List.getElem?_cons_zero]; rfl) (by kernel_rfl) (by exact fun _ _ _ h => h) (by rfl) hS ?_ ?_
                    rotate_left; · (intro w hSw; go_simp; try with_reducible rfl)
                    try simp only [Act.put, List.setIfInBounds_toArray, List.set_cons_zero, List.set_cons_succ]
                    refine tk 41 (v := ?_) (by simp only [List.getElem?_toArray, List.getElem?_cons_succ, List.getElem?_cons_zero]; rfl) (by kernel_rfl) (by exact fun _ _ _ h => h) (by rfl) hS ?_ ?_
                    rotate_left; · (intro w hSw; go_simp; try with_reducible rfl)
                    try simp only [Act.put, List.setIfInBounds_toArray, List.set_cons_zero, List.set_cons_succ]
                    refine skips (by kernel_rfl) (by exact fun _ _ _ _ h => h) [(42, 84), (43, 85), (44, 86), (45, 87), (46, 88), (47, 89), (48, 90), (49, 91), (50, 92), (51, 93), (52, 94)] 3 14 _ _ _ rfl (by kernel_rfl) hS ?_
                    simp only [skL, skA, Act.put, List.setIfInBounds_toArray, List.set_cons_zero, List.set_cons_succ]
                    refine tk 53 (v := ?_) (by simp only [List.getElem?_toArray, List.getElem?_cons_succ, List.getElem?_cons_zero]; rfl) (by kernel_rfl) (by exact fun _ _ _ h => h) (by rfl) hS ?_ ?_
                    rotate_left; · (intro w hSw; go_simp; try with_reducible rfl)
                    try simp only [Act.put, List.setIfInBounds_toArray, List.set_cons_zero, List.set_cons_succ]
                    refine tk 54 (v := ?_) (by simp only [List.getElem?_toArray, List.getElem?_cons_succ, List.getElem?_cons_zero]; rfl) (by kernel_rfl) (by exact fun _ _ _ h => h) (by rfl) hS ?_ ?_
                    rotate_left; · (intro w hSw; go_simp; try with_reducible rfl)
                    try simp only [Act.put, List.setIfInBounds_toArray, List.set_cons_zero, List.set_cons_succ]
                    refine tk 55 (v := ?_) (by simp only [List.getElem?_toArray, List.getElem?_cons_succ, List.getElem?_cons_zero]; rfl) (by kernel_rfl) (by exact fun _ _ _ h => h) (by rfl) hS ?_ ?_
                    rotate_left; · (intro w hSw; go_simp; try with_reducible rfl)
                    try simp only [Act.put, List.setIfInBounds_toArray, List.set_cons_zero, List.set_cons_succ]
                    refine wpAnyH_done (by kernel_rfl) ?_ _
                    go_wp2
                    go_roundw
                    case rel => exact ⟨j + 1, _, k1, by omega, by go_num, rfl, rfl, hP'.out, hMt.out.symm, D2.out⟩
                    case measure => simp [intOf] <;> omega
          · have hMt : Hid (mostOf (l.take (j + 1)) = M) := Lib.hid (by rw [hMs.out]; unfold mstep; rw [if_pos ⟨hR, hbad⟩]; omega)
            clear hMs
            cases hopn : x.opn with
            | true =>
              have hu : usable x = false := by unfold usable; rw [hR, hopn]; rfl
              have HM : Hid (∀ w, Calls Try.prog 78 #[val x] w fun e w' => e = .returned (.bool false) ∧ Below w.heap.size w w') := Lib.hid fun w => by have := mayR x w; rw [hu] at this; exact this
              have hP' := Lib.hid (hx0.out (by unfold WearVM.live; rw [hu]; rfl))
              obtain ⟨n1, l1, p1, k1, o1, e1, b1⟩ := x
              obtain ⟨d0, d1, d2, d3, d4, d5, d6⟩ := d
              dsimp only at d0 d1 d2 d3 d4 d5 d6
              dsimp only at hbad hopn hgt hMt
              subst hbad hopn
              have AL : Hid (∀ w', Below w.heap.size w w' → (w'.cell? ⟨b, off + j * 7, none⟩ = some (.int .i64 n1) ∧ w'.cell? ⟨b, off + j * 7 + 1, none⟩ = some (.int .i64 l1) ∧ w'.cell? ⟨b, off + j * 7 + 2, none⟩ = some (.int .i64 p1) ∧ w'.cell? ⟨b, off + j * 7 + 3, none⟩ = some (.int .i64 k1) ∧ w'.cell? ⟨b, off + j * 7 + 4, none⟩ = some (.bool true) ∧ w'.cell? ⟨b, off + j * 7 + 5, none⟩ = some (.bool e1) ∧ w'.cell? ⟨b, off + j * 7 + 6, none⟩ = some (.bool false))) := Lib.hid AJ.out
              clear hx0 hx1 hx2 hx3 hu hcase AQ hR
              go_wp2_with fail
              refine (HMr.out _).mono ?_
              rintro e' wD1 ⟨rfl, bD1⟩
              have D1 := Lib.hid (hB.out.trans (bD1.mono hB.out.size))
              have D0 : Hid (Below w.heap.size w wD1.drew) := Lib.hid D1.out.drew
              obtain ⟨d0, d1, d2, d3, d4, d5, d6⟩ := AJ.out _ D1.out
              dsimp only at d0 d1 d2 d3 d4 d5 d6
              clear bD1
              go_wp2_with fail
              clear d0 d1 d2 d3 d4 d5 d6
              refine wp_region_held_drew (S := fun w' => (w'.cell? ⟨b, off + j * 7, none⟩ = some (.int .i64 n1) ∧ w'.cell? ⟨b, off + j * 7 + 1, none⟩ = some (.int .i64 l1) ∧ w'.cell? ⟨b, off + j * 7 + 2, none⟩ = some (.int .i64 p1) ∧ w'.cell? ⟨b, off + j * 7 + 3, none⟩ = some (.int .i64 k1) ∧ w'.cell? ⟨b, off + j * 7 + 4, none⟩ = some (.bool true) ∧ w'.cell? ⟨b, off + j * 7 + 5, none⟩ = some (.bool e1) ∧ w'.cell? ⟨b, off + j * 7 + 6, none⟩ = some (.bool false))) (by kernel_rfl) (AL.out _ D0.out) (fun hS => ?_)
              try simp only [List.size_toArray, List.length_cons, List.length_nil, Nat.reduceAdd]
              refine tk 0 (v := ?_) (by simp only [List.getElem?_toArray, List.getElem?_cons_succ, List.getElem?_cons_zero]; rfl) (by kernel_rfl) (by exact fun _ _ _ h => h) (by rfl) hS ?_ ?_
              rotate_left; · (intro w hSw; go_simp; try with_reducible rfl)
              try simp only [Act.put, List.setIfInBounds_toArray, List.set_cons_zero, List.set_cons_succ]
              refine tk 1 (v := ?_) (by simp only [List.getElem?_toArray, List.getElem?_cons_succ, List.getElem?_cons_zero]; rfl) (by kernel_rfl) (by exact fun _ _ _ h => h) (by rfl) hS ?_ ?_
              rotate_left; · (intro w hSw; go_simp; try with_reducible rfl)
              try simp only [Act.put, List.setIfInBounds_toArray, List.set_cons_zero, List.set_cons_succ]
              refine tk 2 (v := ?_) (by simp only [List.getElem?_toArray, List.getElem?_cons_succ, List.getElem?_cons_zero]; rfl) (by kernel_rfl) (by exact fun _ _ _ h => h) (by rfl) hS ?_ ?_
              rotate_left; · (intro w hSw; go_simp; try with_reducible rfl)
              try simp only [Act.put, List.setIfInBounds_toArray, List.set_cons_zero, List.set_cons_succ]
              refine tk 3 (v := ?_) (by simp only [List.getElem?_toArray, List.getElem?_cons_succ, List.getElem?_cons_zero]; rfl) (by kernel_rfl) (by exact fun _ _ _ h => h) (by rfl) hS ?_ ?_
              rotate_left; · (intro w hSw; go_simp; try with_reducible rfl)
              try simp only [Act.put, List.setIfInBounds_toArray, List.set_cons_zero, List.set_cons_succ]
              refine wpAnyH_ready (rs := [4]) (by kernel_rfl) (by simp) ?_
              refine AllReadyH.cons (by simp only [List.getElem?_toArray, List.getElem?_cons_succ, List.getElem?_cons_zero]; rfl) (fun K hK => ?_) AllReadyH.nil
              go_simp
              go_at_call 78
              refine (HM.out _).mono ?_
              rintro e' wD2 ⟨rfl, bD2⟩
              have D2 : Hid (Below w.heap.size w wD2) := Lib.hid (D0.out.trans (bD2.mono D0.out.size))
              clear bD2
              refine hK.out _ _ (AL.out _ D2.out) (fun hS => ?_)
              clear hK K
              try simp only [Act.put, List.setIfInBounds_toArray, List.set_cons_zero, List.set_cons_succ]
              refine tk 5 (v := ?_) (by simp only [List.getElem?_toArray, List.getElem?_cons_succ, List.getElem?_cons_zero]; rfl) (by kernel_rfl) (by exact fun _ _ _ h => h) (by rfl) hS ?_ ?_
              rotate_left; · (intro w hSw; go_simp; try with_reducible rfl)
              try simp only [Act.put, List.setIfInBounds_toArray, List.set_cons_zero, List.set_cons_succ]
              refine skips (by kernel_rfl) (by exact fun _ _ _ _ h => h) [(6, 48), (7, 49), (8, 50), (9, 51), (10, 52), (11, 53)] 44 50 _ _ _ rfl (by kernel_rfl) hS ?_
              simp only [skL, skA, Act.put, List.setIfInBounds_toArray, List.set_cons_zero, List.set_cons_succ]
              refine tk 12 (v := ?_) (by simp only [List.getElem?_toArray, List.getElem?_cons_succ, List.getElem?_cons_zero]; rfl) (by kernel_rfl) (by exact fun _ _ _ h => h) (by rfl) hS ?_ ?_
              rotate_left; · (intro w hSw; go_simp; try with_reducible rfl)
              try simp only [Act.put, List.setIfInBounds_toArray, List.set_cons_zero, List.set_cons_succ]
              refine tk 13 (v := ?_) (by simp only [List.getElem?_toArray, List.getElem?_cons_succ, List.getElem?_cons_zero]; rfl) (by kernel_rfl) (by exact fun _ _ _ h => h) (by rfl) hS ?_ ?_
              rotate_left; · (intro w hSw; go_simp; try with_reducible rfl)
              try simp only [Act.put, List.setIfInBounds_toArray, List.set_cons_zero, List.set_cons_succ]
              refine skips (by kernel_rfl) (by exact fun _ _ _ _ h => h) [(14, 56), (15, 57), (16, 58), (17, 59), (18, 60), (19, 61), (20, 62), (21, 63), (22, 64), (23, 65), (24, 66), (25, 67), (26, 68), (27, 69), (28, 70), (29, 71), (30, 72), (31, 73), (32, 74), (33, 75), (34, 76), (35, 77), (36, 78), (37, 79), (38, 80), (39, 81), (40, 82), (41, 83), (42, 84), (43, 85), (44, 86), (45, 87), (46, 88), (47, 89), (48, 90), (49, 91), (50, 92), (51, 93), (52, 94), (53, 95), (54, 96)] 1 42 _ _ _ rfl (by kernel_rfl) hS ?_
              simp only [skL, skA, Act.put, List.setIfInBounds_toArray, List.set_cons_zero, List.set_cons_succ]
              refine tk 55 (v := ?_) (by simp only [List.getElem?_toArray, List.getElem?_cons_succ, List.getElem?_cons_zero]; rfl) (by kernel_rfl) (by exact fun _ _ _ h => h) (by rfl) hS ?_ ?_
              rotate_left; · (intro w hSw; go_simp; try with_reducible rfl)
              try simp only [Act.put, List.setIfInBounds_toArray, List.set_cons_zero, List.set_cons_succ]
              refine wpAnyH_done (by kernel_rfl) ?_ _
              go_wp2
              go_roundw
              case rel => exact ⟨j + 1, kk, M, by omega, by go_num, rfl, rfl, hP'.out, hMt.out.symm, D2.out⟩
              case measure => simp [intOf] <;> omega
            | false =>
              have hu : usable x = true := by unfold usable; rw [hR, hopn, hbad]; rfl
              have HM : Hid (∀ w, Calls Try.prog 78 #[val x] w fun e w' => e = .returned (.bool true) ∧ Below w.heap.size w w') := Lib.hid fun w => by have := mayR x w; rw [hu] at this; exact this
              by_cases hl : 0 < x.live
              case neg =>
                have hP' := Lib.hid (hx0.out (by unfold WearVM.live; rw [hu, decide_eq_false hl]; rfl))
                obtain ⟨n1, l1, p1, k1, o1, e1, b1⟩ := x
                obtain ⟨d0, d1, d2, d3, d4, d5, d6⟩ := d
                dsimp only at d0 d1 d2 d3 d4 d5 d6
                dsimp only at hbad hopn hgt hMt hl
                subst hbad hopn
                have hld : decide (0 < l1) = false := decide_eq_false hl
                have AL : Hid (∀ w', Below w.heap.size w w' → (w'.cell? ⟨b, off + j * 7, none⟩ = some (.int .i64 n1) ∧ w'.cell? ⟨b, off + j * 7 + 1, none⟩ = some (.int .i64 l1) ∧ w'.cell? ⟨b, off + j * 7 + 2, none⟩ = some (.int .i64 p1) ∧ w'.cell? ⟨b, off + j * 7 + 3, none⟩ = some (.int .i64 k1) ∧ w'.cell? ⟨b, off + j * 7 + 4, none⟩ = some (.bool false) ∧ w'.cell? ⟨b, off + j * 7 + 5, none⟩ = some (.bool e1) ∧ w'.cell? ⟨b, off + j * 7 + 6, none⟩ = some (.bool false))) := Lib.hid AJ.out
                clear hx0 hx1 hx2 hx3 hu hcase AQ hR
                go_wp2_with fail
                refine (HMr.out _).mono ?_
                rintro e' wD1 ⟨rfl, bD1⟩
                have D1 := Lib.hid (hB.out.trans (bD1.mono hB.out.size))
                have D0 : Hid (Below w.heap.size w wD1.drew) := Lib.hid D1.out.drew
                obtain ⟨d0, d1, d2, d3, d4, d5, d6⟩ := AJ.out _ D1.out
                dsimp only at d0 d1 d2 d3 d4 d5 d6
                clear bD1
                go_wp2_with fail
                clear d0 d1 d2 d3 d4 d5 d6
                refine wp_region_held_drew (S := fun w' => (w'.cell? ⟨b, off + j * 7, none⟩ = some (.int .i64 n1) ∧ w'.cell? ⟨b, off + j * 7 + 1, none⟩ = some (.int .i64 l1) ∧ w'.cell? ⟨b, off + j * 7 + 2, none⟩ = some (.int .i64 p1) ∧ w'.cell? ⟨b, off + j * 7 + 3, none⟩ = some (.int .i64 k1) ∧ w'.cell? ⟨b, off + j * 7 + 4, none⟩ = some (.bool false) ∧ w'.cell? ⟨b, off + j * 7 + 5, none⟩ = some (.bool e1) ∧ w'.cell? ⟨b, off + j * 7 + 6, none⟩ = some (.bool false))) (by kernel_rfl) (AL.out _ D0.out) (fun hS => ?_)
                try simp only [List.size_toArray, List.length_cons, List.length_nil, Nat.reduceAdd]
                refine tk 0 (v := ?_) (by simp only [List.getElem?_toArray, List.getElem?_cons_succ, List.getElem?_cons_zero]; rfl) (by kernel_rfl) (by exact fun _ _ _ h => h) (by rfl) hS ?_ ?_
                rotate_left; · (intro w hSw; go_simp; try with_reducible rfl)
                try simp only [Act.put, List.setIfInBounds_toArray, List.set_cons_zero, List.set_cons_succ]
                refine tk 1 (v := ?_) (by simp only [List.getElem?_toArray, List.getElem?_cons_succ, List.getElem?_cons_zero]; rfl) (by kernel_rfl) (by exact fun _ _ _ h => h) (by rfl) hS ?_ ?_
                rotate_left; · (intro w hSw; go_simp; try with_reducible rfl)
                try simp only [Act.put, List.setIfInBounds_toArray, List.set_cons_zero, List.set_cons_succ]
                refine tk 2 (v := ?_) (by simp only [List.getElem?_toArray, List.getElem?_cons_succ, List.getElem?_cons_zero]; rfl) (by kernel_rfl) (by exact fun _ _ _ h => h) (by rfl) hS ?_ ?_
                rotate_left; · (intro w hSw; go_simp; try with_reducible rfl)
                try simp only [Act.put, List.setIfInBounds_toArray, List.set_cons_zero, List.set_cons_succ]
                refine tk 3 (v := ?_) (by simp only [List.getElem?_toArray, List.getElem?_cons_succ, List.getElem?_cons_zero]; rfl) (by kernel_rfl) (by exact fun _ _ _ h => h) (by rfl) hS ?_ ?_
                rotate_left; · (intro w hSw; go_simp; try with_reducible rfl)
                try simp only [Act.put, List.setIfInBounds_toArray, List.set_cons_zero, List.set_cons_succ]
                refine wpAnyH_ready (rs := [4]) (by kernel_rfl) (by simp) ?_
                refine AllReadyH.cons (by simp only [List.getElem?_toArray, List.getElem?_cons_succ, List.getElem?_cons_zero]; rfl) (fun K hK => ?_) AllReadyH.nil
                go_simp
                go_at_call 78
                refine (HM.out _).mono ?_
                rintro e' wD2 ⟨rfl, bD2⟩
                have D2 : Hid (Below w.heap.size w wD2) := Lib.hid (D0.out.trans (bD2.mono D0.out.size))
                clear bD2
                refine hK.out _ _ (AL.out _ D2.out) (fun hS => ?_)
                clear hK K
                try simp only [Act.put, List.setIfInBounds_toArray, List.set_cons_zero, List.set_cons_succ]
                refine tk 5 (v := ?_) (by simp only [List.getElem?_toArray, List.getElem?_cons_succ, List.getElem?_cons_zero]; rfl) (by kernel_rfl) (by exact fun _ _ _ h => h) (by rfl) hS ?_ ?_
                rotate_left; · (intro w hSw; go_simp; try with_reducible rfl)
                try simp only [Act.put, List.setIfInBounds_toArray, List.set_cons_zero, List.set_cons_succ]
                refine tk 6 (v := ?_) (by simp only [List.getElem?_toArray, List.getElem?_cons_succ, List.getElem?_cons_zero]; rfl) (by kernel_rfl) (by exact fun _ _ _ h => h) (by rfl) hS ?_ ?_
                rotate_left; · (intro w hSw; go_simp; try with_reducible rfl)
                try simp only [Act.put, List.setIfInBounds_toArray, List.set_cons_zero, List.set_cons_succ]
                refine tk 7 (v := ?_) (by simp only [List.getElem?_toArray, List.getElem?_cons_succ, List.getElem?_cons_zero]; rfl) (by kernel_rfl) (by exact fun _ _ _ h => h) (by rfl) hS ?_ ?_
                rotate_left; · (intro w hSw; go_simp; try with_reducible rfl)
                try simp only [Act.put, List.setIfInBounds_toArray, List.set_cons_zero, List.set_cons_succ]
                refine tk 8 (v := ?_) (by simp only [List.getElem?_toArray, List.getElem?_cons_succ, List.getElem?_cons_zero]; rfl) (by kernel_rfl) (by exact fun _ _ _ h => h) (by rfl) hS ?_ ?_
                rotate_left; · (intro w hSw; go_simp; try with_reducible rfl)
                try simp only [Act.put, List.setIfInBounds_toArray, List.set_cons_zero, List.set_cons_succ]
                refine tk 9 (v := ?_) (by simp only [List.getElem?_toArray, List.getElem?_cons_succ, List.getElem?_cons_zero]; rfl) (by kernel_rfl) (by exact fun _ _ _ h => h) (by rfl) hS ?_ ?_
                rotate_left; · (intro w hSw; go_simp; try with_reducible rfl)
                try simp only [Act.put, List.setIfInBounds_toArray, List.set_cons_zero, List.set_cons_succ]
                refine tk 10 (v := ?_) (by simp only [List.getElem?_toArray, List.getElem?_cons_succ, List.getElem?_cons_zero]; rfl) (by kernel_rfl) (by exact fun _ _ _ h => h) (by rfl) hS ?_ ?_
                rotate_left; · (intro w hSw; go_simp; try with_reducible rfl)
                try simp only [Act.put, List.setIfInBounds_toArray, List.set_cons_zero, List.set_cons_succ]
                refine tk 11 (v := ?_) (by simp only [List.getElem?_toArray, List.getElem?_cons_succ, List.getElem?_cons_zero]; rfl) (by kernel_rfl) (by exact fun _ _ _ h => h) (by rfl) hS ?_ ?_
                rotate_left; · (intro w hSw; go_simp; try with_reducible rfl)
                try simp only [Act.put, List.setIfInBounds_toArray, List.set_cons_zero, List.set_cons_succ]
                refine tk 12 (v := ?_) (by simp only [List.getElem?_toArray, List.getElem?_cons_succ, List.getElem?_cons_zero]; rfl) (by kernel_rfl) (by exact fun _ _ _ h => h) (by rfl) hS ?_ ?_
                rotate_left; · (intro w hSw; go_simp; try with_reducible rfl)
                try simp only [Act.put, List.setIfInBounds_toArray, List.set_cons_zero, List.set_cons_succ]
                refine tk 13 (v := ?_) (by simp only [List.getElem?_toArray, List.getElem?_cons_succ, List.getElem?_cons_zero]; rfl) (by kernel_rfl) (by exact fun _ _ _ h => h) (by rfl) hS ?_ ?_
                rotate_left; · (intro w hSw; go_simp; try with_reducible rfl)
                try simp only [Act.put, List.setIfInBounds_toArray, List.set_cons_zero, List.set_cons_succ]
                refine skips (by kernel_rfl) (by exact fun _ _ _ _ h => h) [(14, 56), (15, 57), (16, 58), (17, 59), (18, 60), (19, 61), (20, 62), (21, 63), (22, 64), (23, 65), (24, 66), (25, 67), (26, 68), (27, 69), (28, 70), (29, 71), (30, 72), (31, 73), (32, 74), (33, 75), (34, 76), (35, 77), (36, 78), (37, 79), (38, 80), (39, 81), (40, 82), (41, 83), (42, 84), (43, 85), (44, 86), (45, 87), (46, 88), (47, 89), (48, 90), (49, 91), (50, 92), (51, 93), (52, 94), (53, 95), (54, 96)] 1 42 _ _ _ rfl (by kernel_rfl) hS ?_
                simp only [skL, skA, Act.put, List.setIfInBounds_toArray, List.set_cons_zero, List.set_cons_succ]
                refine tk 55 (v := ?_) (by simp only [List.getElem?_toArray, List.getElem?_cons_succ, List.getElem?_cons_zero]; rfl) (by kernel_rfl) (by exact fun _ _ _ h => h) (by rfl) hS ?_ ?_
                rotate_left; · (intro w hSw; go_simp; try with_reducible rfl)
                try simp only [Act.put, List.setIfInBounds_toArray, List.set_cons_zero, List.set_cons_succ]
                refine wpAnyH_done (by kernel_rfl) ?_ _
                go_wp2
                go_roundw
                case rel => exact ⟨j + 1, kk, M, by omega, by go_num, rfl, rfl, hP'.out, hMt.out.symm, D2.out⟩
                case measure => simp [intOf] <;> omega
              have he : WearVM.live x = true := by unfold WearVM.live; rw [hu, decide_eq_true hl]; rfl
              rcases hcase with ⟨rfl, _⟩ | ⟨q, rfl, hqj, hq3, hq4, _⟩
              · have hP' := Lib.hid (hx1.out he rfl)
                obtain ⟨n1, l1, p1, k1, o1, e1, b1⟩ := x
                obtain ⟨d0, d1, d2, d3, d4, d5, d6⟩ := d
                dsimp only at d0 d1 d2 d3 d4 d5 d6
                dsimp only at hbad hopn hgt hMt hl
                subst hbad hopn
                have hld : decide (0 < l1) = true := decide_eq_true hl
                have AL : Hid (∀ w', Below w.heap.size w w' → (w'.cell? ⟨b, off + j * 7, none⟩ = some (.int .i64 n1) ∧ w'.cell? ⟨b, off + j * 7 + 1, none⟩ = some (.int .i64 l1) ∧ w'.cell? ⟨b, off + j * 7 + 2, none⟩ = some (.int .i64 p1) ∧ w'.cell? ⟨b, off + j * 7 + 3, none⟩ = some (.int .i64 k1) ∧ w'.cell? ⟨b, off + j * 7 + 4, none⟩ = some (.bool false) ∧ w'.cell? ⟨b, off + j * 7 + 5, none⟩ = some (.bool e1) ∧ w'.cell? ⟨b, off + j * 7 + 6, none⟩ = some (.bool false))) := Lib.hid AJ.out
                clear hx0 hx1 hx2 hx3 hu AQ hR he
                go_wp2_with fail
                refine (HMr.out _).mono ?_
                rintro e' wD1 ⟨rfl, bD1⟩
                have D1 := Lib.hid (hB.out.trans (bD1.mono hB.out.size))
                have D0 : Hid (Below w.heap.size w wD1.drew) := Lib.hid D1.out.drew
                obtain ⟨d0, d1, d2, d3, d4, d5, d6⟩ := AJ.out _ D1.out
                dsimp only at d0 d1 d2 d3 d4 d5 d6
                clear bD1
                go_wp2_with fail
                clear d0 d1 d2 d3 d4 d5 d6
                refine wp_region_held_drew (S := fun w' => (w'.cell? ⟨b, off + j * 7, none⟩ = some (.int .i64 n1) ∧ w'.cell? ⟨b, off + j * 7 + 1, none⟩ = some (.int .i64 l1) ∧ w'.cell? ⟨b, off + j * 7 + 2, none⟩ = some (.int .i64 p1) ∧ w'.cell? ⟨b, off + j * 7 + 3, none⟩ = some (.int .i64 k1) ∧ w'.cell? ⟨b, off + j * 7 + 4, none⟩ = some (.bool false) ∧ w'.cell? ⟨b, off + j * 7 + 5, none⟩ = some (.bool e1) ∧ w'.cell? ⟨b, off + j * 7 + 6, none⟩ = some (.bool false))) (by kernel_rfl) (AL.out _ D0.out) (fun hS => ?_)
                try simp only [List.size_toArray, List.length_cons, List.length_nil, Nat.reduceAdd]
                refine tk 0 (v := ?_) (by simp only [List.getElem?_toArray, List.getElem?_cons_succ, List.getElem?_cons_zero]; rfl) (by kernel_rfl) (by exact fun _ _ _ h => h) (by rfl) hS ?_ ?_
                rotate_left; · (intro w hSw; go_simp; try with_reducible rfl)
                try simp only [Act.put, List.setIfInBounds_toArray, List.set_cons_zero, List.set_cons_succ]
                refine tk 1 (v := ?_) (by simp only [List.getElem?_toArray, List.getElem?_cons_succ, List.getElem?_cons_zero]; rfl) (by kernel_rfl) (by exact fun _ _ _ h => h) (by rfl) hS ?_ ?_
                rotate_left; · (intro w hSw; go_simp; try with_reducible rfl)
                try simp only [Act.put, List.setIfInBounds_toArray, List.set_cons_zero, List.set_cons_succ]
                refine tk 2 (v := ?_) (by simp only [List.getElem?_toArray, List.getElem?_cons_succ, List.getElem?_cons_zero]; rfl) (by kernel_rfl) (by exact fun _ _ _ h => h) (by rfl) hS ?_ ?_
                rotate_left; · (intro w hSw; go_simp; try with_reducible rfl)
                try simp only [Act.put, List.setIfInBounds_toArray, List.set_cons_zero, List.set_cons_succ]
                refine tk 3 (v := ?_) (by simp only [List.getElem?_toArray, List.getElem?_cons_succ, List.getElem?_cons_zero]; rfl) (by kernel_rfl) (by exact fun _ _ _ h => h) (by rfl) hS ?_ ?_
                rotate_left; · (intro w hSw; go_simp; try with_reducible rfl)
                try simp only [Act.put, List.setIfInBounds_toArray, List.set_cons_zero, List.set_cons_succ]
                refine wpAnyH_ready (rs := [4]) (by kernel_rfl) (by simp) ?_
                refine AllReadyH.cons (by simp only [List.getElem?_toArray, List.getElem?_cons_succ, List.getElem?_cons_zero]; rfl) (fun K hK => ?_) AllReadyH.nil
                go_simp
                go_at_call 78
                refine (HM.out _).mono ?_
                rintro e' wD2 ⟨rfl, bD2⟩
                have D2 : Hid (Below w.heap.size w wD2) := Lib.hid (D0.out.trans (bD2.mono D0.out.size))
                clear bD2
                refine hK.out _ _ (AL.out _ D2.out) (fun hS => ?_)
                clear hK K
                try simp only [Act.put, List.setIfInBounds_toArray, List.set_cons_zero, List.set_cons_succ]
                refine tk 5 (v := ?_) (by simp only [List.getElem?_toArray, List.getElem?_cons_succ, List.getElem?_cons_zero]; rfl) (by kernel_rfl) (by exact fun _ _ _ h => h) (by rfl) hS ?_ ?_
                rotate_left; · (intro w hSw; go_simp; try with_reducible rfl)
                try simp only [Act.put, List.setIfInBounds_toArray, List.set_cons_zero, List.set_cons_succ]
                refine tk 6 (v := ?_) (by simp only [List.getElem?_toArray, List.getElem?_cons_succ, List.getElem?_cons_zero]; rfl) (by kernel_rfl) (by exact fun _ _ _ h => h) (by rfl) hS ?_ ?_
                rotate_left; · (intro w hSw; go_simp; try with_reducible rfl)
                try simp only [Act.put, List.setIfInBounds_toArray, List.set_cons_zero, List.set_cons_succ]
                refine tk 7 (v := ?_) (by simp only [List.getElem?_toArray, List.getElem?_cons_succ, List.getElem?_cons_zero]; rfl) (by kernel_rfl) (by exact fun _ _ _ h => h) (by rfl) hS ?_ ?_
                rotate_left; · (intro w hSw; go_simp; try with_reducible rfl)
                try simp only [Act.put, List.setIfInBounds_toArray, List.set_cons_zero, List.set_cons_succ]
                refine tk 8 (v := ?_) (by simp only [List.getElem?_toArray, List.getElem?_cons_succ, List.getElem?_cons_zero]; rfl) (by kernel_rfl) (by exact fun _ _ _ h => h) (by rfl) hS ?_ ?_
                rotate_left; · (intro w hSw; go_simp; try with_reducible rfl)
                try simp only [Act.put, List.setIfInBounds_toArray, List.set_cons_zero, List.set_cons_succ]
                refine tk 9 (v := ?_) (by simp only [List.getElem?_toArray, List.getElem?_cons_succ, List.getElem?_cons_zero]; rfl) (by kernel_rfl) (by exact fun _ _ _ h => h) (by rfl) hS ?_ ?_
                rotate_left; · (intro w hSw; go_simp; try with_reducible rfl)
                try simp only [Act.put, List.setIfInBounds_toArray, List.set_cons_zero, List.set_cons_succ]
                refine tk 10 (v := ?_) (by simp only [List.getElem?_toArray, List.getElem?_cons_succ, List.getElem?_cons_zero]; rfl) (by kernel_rfl) (by exact fun _ _ _ h => h) (by rfl) hS ?_ ?_
                rotate_left; · (intro w hSw; go_simp; try with_reducible rfl)
                try simp only [Act.put, List.setIfInBounds_toArray, List.set_cons_zero, List.set_cons_succ]
                refine tk 11 (v := ?_) (by simp only [List.getElem?_toArray, List.getElem?_cons_succ, List.getElem?_cons_zero]; rfl) (by kernel_rfl) (by exact fun _ _ _ h => h) (by rfl) hS ?_ ?_
                rotate_left; · (intro w hSw; go_simp; try with_reducible rfl)
                try simp only [Act.put, List.setIfInBounds_toArray, List.set_cons_zero, List.set_cons_succ]
                refine tk 12 (v := ?_) (by simp only [List.getElem?_toArray, List.getElem?_cons_succ, List.getElem?_cons_zero]; rfl) (by kernel_rfl) (by exact fun _ _ _ h => h) (by rfl) hS ?_ ?_
                rotate_left; · (intro w hSw; go_simp; try with_reducible rfl)
                try simp only [Act.put, List.setIfInBounds_toArray, List.set_cons_zero, List.set_cons_succ]
                refine tk 13 (v := ?_) (by simp only [List.getElem?_toArray, List.getElem?_cons_succ, List.getElem?_cons_zero]; rfl) (by kernel_rfl) (by exact fun _ _ _ h => h) (by rfl) hS ?_ ?_
                rotate_left; · (intro w hSw; go_simp; try with_reducible rfl)
                try simp only [Act.put, List.setIfInBounds_toArray, List.set_cons_zero, List.set_cons_succ]
                refine tk 14 (v := ?_) (by simp only [List.getElem?_toArray, List.getElem?_cons_succ, List.getElem?_cons_zero]; rfl) (by kernel_rfl) (by exact fun _ _ _ h => h) (by rfl) hS ?_ ?_
                rotate_left; · (intro w hSw; go_simp; try with_reducible rfl)
                try simp only [Act.put, List.setIfInBounds_toArray, List.set_cons_zero, List.set_cons_succ]
                refine tk 15 (v := ?_) (by simp only [List.getElem?_toArray, List.getElem?_cons_succ, List.getElem?_cons_zero]; rfl) (by kernel_rfl) (by exact fun _ _ _ h => h) (by rfl) hS ?_ ?_
                rotate_left; · (intro w hSw; go_simp; try with_reducible rfl)
                try simp only [Act.put, List.setIfInBounds_toArray, List.set_cons_zero, List.set_cons_succ]
                refine tk 16 (v := ?_) (by simp only [List.getElem?_toArray, List.getElem?_cons_succ, List.getElem?_cons_zero]; rfl) (by kernel_rfl) (by exact fun _ _ _ h => h) (by rfl) hS ?_ ?_
                rotate_left; · (intro w hSw; go_simp; try with_reducible rfl)
                try simp only [Act.put, List.setIfInBounds_toArray, List.set_cons_zero, List.set_cons_succ]
                refine skips (by kernel_rfl) (by exact fun _ _ _ _ h => h) [(17, 59), (18, 60), (19, 61), (20, 62), (21, 63), (22, 64), (23, 65), (24, 66), (25, 67), (26, 68), (27, 69)] 28 39 _ _ _ rfl (by kernel_rfl) hS ?_
                simp only [skL, skA, Act.put, List.setIfInBounds_toArray, List.set_cons_zero, List.set_cons_succ]
                refine tk 28 (v := ?_) (by simp only [List.getElem?_toArray, List.getElem?_cons_succ, List.getElem?_cons_zero]; rfl) (by kernel_rfl) (by exact fun _ _ _ h => h) (by rfl) hS ?_ ?_
                rotate_left; · (intro w hSw; go_simp; try with_reducible rfl)
                try simp only [Act.put, List.setIfInBounds_toArray, List.set_cons_zero, List.set_cons_succ]
                refine tk 29 (v := ?_) (by simp only [List.getElem?_toArray, List.getElem?_cons_succ, List.getElem?_cons_zero]; rfl) (by kernel_rfl) (by exact fun _ _ _ h => h) (by rfl) hS ?_ ?_
                rotate_left; · (intro w hSw; go_simp; try with_reducible rfl)
                try simp only [Act.put, List.setIfInBounds_toArray, List.set_cons_zero, List.set_cons_succ]
                refine skips (by kernel_rfl) (by exact fun _ _ _ _ h => h) [(30, 72), (31, 73), (32, 74), (33, 75), (34, 76), (35, 77), (36, 78), (37, 79), (38, 80), (39, 81), (40, 82), (41, 83), (42, 84), (43, 85), (44, 86), (45, 87), (46, 88), (47, 89), (48, 90), (49, 91), (50, 92), (51, 93), (52, 94), (53, 95)] 2 26 _ _ _ rfl (by kernel_rfl) hS ?_
                simp only [skL, skA, Act.put, List.setIfInBounds_toArray, List.set_cons_zero, List.set_cons_succ]
                refine tk 54 (v := ?_) (by simp only [List.getElem?_toArray, List.getElem?_cons_succ, List.getElem?_cons_zero]; rfl) (by kernel_rfl) (by exact fun _ _ _ h => h) (by rfl) hS ?_ ?_
                rotate_left; · (intro w hSw; go_simp; try with_reducible rfl)
                try simp only [Act.put, List.setIfInBounds_toArray, List.set_cons_zero, List.set_cons_succ]
                refine tk 55 (v := ?_) (by simp only [List.getElem?_toArray, List.getElem?_cons_succ, List.getElem?_cons_zero]; rfl) (by kernel_rfl) (by exact fun _ _ _ h => h) (by rfl) hS ?_ ?_
                rotate_left; · (intro w hSw; go_simp; try with_reducible rfl)
                try simp only [Act.put, List.setIfInBounds_toArray, List.set_cons_zero, List.set_cons_succ]
                refine wpAnyH_done (by kernel_rfl) ?_ _
                go_wp2
                go_roundw
                case rel => exact ⟨j + 1, j, M, by omega, by go_num, rfl, rfl, hP'.out, hMt.out.symm, D2.out⟩
                case measure => simp [intOf] <;> omega
              · have hqi : ¬ ((q : Int) < 0) := by omega
                have hqn : (q : Int) < (n : Int) := by omega
                have hqd : decide ((q : Int) < 0) = false := decide_eq_false hqi
                have hxy := Lib.hid (hx2.out q he rfl)
                have hxn := Lib.hid (hx3.out q he rfl)
                replace AQ := Lib.hid (fun w' h => AQ.out q w' hqj h)
                obtain ⟨y, hy⟩ : ∃ y, y = l.getD q zero := ⟨_, rfl⟩
                rw [← hy] at hxy hxn AQ
                clear hy hq3 hq4 hx0 hx1 hx2 hx3 hu he hR
                obtain ⟨n1, l1, p1, k1, o1, e1, b1⟩ := x
                obtain ⟨d0, d1, d2, d3, d4, d5, d6⟩ := d
                dsimp only at d0 d1 d2 d3 d4 d5 d6
                obtain ⟨n2, l2, p2, k2, o2, e2, b2⟩ := y
                dsimp only at hbad hopn hgt hMt hl
                subst hbad hopn
                have hld : decide (0 < l1) = true := decide_eq_true hl
                by_cases hw1 : k1 = k2
                · subst hw1
                  have hwl : decide (k1 < k1) = false := decide_eq_false (by omega)
                  have hwe : (k1 == k1) = true := by simp
                  by_cases hn1 : n1 < n2
                  · have hnd : decide (n1 < n2) = true := decide_eq_true hn1
                    have hP' := Lib.hid (hxy.out (by unfold lessWorn; rw [if_pos rfl]; exact hnd))
                    have AL : Hid (∀ w', Below w.heap.size w w' → (w'.cell? ⟨b, off + j * 7, none⟩ = some (.int .i64 n1) ∧ w'.cell? ⟨b, off + j * 7 + 1, none⟩ = some (.int .i64 l1) ∧ w'.cell? ⟨b, off + j * 7 + 2, none⟩ = some (.int .i64 p1) ∧ w'.cell? ⟨b, off + j * 7 + 3, none⟩ = some (.int .i64 k1) ∧ w'.cell? ⟨b, off + j * 7 + 4, none⟩ = some (.bool false) ∧ w'.cell? ⟨b, off + j * 7 + 5, none⟩ = some (.bool e1) ∧ w'.cell? ⟨b, off + j * 7 + 6, none⟩ = some (.bool false)) ∧ (w'.cell? ⟨b, off + q * 7, none⟩ = some (.int .i64 n2) ∧ w'.cell? ⟨b, off + q * 7 + 1, none⟩ = some (.int .i64 l2) ∧ w'.cell? ⟨b, off + q * 7 + 2, none⟩ = some (.int .i64 p2) ∧ w'.cell? ⟨b, off + q * 7 + 3, none⟩ = some (.int .i64 k1) ∧ w'.cell? ⟨b, off + q * 7 + 4, none⟩ = some (.bool o2) ∧ w'.cell? ⟨b, off + q * 7 + 5, none⟩ = some (.bool e2) ∧ w'.cell? ⟨b, off + q * 7 + 6, none⟩ = some (.bool b2))) := Lib.hid fun w' h => ⟨AJ.out w' h, AQ.out w' h⟩
                    clear hxy hxn AQ
                    go_wp2_with fail
                    refine (HMr.out _).mono ?_
                    rintro e' wD1 ⟨rfl, bD1⟩
                    have D1 := Lib.hid (hB.out.trans (bD1.mono hB.out.size))
                    have D0 : Hid (Below w.heap.size w wD1.drew) := Lib.hid D1.out.drew
                    obtain ⟨d0, d1, d2, d3, d4, d5, d6⟩ := AJ.out _ D1.out
                    dsimp only at d0 d1 d2 d3 d4 d5 d6
                    clear bD1
                    go_wp2_with fail
                    clear d0 d1 d2 d3 d4 d5 d6
                    refine wp_region_held_drew (S := fun w' => (w'.cell? ⟨b, off + j * 7, none⟩ = some (.int .i64 n1) ∧ w'.cell? ⟨b, off + j * 7 + 1, none⟩ = some (.int .i64 l1) ∧ w'.cell? ⟨b, off + j * 7 + 2, none⟩ = some (.int .i64 p1) ∧ w'.cell? ⟨b, off + j * 7 + 3, none⟩ = some (.int .i64 k1) ∧ w'.cell? ⟨b, off + j * 7 + 4, none⟩ = some (.bool false) ∧ w'.cell? ⟨b, off + j * 7 + 5, none⟩ = some (.bool e1) ∧ w'.cell? ⟨b, off + j * 7 + 6, none⟩ = some (.bool false)) ∧ (w'.cell? ⟨b, off + q * 7, none⟩ = some (.int .i64 n2) ∧ w'.cell? ⟨b, off + q * 7 + 1, none⟩ = some (.int .i64 l2) ∧ w'.cell? ⟨b, off + q * 7 + 2, none⟩ = some (.int .i64 p2) ∧ w'.cell? ⟨b, off + q * 7 + 3, none⟩ = some (.int .i64 k1) ∧ w'.cell? ⟨b, off + q * 7 + 4, none⟩ = some (.bool o2) ∧ w'.cell? ⟨b, off + q * 7 + 5, none⟩ = some (.bool e2) ∧ w'.cell? ⟨b, off + q * 7 + 6, none⟩ = some (.bool b2))) (by kernel_rfl) (AL.out _ D0.out) (fun hS => ?_)
                    try simp only [List.size_toArray, List.length_cons, List.length_nil, Nat.reduceAdd]
                    refine tk 0 (v := ?_) (by simp only [List.getElem?_toArray, List.getElem?_cons_succ, List.getElem?_cons_zero]; rfl) (by kernel_rfl) (by exact fun _ _ _ h => h) (by rfl) hS ?_ ?_
                    rotate_left; · (intro w hSw; go_simp; try with_reducible rfl)
                    try simp only [Act.put, List.setIfInBounds_toArray, List.set_cons_zero, List.set_cons_succ]
                    refine tk 1 (v := ?_) (by simp only [List.getElem?_toArray, List.getElem?_cons_succ, List.getElem?_cons_zero]; rfl) (by kernel_rfl) (by exact fun _ _ _ h => h) (by rfl) hS ?_ ?_
                    rotate_left; · (intro w hSw; go_simp; try with_reducible rfl)
                    try simp only [Act.put, List.setIfInBounds_toArray, List.set_cons_zero, List.set_cons_succ]
                    refine tk 2 (v := ?_) (by simp only [List.getElem?_toArray, List.getElem?_cons_succ, List.getElem?_cons_zero]; rfl) (by kernel_rfl) (by exact fun _ _ _ h => h) (by rfl) hS ?_ ?_
                    rotate_left; · (intro w hSw; go_simp; try with_reducible rfl)
                    try simp only [Act.put, List.setIfInBounds_toArray, List.set_cons_zero, List.set_cons_succ]
                    refine tk 3 (v := ?_) (by simp only [List.getElem?_toArray, List.getElem?_cons_succ, List.getElem?_cons_zero]; rfl) (by kernel_rfl) (by exact fun _ _ _ h => h) (by rfl) hS ?_ ?_
                    rotate_left; · (intro w hSw; go_simp; try with_reducible rfl)
                    try simp only [Act.put, List.setIfInBounds_toArray, List.set_cons_zero, List.set_cons_succ]
                    refine wpAnyH_ready (rs := [4]) (by kernel_rfl) (by simp) ?_
                    refine AllReadyH.cons (by simp only [List.getElem?_toArray, List.getElem?_cons_succ, List.getElem?_cons_zero]; rfl) (fun K hK => ?_) AllReadyH.nil
                    go_simp
                    go_at_call 78
                    refine (HM.out _).mono ?_
                    rintro e' wD2 ⟨rfl, bD2⟩
                    have D2 : Hid (Below w.heap.size w wD2) := Lib.hid (D0.out.trans (bD2.mono D0.out.size))
                    clear bD2
                    refine hK.out _ _ (AL.out _ D2.out) (fun hS => ?_)
                    clear hK K
                    try simp only [Act.put, List.setIfInBounds_toArray, List.set_cons_zero, List.set_cons_succ]
                    refine tk 5 (v := ?_) (by simp only [List.getElem?_toArray, List.getElem?_cons_succ, List.getElem?_cons_zero]; rfl) (by kernel_rfl) (by exact fun _ _ _ h => h) (by rfl) hS ?_ ?_
                    rotate_left; · (intro w hSw; go_simp; try with_reducible rfl)
                    try simp only [Act.put, List.setIfInBounds_toArray, List.set_cons_zero, List.set_cons_succ]
                    refine tk 6 (v := ?_) (by simp only [List.getElem?_toArray, List.getElem?_cons_succ, List.getElem?_cons_zero]; rfl) (by kernel_rfl) (by exact fun _ _ _ h => h) (by rfl) hS ?_ ?_
                    rotate_left; · (intro w hSw; go_simp; try with_reducible rfl)
                    try simp only [Act.put, List.setIfInBounds_toArray, List.set_cons_zero, List.set_cons_succ]
                    refine tk 7 (v := ?_) (by simp only [List.getElem?_toArray, List.getElem?_cons_succ, List.getElem?_cons_zero]; rfl) (by kernel_rfl) (by exact fun _ _ _ h => h) (by rfl) hS ?_ ?_
                    rotate_left; · (intro w hSw; go_simp; try with_reducible rfl)
                    try simp only [Act.put, List.setIfInBounds_toArray, List.set_cons_zero, List.set_cons_succ]
                    refine tk 8 (v := ?_) (by simp only [List.getElem?_toArray, List.getElem?_cons_succ, List.getElem?_cons_zero]; rfl) (by kernel_rfl) (by exact fun _ _ _ h => h) (by rfl) hS ?_ ?_
                    rotate_left; · (intro w hSw; go_simp; try with_reducible rfl)
                    try simp only [Act.put, List.setIfInBounds_toArray, List.set_cons_zero, List.set_cons_succ]
                    refine tk 9 (v := ?_) (by simp only [List.getElem?_toArray, List.getElem?_cons_succ, List.getElem?_cons_zero]; rfl) (by kernel_rfl) (by exact fun _ _ _ h => h) (by rfl) hS ?_ ?_
                    rotate_left; · (intro w hSw; go_simp; try with_reducible rfl)
                    try simp only [Act.put, List.setIfInBounds_toArray, List.set_cons_zero, List.set_cons_succ]
                    refine tk 10 (v := ?_) (by simp only [List.getElem?_toArray, List.getElem?_cons_succ, List.getElem?_cons_zero]; rfl) (by kernel_rfl) (by exact fun _ _ _ h => h) (by rfl) hS ?_ ?_
                    rotate_left; · (intro w hSw; go_simp; try with_reducible rfl)
                    try simp only [Act.put, List.setIfInBounds_toArray, List.set_cons_zero, List.set_cons_succ]
                    refine tk 11 (v := ?_) (by simp only [List.getElem?_toArray, List.getElem?_cons_succ, List.getElem?_cons_zero]; rfl) (by kernel_rfl) (by exact fun _ _ _ h => h) (by rfl) hS ?_ ?_
                    rotate_left; · (intro w hSw; go_simp; try with_reducible rfl)
                    try simp only [Act.put, List.setIfInBounds_toArray, List.set_cons_zero, List.set_cons_succ]
                    refine tk 12 (v := ?_) (by simp only [List.getElem?_toArray, List.getElem?_cons_succ, List.getElem?_cons_zero]; rfl) (by kernel_rfl) (by exact fun _ _ _ h => h) (by rfl) hS ?_ ?_
                    rotate_left; · (intro w hSw; go_simp; try with_reducible rfl)
                    try simp only [Act.put, List.setIfInBounds_toArray, List.set_cons_zero, List.set_cons_succ]
                    refine tk 13 (v := ?_) (by simp only [List.getElem?_toArray, List.getElem?_cons_succ, List.getElem?_cons_zero]; rfl) (by kernel_rfl) (by exact fun _ _ _ h => h) (by rfl) hS ?_ ?_
                    rotate_left; · (intro w hSw; go_simp; try with_reducible rfl)
                    try simp only [Act.put, List.setIfInBounds_toArray, List.set_cons_zero, List.set_cons_succ]
                    refine tk 14 (v := ?_) (by simp only [List.getElem?_toArray, List.getElem?_cons_succ, List.getElem?_cons_zero]; rfl) (by kernel_rfl) (by exact fun _ _ _ h => h) (by rfl) hS ?_ ?_
                    rotate_left; · (intro w hSw; go_simp; try with_reducible rfl)
                    try simp only [Act.put, List.setIfInBounds_toArray, List.set_cons_zero, List.set_cons_succ]
                    refine tk 15 (v := ?_) (by simp only [List.getElem?_toArray, List.getElem?_cons_succ, List.getElem?_cons_zero]; rfl) (by kernel_rfl) (by exact fun _ _ _ h => h) (by rfl) hS ?_ ?_
                    rotate_left; · (intro w hSw; go_simp; try with_reducible rfl)
                    try simp only [Act.put, List.setIfInBounds_toArray, List.set_cons_zero, List.set_cons_succ]
                    refine tk 16 (v := ?_) (by simp only [List.getElem?_toArray, List.getElem?_cons_succ, List.getElem?_cons_zero]; rfl) (by kernel_rfl) (by exact fun _ _ _ h => h) (by rfl) hS ?_ ?_
                    rotate_left; · (intro w hSw; go_simp; try with_reducible rfl)
                    try simp only [Act.put, List.setIfInBounds_toArray, List.set_cons_zero, List.set_cons_succ]
                    refine tk 17 (v := ?_) (by simp only [List.getElem?_toArray, List.getElem?_cons_succ, List.getElem?_cons_zero]; rfl) (by kernel_rfl) (by exact fun _ _ _ h => h) (by rfl) hS ?_ ?_
                    rotate_left; · (intro w hSw; go_simp; try with_reducible rfl)
                    try simp only [Act.put, List.setIfInBounds_toArray, List.set_cons_zero, List.set_cons_succ]
                    refine tk 18 (v := ?_) (by simp only [List.getElem?_toArray, List.getElem?_cons_succ, List.getElem?_cons_zero]; rfl) (by kernel_rfl) (by exact fun _ _ _ h => h) (by rfl) hS ?_ ?_
                    rotate_left; · (intro w hSw; go_simp; try with_reducible rfl)
                    try simp only [Act.put, List.setIfInBounds_toArray, List.set_cons_zero, List.set_cons_succ]
                    refine tk 19 (v := ?_) (by simp only [List.getElem?_toArray, List.getElem?_cons_succ, List.getElem?_cons_zero]; rfl) (by kernel_rfl) (by exact fun _ _ _ h => h) (by rfl) hS ?_ ?_
                    rotate_left; · (intro w hSw; go_simp; try with_reducible rfl)
                    try simp only [Act.put, List.setIfInBounds_toArray, List.set_cons_zero, List.set_cons_succ]
                    refine tk 20 (v := ?_) (by simp only [List.getElem?_toArray, List.getElem?_cons_succ, List.getElem?_cons_zero]; rfl) (by kernel_rfl) (by exact fun _ _ _ h => h) (by rfl) hS ?_ ?_
                    rotate_left; · (intro w hSw; go_simp; try with_reducible rfl)
                    try simp only [Act.put, List.setIfInBounds_toArray, List.set_cons_zero, List.set_cons_succ]
                    refine tk 21 (v := ?_) (by simp only [List.getElem?_toArray, List.getElem?_cons_succ, List.getElem?_cons_zero]; rfl) (by kernel_rfl) (by exact fun _ _ _ h => h) (by rfl) hS ?_ ?_
                    rotate_left; · (intro w hSw; go_simp; try with_reducible rfl)
                    try simp only [Act.put, List.setIfInBounds_toArray, List.set_cons_zero, List.set_cons_succ]
                    refine tk 22 (v := ?_) (by simp only [List.getElem?_toArray, List.getElem?_cons_succ, List.getElem?_cons_zero]; rfl) (by kernel_rfl) (by exact fun _ _ _ h => h) (by rfl) hS ?_ ?_
                    rotate_left; · (intro w hSw; go_simp; try with_reducible rfl)
                    try simp only [Act.put, List.setIfInBounds_toArray, List.set_cons_zero, List.set_cons_succ]
                    refine tk 23 (v := ?_) (by simp only [List.getElem?_toArray, List.getElem?_cons_succ, List.getElem?_cons_zero]; rfl) (by kernel_rfl) (by exact fun _ _ _ h => h) (by rfl) hS ?_ ?_
                    rotate_left; · (intro w hSw; go_simp; try with_reducible rfl)
                    try simp only [Act.put, List.setIfInBounds_toArray, List.set_cons_zero, List.set_cons_succ]
                    refine tk 24 (v := ?_) (by simp only [List.getElem?_toArray, List.getElem?_cons_succ, List.getElem?_cons_zero]; rfl) (by kernel_rfl) (by exact fun _ _ _ h => h) (by rfl) hS ?_ ?_
                    rotate_left; · (intro w hSw; go_simp; try with_reducible rfl)
                    try simp only [Act.put, List.setIfInBounds_toArray, List.set_cons_zero, List.set_cons_succ]
                    refine tk 25 (v := ?_) (by simp only [List.getElem?_toArray, List.getElem?_cons_succ, List.getElem?_cons_zero]; rfl) (by kernel_rfl) (by exact fun _ _ _ h => h) (by rfl) hS ?_ ?_
                    rotate_left; · (intro w hSw; go_simp; try with_reducible rfl)
                    try simp only [Act.put, List.setIfInBounds_toArray, List.set_cons_zero, List.set_cons_succ]
                    refine tk 26 (v := ?_) (by simp only [List.getElem?_toArray, List.getElem?_cons_succ, List.getElem?_cons_zero]; rfl) (by kernel_rfl) (by exact fun _ _ _ h => h) (by rfl) hS ?_ ?_
                    rotate_left; · (intro w hSw; go_simp; try with_reducible rfl)
                    try simp only [Act.put, List.setIfInBounds_toArray, List.set_cons_zero, List.set_cons_succ]
                    refine tk 27 (v := ?_) (by simp only [List.getElem?_toArray, List.getElem?_cons_succ, List.getElem?_cons_zero]; rfl) (by kernel_rfl) (by exact fun _ _ _ h => h) (by rfl) hS ?_ ?_
                    rotate_left; · (intro w hSw; go_simp; try with_reducible rfl)
                    try simp only [Act.put, List.setIfInBounds_toArray, List.set_cons_zero, List.set_cons_succ]
                    refine tk 28 (v := ?_) (by simp only [List.getElem?_toArray, List.getElem?_cons_succ, List.getElem?_cons_zero]; rfl) (by kernel_rfl) (by exact fun _ _ _ h => h) (by rfl) hS ?_ ?_
                    rotate_left; · (intro w hSw; go_simp; try with_reducible rfl)
                    try simp only [Act.put, List.setIfInBounds_toArray, List.set_cons_zero, List.set_cons_succ]
                    refine tk 29 (v := ?_) (by simp only [List.getElem?_toArray, List.getElem?_cons_succ, List.getElem?_cons_zero]; rfl) (by kernel_rfl) (by exact fun _ _ _ h => h) (by rfl) hS ?_ ?_
                    rotate_left; · (intro w hSw; go_simp; try with_reducible rfl)
                    try simp only [Act.put, List.setIfInBounds_toArray, List.set_cons_zero, List.set_cons_succ]
                    refine tk 30 (v := ?_) (by simp only [List.getElem?_toArray, List.getElem?_cons_succ, List.getElem?_cons_zero]; rfl) (by kernel_rfl) (by exact fun _ _ _ h => h) (by rfl) hS ?_ ?_
                    rotate_left; · (intro w hSw; go_simp; try with_reducible rfl)
                    try simp only [Act.put, List.setIfInBounds_toArray, List.set_cons_zero, List.set_cons_succ]
                    refine tk 31 (v := ?_) (by simp only [List.getElem?_toArray, List.getElem?_cons_succ, List.getElem?_cons_zero]; rfl) (by kernel_rfl) (by exact fun _ _ _ h => h) (by rfl) hS ?_ ?_
                    rotate_left; · (intro w hSw; go_simp; try with_reducible rfl)
                    try simp only [Act.put, List.setIfInBounds_toArray, List.set_cons_zero, List.set_cons_succ]
                    refine tk 32 (v := ?_) (by simp only [List.getElem?_toArray, List.getElem?_cons_succ, List.getElem?_cons_zero]; rfl) (by kernel_rfl) (by exact fun _ _ _ h => h) (by rfl) hS ?_ ?_
                    rotate_left; · (intro w hSw; go_simp; try with_reducible rfl)
                    try simp only [Act.put, List.setIfInBounds_toArray, List.set_cons_zero, List.set_cons_succ]
                    refine tk 33 (v := ?_) (by simp only [List.getElem?_toArray, List.getElem?_cons_succ, List.getElem?_cons_zero]; rfl) (by kernel_rfl) (by exact fun _ _ _ h => h) (by rfl) hS ?_ ?_
                    rotate_left; · (intro w hSw; go_simp; try with_reducible rfl)
                    try simp only [Act.put, List.setIfInBounds_toArray, List.set_cons_zero, List.set_cons_succ]
                    refine tk 34 (v := ?_) (by simp only [List.getElem?_toArray, List.getElem?_cons_succ, List.getElem?_cons_zero]; rfl) (by kernel_rfl) (by exact fun _ _ _ h => h) (by rfl) hS ?_ ?_
                    rotate_left; · (intro w hSw; go_simp; try with_reducible rfl)
                    try simp only [Act.put, List.setIfInBounds_toArray, List.set_cons_zero, List.set_cons_succ]
                    refine tk 35 (v := ?_) (by simp only [List.getElem?_toArray, List.getElem?_cons_succ, List.getElem?_cons_zero]; rfl) (by kernel_rfl) (by exact fun _ _ _ h => h) (by rfl) hS ?_ ?_
                    rotate_left; · (intro w hSw; go_simp; try with_reducible rfl)
                    try simp only [Act.put, List.setIfInBounds_toArray, List.set_cons_zero, List.set_cons_succ]
                    refine tk 36 (v := ?_) (by simp only [List.getElem?_toArray, List.getElem?_cons_succ, List.getElem?_cons_zero]; rfl) (by kernel_rfl) (by exact fun _ _ _ h => h) (by rfl) hS ?_ ?_
                    rotate_left; · (intro w hSw; go_simp; try with_reducible rfl)
                    try simp only [Act.put, List.setIfInBounds_toArray, List.set_cons_zero, List.set_cons_succ]
                    refine tk 37 (v := ?_) (by simp only [List.getElem?_toArray, List.getElem?_cons_succ, List.getElem?_cons_zero]; rfl) (by kernel_rfl) (by exact fun _ _ _ h => h) (by rfl) hS ?_ ?_
                    rotate_left; · (intro w hSw; go_simp; try with_reducible rfl)
                    try simp only [Act.put, List.setIfInBounds_toArray, List.set_cons_zero, List.set_cons_succ]
                    refine tk 38 (v := ?_) (by simp only [List.getElem?_toArray, List.getElem?_cons_succ, List.getElem?_cons_zero]; rfl) (by kernel_rfl) (by exact fun _ _ _ h => h) (by rfl) hS ?_ ?_
                    rotate_left; · (intro w hSw; go_simp; try with_reducible rfl)
                    try simp only [Act.put, List.setIfInBounds_toArray, List.set_cons_zero, List.set_cons_succ]
                    refine tk 39 (v := ?_) (by simp only [List.getElem?_toArray, List.getElem?_cons_succ, List.getElem?_cons_zero]; rfl) (by kernel_rfl) (by exact fun _ _ _ h => h) (by rfl) hS ?_ ?_
                    rotate_left; · (intro w hSw; go_simp; try with_reducible rfl)
                    try simp only [Act.put, List.setIfInBounds_toArray, List.set_cons_zero, List.set_cons_succ]
                    refine tk 40 (v := ?_) (by simp only [List.getElem?_toArray, List.getElem?_cons_succ, List.getElem?_cons_zero]; rfl) (by kernel_rfl) (by exact fun _ _ _ h => h) (by rfl) hS ?_ ?_
                    rotate_left; · (intro w hSw; go_simp; try with_reducible rfl)
                    try simp only [Act.put, List.setIfInBounds_toArray, List.set_cons_zero, List.set_cons_succ]
                    refine tk 41 (v := ?_) (by simp only [List.getElem?_toArray, List.getElem?_cons_succ, List.getElem?_cons_zero]; rfl) (by kernel_rfl) (by exact fun _ _ _ h => h) (by rfl) hS ?_ ?_
                    rotate_left; · (intro w hSw; go_simp; try with_reducible rfl)
                    try simp only [Act.put, List.setIfInBounds_toArray, List.set_cons_zero, List.set_cons_succ]
                    refine tk 42 (v := ?_) (by simp only [List.getElem?_toArray, List.getElem?_cons_succ, List.getElem?_cons_zero]; rfl) (by kernel_rfl) (by exact fun _ _ _ h => h) (by rfl) hS ?_ ?_
                    rotate_left; · (intro w hSw; go_simp; try with_reducible rfl)
                    try simp only [Act.put, List.setIfInBounds_toArray, List.set_cons_zero, List.set_cons_succ]
                    refine tk 43 (v := ?_) (by simp only [List.getElem?_toArray, List.getElem?_cons_succ, List.getElem?_cons_zero]; rfl) (by kernel_rfl) (by exact fun _ _ _ h => h) (by rfl) hS ?_ ?_
                    rotate_left; · (intro w hSw; go_simp; try with_reducible rfl)
                    try simp only [Act.put, List.setIfInBounds_toArray, List.set_cons_zero, List.set_cons_succ]
                    refine tk 44 (v := ?_) (by simp only [List.getElem?_toArray, List.getElem?_cons_succ, List.getElem?_cons_zero]; rfl) (by kernel_rfl) (by exact fun _ _ _ h => h) (by rfl) hS ?_ ?_
                    rotate_left; · (intro w hSw; go_simp; try with_reducible rfl)
                    try simp only [Act.put, List.setIfInBounds_toArray, List.set_cons_zero, List.set_cons_succ]
                    refine tk 45 (v := ?_) (by simp only [List.getElem?_toArray, List.getElem?_cons_succ, List.getElem?_cons_zero]; rfl) (by kernel_rfl) (by exact fun _ _ _ h => h) (by rfl) hS ?_ ?_
                    rotate_left; · (intro w hSw; go_simp; try with_reducible rfl)
                    try simp only [Act.put, List.setIfInBounds_toArray, List.set_cons_zero, List.set_cons_succ]
                    refine tk 46 (v := ?_) (by simp only [List.getElem?_toArray, List.getElem?_cons_succ, List.getElem?_cons_zero]; rfl) (by kernel_rfl) (by exact fun _ _ _ h => h) (by rfl) hS ?_ ?_
                    rotate_left; · (intro w hSw; go_simp; try with_reducible rfl)
                    try simp only [Act.put, List.setIfInBounds_toArray, List.set_cons_zero, List.set_cons_succ]
                    refine tk 47 (v := ?_) (by simp only [List.getElem?_toArray, List.getElem?_cons_succ, List.getElem?_cons_zero]; rfl) (by kernel_rfl) (by exact fun _ _ _ h => h) (by rfl) hS ?_ ?_
                    rotate_left; · (intro w hSw; go_simp; try with_reducible rfl)
                    try simp only [Act.put, List.setIfInBounds_toArray, List.set_cons_zero, List.set_cons_succ]
                    refine tk 48 (v := ?_) (by simp only [List.getElem?_toArray, List.getElem?_cons_succ, List.getElem?_cons_zero]; rfl) (by kernel_rfl) (by exact fun _ _ _ h => h) (by rfl) hS ?_ ?_
                    rotate_left; · (intro w hSw; go_simp; try with_reducible rfl)
                    try simp only [Act.put, List.setIfInBounds_toArray, List.set_cons_zero, List.set_cons_succ]
                    refine tk 49 (v := ?_) (by simp only [List.getElem?_toArray, List.getElem?_cons_succ, List.getElem?_cons_zero]; rfl) (by kernel_rfl) (by exact fun _ _ _ h => h) (by rfl) hS ?_ ?_
                    rotate_left; · (intro w hSw; go_simp; try with_reducible rfl)
                    try simp only [Act.put, List.setIfInBounds_toArray, List.set_cons_zero, List.set_cons_succ]
                    refine tk 50 (v := ?_) (by simp only [List.getElem?_toArray, List.getElem?_cons_succ, List.getElem?_cons_zero]; rfl) (by kernel_rfl) (by exact fun _ _ _ h => h) (by rfl) hS ?_ ?_
                    rotate_left; · (intro w hSw; go_simp; try with_reducible rfl)
                    try simp only [Act.put, List.setIfInBounds_toArray, List.set_cons_zero, List.set_cons_succ]
                    refine tk 51 (v := ?_) (by simp only [List.getElem?_toArray, List.getElem?_cons_succ, List.getElem?_cons_zero]; rfl) (by kernel_rfl) (by exact fun _ _ _ h => h) (by rfl) hS ?_ ?_
                    rotate_left; · (intro w hSw; go_simp; try with_reducible rfl)
                    try simp only [Act.put, List.setIfInBounds_toArray, List.set_cons_zero, List.set_cons_succ]
                    refine tk 52 (v := ?_) (by simp only [List.getElem?_toArray, List.getElem?_cons_succ, List.getElem?_cons_zero]; rfl) (by kernel_rfl) (by exact fun _ _ _ h => h) (by rfl) hS ?_ ?_
                    rotate_left; · (intro w hSw; go_simp; try with_reducible rfl)
                    try simp only [Act.put, List.setIfInBounds_toArray, List.set_cons_zero, List.set_cons_succ]
                    refine tk 53 (v := ?_) (by simp only [List.getElem?_toArray, List.getElem?_cons_succ, List.getElem?_cons_zero]; rfl) (by kernel_rfl) (by exact fun _ _ _ h => h) (by rfl) hS ?_ ?_
                    rotate_left; · (intro w hSw; go_simp; try with_reducible rfl)
                    try simp only [Act.put, List.setIfInBounds_toArray, List.set_cons_zero, List.set_cons_succ]
                    refine tk 54 (v := ?_) (by simp only [List.getElem?_toArray, List.getElem?_cons_succ, List.getElem?_cons_zero]; rfl) (by kernel_rfl) (by exact fun _ _ _ h => h) (by rfl) hS ?_ ?_
                    rotate_left; · (intro w hSw; go_simp; try with_reducible rfl)
                    try simp only [Act.put, List.setIfInBounds_toArray, List.set_cons_zero, List.set_cons_succ]
                    refine tk 55 (v := ?_) (by simp only [List.getElem?_toArray, List.getElem?_cons_succ, List.getElem?_cons_zero]; rfl) (by kernel_rfl) (by exact fun _ _ _ h => h) (by rfl) hS ?_ ?_
                    rotate_left; · (intro w hSw; go_simp; try with_reducible rfl)
                    try simp only [Act.put, List.setIfInBounds_toArray, List.set_cons_zero, List.set_cons_succ]
                    refine wpAnyH_done (by kernel_rfl) ?_ _
                    go_wp2
                    go_roundw
                    case rel => exact ⟨j + 1, j, M, by omega, by go_num, rfl, rfl, hP'.out, hMt.out.symm, D2.out⟩
                    case measure => simp [intOf] <;> omega
                  · have hnd : decide (n1 < n2) = false := decide_eq_false hn1
                    have hP' := Lib.hid (hxn.out (by unfold lessWorn; rw [if_pos rfl]; exact hnd))
                    have AL : Hid (∀ w', Below w.heap.size w w' → (w'.cell? ⟨b, off + j * 7, none⟩ = some (.int .i64 n1) ∧ w'.cell? ⟨b, off + j * 7 + 1, none⟩ = some (.int .i64 l1) ∧ w'.cell? ⟨b, off + j * 7 + 2, none⟩ = some (.int .i64 p1) ∧ w'.cell? ⟨b, off + j * 7 + 3, none⟩ = some (.int .i64 k1) ∧ w'.cell? ⟨b, off + j * 7 + 4, none⟩ = some (.bool false) ∧ w'.cell? ⟨b, off + j * 7 + 5, none⟩ = some (.bool e1) ∧ w'.cell? ⟨b, off + j * 7 + 6, none⟩ = some (.bool false)) ∧ (w'.cell? ⟨b, off + q * 7, none⟩ = some (.int .i64 n2) ∧ w'.cell? ⟨b, off + q * 7 + 1, none⟩ = some (.int .i64 l2) ∧ w'.cell? ⟨b, off + q * 7 + 2, none⟩ = some (.int .i64 p2) ∧ w'.cell? ⟨b, off + q * 7 + 3, none⟩ = some (.int .i64 k1) ∧ w'.cell? ⟨b, off + q * 7 + 4, none⟩ = some (.bool o2) ∧ w'.cell? ⟨b, off + q * 7 + 5, none⟩ = some (.bool e2) ∧ w'.cell? ⟨b, off + q * 7 + 6, none⟩ = some (.bool b2))) := Lib.hid fun w' h => ⟨AJ.out w' h, AQ.out w' h⟩
                    clear hxy hxn AQ
                    go_wp2_with fail
                    refine (HMr.out _).mono ?_
                    rintro e' wD1 ⟨rfl, bD1⟩
                    have D1 := Lib.hid (hB.out.trans (bD1.mono hB.out.size))
                    have D0 : Hid (Below w.heap.size w wD1.drew) := Lib.hid D1.out.drew
                    obtain ⟨d0, d1, d2, d3, d4, d5, d6⟩ := AJ.out _ D1.out
                    dsimp only at d0 d1 d2 d3 d4 d5 d6
                    clear bD1
                    go_wp2_with fail
                    clear d0 d1 d2 d3 d4 d5 d6
                    refine wp_region_held_drew (S := fun w' => (w'.cell? ⟨b, off + j * 7, none⟩ = some (.int .i64 n1) ∧ w'.cell? ⟨b, off + j * 7 + 1, none⟩ = some (.int .i64 l1) ∧ w'.cell? ⟨b, off + j * 7 + 2, none⟩ = some (.int .i64 p1) ∧ w'.cell? ⟨b, off + j * 7 + 3, none⟩ = some (.int .i64 k1) ∧ w'.cell? ⟨b, off + j * 7 + 4, none⟩ = some (.bool false) ∧ w'.cell? ⟨b, off + j * 7 + 5, none⟩ = some (.bool e1) ∧ w'.cell? ⟨b, off + j * 7 + 6, none⟩ = some (.bool false)) ∧ (w'.cell? ⟨b, off + q * 7, none⟩ = some (.int .i64 n2) ∧ w'.cell? ⟨b, off + q * 7 + 1, none⟩ = some (.int .i64 l2) ∧ w'.cell? ⟨b, off + q * 7 + 2, none⟩ = some (.int .i64 p2) ∧ w'.cell? ⟨b, off + q * 7 + 3, none⟩ = some (.int .i64 k1) ∧ w'.cell? ⟨b, off + q * 7 + 4, none⟩ = some (.bool o2) ∧ w'.cell? ⟨b, off + q * 7 + 5, none⟩ = some (.bool e2) ∧ w'.cell? ⟨b, off + q * 7 + 6, none⟩ = some (.bool b2))) (by kernel_rfl) (AL.out _ D0.out) (fun hS => ?_)
                    try simp only [List.size_toArray, List.length_cons, List.length_nil, Nat.reduceAdd]
                    refine tk 0 (v := ?_) (by simp only [List.getElem?_toArray, List.getElem?_cons_succ, List.getElem?_cons_zero]; rfl) (by kernel_rfl) (by exact fun _ _ _ h => h) (by rfl) hS ?_ ?_
                    rotate_left; · (intro w hSw; go_simp; try with_reducible rfl)
                    try simp only [Act.put, List.setIfInBounds_toArray, List.set_cons_zero, List.set_cons_succ]
                    refine tk 1 (v := ?_) (by simp only [List.getElem?_toArray, List.getElem?_cons_succ, List.getElem?_cons_zero]; rfl) (by kernel_rfl) (by exact fun _ _ _ h => h) (by rfl) hS ?_ ?_
                    rotate_left; · (intro w hSw; go_simp; try with_reducible rfl)
                    try simp only [Act.put, List.setIfInBounds_toArray, List.set_cons_zero, List.set_cons_succ]
                    refine tk 2 (v := ?_) (by simp only [List.getElem?_toArray, List.getElem?_cons_succ, List.getElem?_cons_zero]; rfl) (by kernel_rfl) (by exact fun _ _ _ h => h) (by rfl) hS ?_ ?_
                    rotate_left; · (intro w hSw; go_simp; try with_reducible rfl)
                    try simp only [Act.put, List.setIfInBounds_toArray, List.set_cons_zero, List.set_cons_succ]
                    refine tk 3 (v := ?_) (by simp only [List.getElem?_toArray, List.getElem?_cons_succ, List.getElem?_cons_zero]; rfl) (by kernel_rfl) (by exact fun _ _ _ h => h) (by rfl) hS ?_ ?_
                    rotate_left; · (intro w hSw; go_simp; try with_reducible rfl)
                    try simp only [Act.put, List.setIfInBounds_toArray, List.set_cons_zero, List.set_cons_succ]
                    refine wpAnyH_ready (rs := [4]) (by kernel_rfl) (by simp) ?_
                    refine AllReadyH.cons (by simp only [List.getElem?_toArray, List.getElem?_cons_succ, List.getElem?_cons_zero]; rfl) (fun K hK => ?_) AllReadyH.nil
                    go_simp
                    go_at_call 78
                    refine (HM.out _).mono ?_
                    rintro e' wD2 ⟨rfl, bD2⟩
                    have D2 : Hid (Below w.heap.size w wD2) := Lib.hid (D0.out.trans (bD2.mono D0.out.size))
                    clear bD2
                    refine hK.out _ _ (AL.out _ D2.out) (fun hS => ?_)
                    clear hK K
                    try simp only [Act.put, List.setIfInBounds_toArray, List.set_cons_zero, List.set_cons_succ]
                    refine tk 5 (v := ?_) (by simp only [List.getElem?_toArray, List.getElem?_cons_succ, List.getElem?_cons_zero]; rfl) (by kernel_rfl) (by exact fun _ _ _ h => h) (by rfl) hS ?_ ?_
                    rotate_left; · (intro w hSw; go_simp; try with_reducible rfl)
                    try simp only [Act.put, List.setIfInBounds_toArray, List.set_cons_zero, List.set_cons_succ]
                    refine tk 6 (v := ?_) (by simp only [List.getElem?_toArray, List.getElem?_cons_succ, List.getElem?_cons_zero]; rfl) (by kernel_rfl) (by exact fun _ _ _ h => h) (by rfl) hS ?_ ?_
                    rotate_left; · (intro w hSw; go_simp; try with_reducible rfl)
                    try simp only [Act.put, List.setIfInBounds_toArray, List.set_cons_zero, List.set_cons_succ]
                    refine tk 7 (v := ?_) (by simp only [List.getElem?_toArray, List.getElem?_cons_succ, List.getElem?_cons_zero]; rfl) (by kernel_rfl) (by exact fun _ _ _ h => h) (by rfl) hS ?_ ?_
                    rotate_left; · (intro w hSw; go_simp; try with_reducible rfl)
                    try simp only [Act.put, List.setIfInBounds_toArray, List.set_cons_zero, List.set_cons_succ]
                    refine tk 8 (v := ?_) (by simp only [List.getElem?_toArray, List.getElem?_cons_succ, List.getElem?_cons_zero]; rfl) (by kernel_rfl) (by exact fun _ _ _ h => h) (by rfl) hS ?_ ?_
                    rotate_left; · (intro w hSw; go_simp; try with_reducible rfl)
                    try simp only [Act.put, List.setIfInBounds_toArray, List.set_cons_zero, List.set_cons_succ]
                    refine tk 9 (v := ?_) (by simp only [List.getElem?_toArray, List.getElem?_cons_succ, List.getElem?_cons_zero]; rfl) (by kernel_rfl) (by exact fun _ _ _ h => h) (by rfl) hS ?_ ?_
                    rotate_left; · (intro w hSw; go_simp; try with_reducible rfl)
                    try simp only [Act.put, List.setIfInBounds_toArray, List.set_cons_zero, List.set_cons_succ]
                    refine tk 10 (v := ?_) (by simp only [List.getElem?_toArray, List.getElem?_cons_succ, List.getElem?_cons_zero]; rfl) (by kernel_rfl) (by exact fun _ _ _ h => h) (by rfl) hS ?_ ?_
                    rotate_left; · (intro w hSw; go_simp; try with_reducible rfl)
                    try simp only [Act.put, List.setIfInBounds_toArray, List.set_cons_zero, List.set_cons_succ]
                    refine tk 11 (v := ?_) (by simp only [List.getElem?_toArray, List.getElem?_cons_succ, List.getElem?_cons_zero]; rfl) (by kernel_rfl) (by exact fun _ _ _ h => h) (by rfl) hS ?_ ?_
                    rotate_left; · (intro w hSw; go_simp; try with_reducible rfl)
                    try simp only [Act.put, List.setIfInBounds_toArray, List.set_cons_zero, List.set_cons_succ]
                    refine tk 12 (v := ?_) (by simp only [List.getElem?_toArray, List.getElem?_cons_succ, List.getElem?_cons_zero]; rfl) (by kernel_rfl) (by exact fun _ _ _ h => h) (by rfl) hS ?_ ?_
                    rotate_left; · (intro w hSw; go_simp; try with_reducible rfl)
                    try simp only [Act.put, List.setIfInBounds_toArray, List.set_cons_zero, List.set_cons_succ]
                    refine tk 13 (v := ?_) (by simp only [List.getElem?_toArray, List.getElem?_cons_succ, List.getElem?_cons_zero]; rfl) (by kernel_rfl) (by exact fun _ _ _ h => h) (by rfl) hS ?_ ?_
                    rotate_left; · (intro w hSw; go_simp; try with_reducible rfl)
                    try simp only [Act.put, List.setIfInBounds_toArray, List.set_cons_zero, List.set_cons_succ]
                    refine tk 14 (v := ?_) (by simp only [List.getElem?_toArray, List.getElem?_cons_succ, List.getElem?_cons_zero]; rfl) (by kernel_rfl) (by exact fun _ _ _ h => h) (by rfl) hS ?_ ?_
                    rotate_left; · (intro w hSw; go_simp; try with_reducible rfl)
                    try simp only [Act.put, List.setIfInBounds_toArray, List.set_cons_zero, List.set_cons_succ]
                    refine tk 15 (v := ?_) (by simp only [List.getElem?_toArray, List.getElem?_cons_succ, List.getElem?_cons_zero]; rfl) (by kernel_rfl) (by exact fun _ _ _ h => h) (by rfl) hS ?_ ?_
                    rotate_left; · (intro w hSw; go_simp; try with_reducible rfl)
                    try simp only [Act.put, List.setIfInBounds_toArray, List.set_cons_zero, List.set_cons_succ]
                    refine tk 16 (v := ?_) (by simp only [List.getElem?_toArray, List.getElem?_cons_succ, List.getElem?_cons_zero]; rfl) (by kernel_rfl) (by exact fun _ _ _ h => h) (by rfl) hS ?_ ?_
                    rotate_left; · (intro w hSw; go_simp; try with_reducible rfl)
                    try simp only [Act.put, List.setIfInBounds_toArray, List.set_cons_zero, List.set_cons_succ]
                    refine tk 17 (v := ?_) (by simp only [List.getElem?_toArray, List.getElem?_cons_succ, List.getElem?_cons_zero]; rfl) (by kernel_rfl) (by exact fun _ _ _ h => h) (by rfl) hS ?_ ?_
                    rotate_left; · (intro w hSw; go_simp; try with_reducible rfl)
                    try simp only [Act.put, List.setIfInBounds_toArray, List.set_cons_zero, List.set_cons_succ]
                    refine tk 18 (v := ?_) (by simp only [List.getElem?_toArray, List.getElem?_cons_succ, List.getElem?_cons_zero]; rfl) (by kernel_rfl) (by exact fun _ _ _ h => h) (by rfl) hS ?_ ?_
                    rotate_left; · (intro w hSw; go_simp; try with_reducible rfl)
                    try simp only [Act.put, List.setIfInBounds_toArray, List.set_cons_zero, List.set_cons_succ]
                    refine tk 19 (v := ?_) (by simp only [List.getElem?_toArray, List.getElem?_cons_succ, List.getElem?_cons_zero]; rfl) (by kernel_rfl) (by exact fun _ _ _ h => h) (by rfl) hS ?_ ?_
                    rotate_left; · (intro w hSw; go_simp; try with_reducible rfl)
                    try simp only [Act.put, List.setIfInBounds_toArray, List.set_cons_zero, List.set_cons_succ]
                    refine tk 20 (v := ?_) (by simp only [List.getElem?_toArray, List.getElem?_cons_succ, List.getElem?_cons_zero]; rfl) (by kernel_rfl) (by exact fun _ _ _ h => h) (by rfl) hS ?_ ?_
                    rotate_left; · (intro w hSw; go_simp; try with_reducible rfl)
                    try simp only [Act.put, List.setIfInBounds_toArray, List.set_cons_zero, List.set_cons_succ]
                    refine tk 21 (v := ?_) (by simp only [List.getElem?_toArray, List.getElem?_cons_succ, List.getElem?_cons_zero]; rfl) (by kernel_rfl) (by exact fun _ _ _ h => h) (by rfl) hS ?_ ?_
                    rotate_left; · (intro w hSw; go_simp; try with_reducible rfl)
                    try simp only [Act.put, List.setIfInBounds_toArray, List.set_cons_zero, List.set_cons_succ]
                    refine tk 22 (v := ?_) (by simp only [List.getElem?_toArray, List.getElem?_cons_succ, List.getElem?_cons_zero]; rfl) (by kernel_rfl) (by exact fun _ _ _ h => h) (by rfl) hS ?_ ?_
                    rotate_left; · (intro w hSw; go_simp; try with_reducible rfl)
                    try simp only [Act.put, List.setIfInBounds_toArray, List.set_cons_zero, List.set_cons_succ]
                    refine tk 23 (v := ?_) (by simp only [List.getElem?_toArray, List.getElem?_cons_succ, List.getElem?_cons_zero]; rfl) (by kernel_rfl) (by exact fun _ _ _ h => h) (by rfl) hS ?_ ?_
                    rotate_left; · (intro w hSw; go_simp; try with_reducible rfl)
                    try simp only [Act.put, List.setIfInBounds_toArray, List.set_cons_zero, List.set_cons_succ]
                    refine tk 24 (v := ?_) (by simp only [List.getElem?_toArray, List.getElem?_cons_succ, List.getElem?_cons_zero]; rfl) (by kernel_rfl) (by exact fun _ _ _ h => h) (by rfl) hS ?_ ?_
                    rotate_left; · (intro w hSw; go_simp; try with_reducible rfl)
                    try simp only [Act.put, List.setIfInBounds_toArray, List.set_cons_zero, List.set_cons_succ]
                    refine tk 25 (v := ?_) (by simp only [List.getElem?_toArray, List.getElem?_cons_succ, List.getElem?_cons_zero]; rfl) (by kernel_rfl) (by exact fun _ _ _ h => h) (by rfl) hS ?_ ?_
                    rotate_left; · (intro w hSw; go_simp; try with_reducible rfl)
                    try simp only [Act.put, List.setIfInBounds_toArray, List.set_cons_zero, List.set_cons_succ]
                    refine tk 26 (v := ?_) (by simp only [List.getElem?_toArray, List.getElem?_cons_succ, List.getElem?_cons_zero]; rfl) (by kernel_rfl) (by exact fun _ _ _ h => h) (by rfl) hS ?_ ?_
                    rotate_left; · (intro w hSw; go_simp; try with_reducible rfl)
                    try simp only [Act.put, List.setIfInBounds_toArray, List.set_cons_zero, List.set_cons_succ]
                    refine tk 27 (v := ?_) (by simp only [List.getElem?_toArray, List.getElem?_cons_succ, List.getElem?_cons_zero]; rfl) (by kernel_rfl) (by exact fun _ _ _ h => h) (by rfl) hS ?_ ?_
                    rotate_left; · (intro w hSw; go_simp; try with_reducible rfl)
                    try simp only [Act.put, List.setIfInBounds_toArray, List.set_cons_zero, List.set_cons_succ]
                    refine tk 28 (v := ?_) (by simp only [List.getElem?_toArray, List.getElem?_cons_succ, List.getElem?_cons_zero]; rfl) (by kernel_rfl) (by exact fun _ _ _ h => h) (by rfl) hS ?_ ?_
                    rotate_left; · (intro w hSw; go_simp; try with_reducible rfl)
                    try simp only [Act.put, List.setIfInBounds_toArray, List.set_cons_zero, List.set_cons_succ]
                    refine tk 29 (v := ?_) (by simp only [List.getElem?_toArray, List.getElem?_cons_succ, List.getElem?_cons_zero]; rfl) (by kernel_rfl) (by exact fun _ _ _ h => h) (by rfl) hS ?_ ?_
                    rotate_left; · (intro w hSw; go_simp; try with_reducible rfl)
                    try simp only [Act.put, List.setIfInBounds_toArray, List.set_cons_zero, List.set_cons_succ]
                    refine tk 30 (v := ?_) (by simp only [List.getElem?_toArray, List.getElem?_cons_succ, List.getElem?_cons_zero]; rfl) (by kernel_rfl) (by exact fun _ _ _ h => h) (by rfl) hS ?_ ?_
                    rotate_left; · (intro w hSw; go_simp; try with_reducible rfl)
                    try simp only [Act.put, List.setIfInBounds_toArray, List.set_cons_zero, List.set_cons_succ]
                    refine tk 31 (v := ?_) (by simp only [List.getElem?_toArray, List.getElem?_cons_succ, List.getElem?_cons_zero]; rfl) (by kernel_rfl) (by exact fun _ _ _ h => h) (by rfl) hS ?_ ?_
                    rotate_left; · (intro w hSw; go_simp; try with_reducible rfl)
                    try simp only [Act.put, List.setIfInBounds_toArray, List.set_cons_zero, List.set_cons_succ]
                    refine tk 32 (v := ?_) (by simp only [List.getElem?_toArray, List.getElem?_cons_succ, List.getElem?_cons_zero]; rfl) (by kernel_rfl) (by exact fun _ _ _ h => h) (by rfl) hS ?_ ?_
                    rotate_left; · (intro w hSw; go_simp; try with_reducible rfl)
                    try simp only [Act.put, List.setIfInBounds_toArray, List.set_cons_zero, List.set_cons_succ]
                    refine tk 33 (v := ?_) (by simp only [List.getElem?_toArray, List.getElem?_cons_succ, List.getElem?_cons_zero]; rfl) (by kernel_rfl) (by exact fun _ _ _ h => h) (by rfl) hS ?_ ?_
                    rotate_left; · (intro w hSw; go_simp; try with_reducible rfl)
                    try simp only [Act.put, List.setIfInBounds_toArray, List.set_cons_zero, List.set_cons_succ]
                    refine tk 34 (v := ?_) (by simp only [List.getElem?_toArray, List.getElem?_cons_succ, List.getElem?_cons_zero]; rfl) (by kernel_rfl) (by exact fun _ _ _ h => h) (by rfl) hS ?_ ?_
                    rotate_left; · (intro w hSw; go_simp; try with_reducible rfl)
                    try simp only [Act.put, List.setIfInBounds_toArray, List.set_cons_zero, List.set_cons_succ]
                    refine tk 35 (v := ?_) (by simp only [List.getElem?_toArray, List.getElem?_cons_succ, List.getElem?_cons_zero]; rfl) (by kernel_rfl) (by exact fun _ _ _ h => h) (by rfl) hS ?_ ?_
                    rotate_left; · (intro w hSw; go_simp; try with_reducible rfl)
                    try simp only [Act.put, List.setIfInBounds_toArray, List.set_cons_zero, List.set_cons_succ]
                    refine tk 36 (v := ?_) (by simp only [List.getElem?_toArray, List.getElem?_cons_succ, List.getElem?_cons_zero]; rfl) (by kernel_rfl) (by exact fun _ _ _ h => h) (by rfl) hS ?_ ?_
                    rotate_left; · (intro w hSw; go_simp; try with_reducible rfl)
                    try simp only [Act.put, List.setIfInBounds_toArray, List.set_cons_zero, List.set_cons_succ]
                    refine tk 37 (v := ?_) (by simp only [List.getElem?_toArray, List.getElem?_cons_succ, List.getElem?_cons_zero]; rfl) (by kernel_rfl) (by exact fun _ _ _ h => h) (by rfl) hS ?_ ?_
                    rotate_left; · (intro w hSw; go_simp; try with_reducible rfl)
                    try simp only [Act.put, List.setIfInBounds_toArray, List.set_cons_zero, List.set_cons_succ]
                    refine tk 38 (v := ?_) (by simp only [List.getElem?_toArray, List.getElem?_cons_succ, List.getElem?_cons_zero]; rfl) (by kernel_rfl) (by exact fun _ _ _ h => h) (by rfl) hS ?_ ?_
                    rotate_left; · (intro w hSw; go_simp; try with_reducible rfl)
                    try simp only [Act.put, List.setIfInBounds_toArray, List.set_cons_zero, List.set_cons_succ]
                    refine tk 39 (v := ?_) (by simp only [List.getElem?_toArray, List.getElem?_cons_succ, List.getElem?_cons_zero]; rfl) (by kernel_rfl) (by exact fun _ _ _ h => h) (by rfl) hS ?_ ?_
                    rotate_left; · (intro w hSw; go_simp; try with_reducible rfl)
                    try simp only [Act.put, List.setIfInBounds_toArray, List.set_cons_zero, List.set_cons_succ]
                    refine tk 40 (v := ?_) (by simp only [List.getElem?_toArray, List.getElem?_cons_succ, List.getElem?_cons_zero]; rfl) (by kernel_rfl) (by exact fun _ _ _ h => h) (by rfl) hS ?_ ?_
                    rotate_left; · (intro w hSw; go_simp; try with_reducible rfl)
                    try simp only [Act.put, List.setIfInBounds_toArray, List.set_cons_zero, List.set_cons_succ]
                    refine tk 41 (v := ?_) (by simp only [List.getElem?_toArray, List.getElem?_cons_succ, List.getElem?_cons_zero]; rfl) (by kernel_rfl) (by exact fun _ _ _ h => h) (by rfl) hS ?_ ?_
                    rotate_left; · (intro w hSw; go_simp; try with_reducible rfl)
                    try simp only [Act.put, List.setIfInBounds_toArray, List.set_cons_zero, List.set_cons_succ]
                    refine tk 42 (v := ?_) (by simp only [List.getElem?_toArray, List.getElem?_cons_succ, List.getElem?_cons_zero]; rfl) (by kernel_rfl) (by exact fun _ _ _ h => h) (by rfl) hS ?_ ?_
                    rotate_left; · (intro w hSw; go_simp; try with_reducible rfl)
                    try simp only [Act.put, List.setIfInBounds_toArray, List.set_cons_zero, List.set_cons_succ]
                    refine tk 43 (v := ?_) (by simp only [List.getElem?_toArray, List.getElem?_cons_succ, List.getElem?_cons_zero]; rfl) (by kernel_rfl) (by exact fun _ _ _ h => h) (by rfl) hS ?_ ?_
                    rotate_left; · (intro w hSw; go_simp; try with_reducible rfl)
                    try simp only [Act.put, List.setIfInBounds_toArray, List.set_cons_zero, List.set_cons_succ]
                    refine tk 44 (v := ?_) (by simp only [List.getElem?_toArray, List.getElem?_cons_succ, List.getElem?_cons_zero]; rfl) (by kernel_rfl) (by exact fun _ _ _ h => h) (by rfl) hS ?_ ?_
                    rotate_left; · (intro w hSw; go_simp; try with_reducible rfl)
                    try simp only [Act.put, List.setIfInBounds_toArray, List.set_cons_zero, List.set_cons_succ]
                    refine tk 45 (v := ?_) (by simp only [List.getElem?_toArray, List.getElem?_cons_succ, List.getElem?_cons_zero]; rfl) (by kernel_rfl) (by exact fun _ _ _ h => h) (by rfl) hS ?_ ?_
                    rotate_left; · (intro w hSw; go_simp; try with_reducible rfl)
                    try simp only [Act.put, List.setIfInBounds_toArray, List.set_cons_zero, List.set_cons_succ]
                    refine tk 46 (v := ?_) (by simp only [List.getElem?_toArray, List.getElem?_cons_succ, List.getElem?_cons_zero]; rfl) (by kernel_rfl) (by exact fun _ _ _ h => h) (by rfl) hS ?_ ?_
                    rotate_left; · (intro w hSw; go_simp; try with_reducible rfl)
                    try simp only [Act.put, List.setIfInBounds_toArray, List.set_cons_zero, List.set_cons_succ]
                    refine tk 47 (v := ?_) (by simp only [List.getElem?_toArray, List.getElem?_cons_succ, List.getElem?_cons_zero]; rfl) (by kernel_rfl) (by exact fun _ _ _ h => h) (by rfl) hS ?_ ?_
                    rotate_left; · (intro w hSw; go_simp; try with_reducible rfl)
                    try simp only [Act.put, List.setIfInBounds_toArray, List.set_cons_zero, List.set_cons_succ]
                    refine tk 48 (v := ?_) (by simp only [List.getElem?_toArray, List.getElem?_cons_succ, List.getElem?_cons_zero]; rfl) (by kernel_rfl) (by exact fun _ _ _ h => h) (by rfl) hS ?_ ?_
                    rotate_left; · (intro w hSw; go_simp; try with_reducible rfl)
                    try simp only [Act.put, List.setIfInBounds_toArray, List.set_cons_zero, List.set_cons_succ]
                    refine tk 49 (v := ?_) (by simp only [List.getElem?_toArray, List.getElem?_cons_succ, List.getElem?_cons_zero]; rfl) (by kernel_rfl) (by exact fun _ _ _ h => h) (by rfl) hS ?_ ?_
                    rotate_left; · (intro w hSw; go_simp; try with_reducible rfl)
                    try simp only [Act.put, List.setIfInBounds_toArray, List.set_cons_zero, List.set_cons_succ]
                    refine tk 50 (v := ?_) (by simp only [List.getElem?_toArray, List.getElem?_cons_succ, List.getElem?_cons_zero]; rfl) (by kernel_rfl) (by exact fun _ _ _ h => h) (by rfl) hS ?_ ?_
                    rotate_left; · (intro w hSw; go_simp; try with_reducible rfl)
                    try simp only [Act.put, List.setIfInBounds_toArray, List.set_cons_zero, List.set_cons_succ]
                    refine tk 51 (v := ?_) (by simp only [List.getElem?_toArray, List.getElem?_cons_succ, List.getElem?_cons_zero]; rfl) (by kernel_rfl) (by exact fun _ _ _ h => h) (by rfl) hS ?_ ?_
                    rotate_left; · (intro w hSw; go_simp; try with_reducible rfl)
                    try simp only [Act.put, List.setIfInBounds_toArray, List.set_cons_zero, List.set_cons_succ]
                    refine tk 52 (v := ?_) (by simp only [List.getElem?_toArray, List.getElem?_cons_succ, List.getElem?_cons_zero]; rfl) (by kernel_rfl) (by exact fun _ _ _ h => h) (by rfl) hS ?_ ?_
                    rotate_left; · (intro w hSw; go_simp; try with_reducible rfl)
                    try simp only [Act.put, List.setIfInBounds_toArray, List.set_cons_zero, List.set_cons_succ]
                    refine tk 53 (v := ?_) (by simp only [List.getElem?_toArray, List.getElem?_cons_succ, List.getElem?_cons_zero]; rfl) (by kernel_rfl) (by exact fun _ _ _ h => h) (by rfl) hS ?_ ?_
                    rotate_left; · (intro w hSw; go_simp; try with_reducible rfl)
                    try simp only [Act.put, List.setIfInBounds_toArray, List.set_cons_zero, List.set_cons_succ]
                    refine tk 54 (v := ?_) (by simp only [List.getElem?_toArray, List.getElem?_cons_succ, List.getElem?_cons_zero]; rfl) (by kernel_rfl) (by exact fun _ _ _ h => h) (by rfl) hS ?_ ?_
                    rotate_left; · (intro w hSw; go_simp; try with_reducible rfl)
                    try simp only [Act.put, List.setIfInBounds_toArray, List.set_cons_zero, List.set_cons_succ]
                    refine tk 55 (v := ?_) (by simp only [List.getElem?_toArray, List.getElem?_cons_succ, List.getElem?_cons_zero]; rfl) (by kernel_rfl) (by exact fun _ _ _ h => h) (by rfl) hS ?_ ?_
                    rotate_left; · (intro w hSw; go_simp; try with_reducible rfl)
                    try simp only [Act.put, List.setIfInBounds_toArray, List.set_cons_zero, List.set_cons_succ]
                    refine wpAnyH_done (by kernel_rfl) ?_ _
                    go_wp2
                    go_roundw
                    case rel => exact ⟨j + 1, _, M, by omega, by go_num, rfl, rfl, hP'.out, hMt.out.symm, D2.out⟩
                    case measure => simp [intOf] <;> omega
                · have hwe : (k1 == k2) = false := by rw [beq_eq_false_iff_ne]; exact hw1
                  by_cases hw2 : k1 < k2
                  · have hwl : decide (k1 < k2) = true := decide_eq_true hw2
                    have hP' := Lib.hid (hxy.out (by unfold lessWorn; rw [if_neg hw1]; exact hwl))
                    have AL : Hid (∀ w', Below w.heap.size w w' → (w'.cell? ⟨b, off + j * 7, none⟩ = some (.int .i64 n1) ∧ w'.cell? ⟨b, off + j * 7 + 1, none⟩ = some (.int .i64 l1) ∧ w'.cell? ⟨b, off + j * 7 + 2, none⟩ = some (.int .i64 p1) ∧ w'.cell? ⟨b, off + j * 7 + 3, none⟩ = some (.int .i64 k1) ∧ w'.cell? ⟨b, off + j * 7 + 4, none⟩ = some (.bool false) ∧ w'.cell? ⟨b, off + j * 7 + 5, none⟩ = some (.bool e1) ∧ w'.cell? ⟨b, off + j * 7 + 6, none⟩ = some (.bool false)) ∧ (w'.cell? ⟨b, off + q * 7, none⟩ = some (.int .i64 n2) ∧ w'.cell? ⟨b, off + q * 7 + 1, none⟩ = some (.int .i64 l2) ∧ w'.cell? ⟨b, off + q * 7 + 2, none⟩ = some (.int .i64 p2) ∧ w'.cell? ⟨b, off + q * 7 + 3, none⟩ = some (.int .i64 k2) ∧ w'.cell? ⟨b, off + q * 7 + 4, none⟩ = some (.bool o2) ∧ w'.cell? ⟨b, off + q * 7 + 5, none⟩ = some (.bool e2) ∧ w'.cell? ⟨b, off + q * 7 + 6, none⟩ = some (.bool b2))) := Lib.hid fun w' h => ⟨AJ.out w' h, AQ.out w' h⟩
                    clear hxy hxn AQ
                    go_wp2_with fail
                    refine (HMr.out _).mono ?_
                    rintro e' wD1 ⟨rfl, bD1⟩
                    have D1 := Lib.hid (hB.out.trans (bD1.mono hB.out.size))
                    have D0 : Hid (Below w.heap.size w wD1.drew) := Lib.hid D1.out.drew
                    obtain ⟨d0, d1, d2, d3, d4, d5, d6⟩ := AJ.out _ D1.out
                    dsimp only at d0 d1 d2 d3 d4 d5 d6
                    clear bD1
                    go_wp2_with fail
                    clear d0 d1 d2 d3 d4 d5 d6
                    refine wp_region_held_drew (S := fun w' => (w'.cell? ⟨b, off + j * 7, none⟩ = some (.int .i64 n1) ∧ w'.cell? ⟨b, off + j * 7 + 1, none⟩ = some (.int .i64 l1) ∧ w'.cell? ⟨b, off + j * 7 + 2, none⟩ = some (.int .i64 p1) ∧ w'.cell? ⟨b, off + j * 7 + 3, none⟩ = some (.int .i64 k1) ∧ w'.cell? ⟨b, off + j * 7 + 4, none⟩ = some (.bool false) ∧ w'.cell? ⟨b, off + j * 7 + 5, none⟩ = some (.bool e1) ∧ w'.cell? ⟨b, off + j * 7 + 6, none⟩ = some (.bool false)) ∧ (w'.cell? ⟨b, off + q * 7, none⟩ = some (.int .i64 n2) ∧ w'.cell? ⟨b, off + q * 7 + 1, none⟩ = some (.int .i64 l2) ∧ w'.cell? ⟨b, off + q * 7 + 2, none⟩ = some (.int .i64 p2) ∧ w'.cell? ⟨b, off + q * 7 + 3, none⟩ = some (.int .i64 k2) ∧ w'.cell? ⟨b, off + q * 7 + 4, none⟩ = some (.bool o2) ∧ w'.cell? ⟨b, off + q * 7 + 5, none⟩ = some (.bool e2) ∧ w'.cell? ⟨b, off + q * 7 + 6, none⟩ = some (.bool b2))) (by kernel_rfl) (AL.out _ D0.out) (fun hS => ?_)
                    try simp only [List.size_toArray, List.length_cons, List.length_nil, Nat.reduceAdd]
                    refine tk 0 (v := ?_) (by simp only [List.getElem?_toArray, List.getElem?_cons_succ, List.getElem?_cons_zero]; rfl) (by kernel_rfl) (by exact fun _ _ _ h => h) (by rfl) hS ?_ ?_
                    rotate_left; · (intro w hSw; go_simp; try with_reducible rfl)
                    try simp only [Act.put, List.setIfInBounds_toArray, List.set_cons_zero, List.set_cons_succ]
                    refine tk 1 (v := ?_) (by simp only [List.getElem?_toArray, List.getElem?_cons_succ, List.getElem?_cons_zero]; rfl) (by kernel_rfl) (by exact fun _ _ _ h => h) (by rfl) hS ?_ ?_
                    rotate_left; · (intro w hSw; go_simp; try with_reducible rfl)
                    try simp only [Act.put, List.setIfInBounds_toArray, List.set_cons_zero, List.set_cons_succ]
                    refine tk 2 (v := ?_) (by simp only [List.getElem?_toArray, List.getElem?_cons_succ, List.getElem?_cons_zero]; rfl) (by kernel_rfl) (by exact fun _ _ _ h => h) (by rfl) hS ?_ ?_
                    rotate_left; · (intro w hSw; go_simp; try with_reducible rfl)
                    try simp only [Act.put, List.setIfInBounds_toArray, List.set_cons_zero, List.set_cons_succ]
                    refine tk 3 (v := ?_) (by simp only [List.getElem?_toArray, List.getElem?_cons_succ, List.getElem?_cons_zero]; rfl) (by kernel_rfl) (by exact fun _ _ _ h => h) (by rfl) hS ?_ ?_
                    rotate_left; · (intro w hSw; go_simp; try with_reducible rfl)
                    try simp only [Act.put, List.setIfInBounds_toArray, List.set_cons_zero, List.set_cons_succ]
                    refine wpAnyH_ready (rs := [4]) (by kernel_rfl) (by simp) ?_
                    refine AllReadyH.cons (by simp only [List.getElem?_toArray, List.getElem?_cons_succ, List.getElem?_cons_zero]; rfl) (fun K hK => ?_) AllReadyH.nil
                    go_simp
                    go_at_call 78
                    refine (HM.out _).mono ?_
                    rintro e' wD2 ⟨rfl, bD2⟩
                    have D2 : Hid (Below w.heap.size w wD2) := Lib.hid (D0.out.trans (bD2.mono D0.out.size))
                    clear bD2
                    refine hK.out _ _ (AL.out _ D2.out) (fun hS => ?_)
                    clear hK K
                    try simp only [Act.put, List.setIfInBounds_toArray, List.set_cons_zero, List.set_cons_succ]
                    refine tk 5 (v := ?_) (by simp only [List.getElem?_toArray, List.getElem?_cons_succ, List.getElem?_cons_zero]; rfl) (by kernel_rfl) (by exact fun _ _ _ h => h) (by rfl) hS ?_ ?_
                    rotate_left; · (intro w hSw; go_simp; try with_reducible rfl)
                    try simp only [Act.put, List.setIfInBounds_toArray, List.set_cons_zero, List.set_cons_succ]
                    refine tk 6 (v := ?_) (by simp only [List.getElem?_toArray, List.getElem?_cons_succ, List.getElem?_cons_zero]; rfl) (by kernel_rfl) (by exact fun _ _ _ h => h) (by rfl) hS ?_ ?_
                    rotate_left; · (intro w hSw; go_simp; try with_reducible rfl)
                    try simp only [Act.put, List.setIfInBounds_toArray, List.set_cons_zero, List.set_cons_succ]
                    refine tk 7 (v := ?_) (by simp only [List.getElem?_toArray, List.getElem?_cons_succ, List.getElem?_cons_zero]; rfl) (by kernel_rfl) (by exact fun _ _ _ h => h) (by rfl) hS ?_ ?_
                    rotate_left; · (intro w hSw; go_simp; try with_reducible rfl)
                    try simp only [Act.put, List.setIfInBounds_toArray, List.set_cons_zero, List.set_cons_succ]
                    refine tk 8 (v := ?_) (by simp only [List.getElem?_toArray, List.getElem?_cons_succ, List.getElem?_cons_zero]; rfl) (by kernel_rfl) (by exact fun _ _ _ h => h) (by rfl) hS ?_ ?_
                    rotate_left; · (intro w hSw; go_simp; try with_reducible rfl)
                    try simp only [Act.put, List.setIfInBounds_toArray, List.set_cons_zero, List.set_cons_succ]
                    refine tk 9 (v := ?_) (by simp only [List.getElem?_toArray, List.getElem?_cons_succ, List.getElem?_cons_zero]; rfl) (by kernel_rfl) (by exact fun _ _ _ h => h) (by rfl) hS ?_ ?_
                    rotate_left; · (intro w hSw; go_simp; try with_reducible rfl)
                    try simp only [Act.put, List.setIfInBounds_toArray, List.set_cons_zero, List.set_cons_succ]
                    refine tk 10 (v := ?_) (by simp only [List.getElem?_toArray, List.getElem?_cons_succ, List.getElem?_cons_zero]; rfl) (by kernel_rfl) (by exact fun _ _ _ h => h) (by rfl) hS ?_ ?_
                    rotate_left; · (intro w hSw; go_simp; try with_reducible rfl)
                    try simp only [Act.put, List.setIfInBounds_toArray, List.set_cons_zero, List.set_cons_succ]
                    refine tk 11 (v := ?_) (by simp only [List.getElem?_toArray, List.getElem?_cons_succ, List.getElem?_cons_zero]; rfl) (by kernel_rfl) (by exact fun _ _ _ h => h) (by rfl) hS ?_ ?_
                    rotate_left; · (intro w hSw; go_simp; try with_reducible rfl)
                    try simp only [Act.put, List.setIfInBounds_toArray, List.set_cons_zero, List.set_cons_succ]
                    refine tk 12 (v := ?_) (by simp only [List.getElem?_toArray, List.getElem?_cons_succ, List.getElem?_cons_zero]; rfl) (by kernel_rfl) (by exact fun _ _ _ h => h) (by rfl) hS ?_ ?_
                    rotate_left; · (intro w hSw; go_simp; try with_reducible rfl)
                    try simp only [Act.put, List.setIfInBounds_toArray, List.set_cons_zero, List.set_cons_succ]
                    refine tk 13 (v := ?_) (by simp only [List.getElem?_toArray, List.getElem?_cons_succ, List.getElem?_cons_zero]; rfl) (by kernel_rfl) (by exact fun _ _ _ h => h) (by rfl) hS ?_ ?_
                    rotate_left; · (intro w hSw; go_simp; try with_reducible rfl)
                    try simp only [Act.put, List.setIfInBounds_toArray, List.set_cons_zero, List.set_cons_succ]
                    refine tk 14 (v := ?_) (by simp only [List.getElem?_toArray, List.getElem?_cons_succ, List.getElem?_cons_zero]; rfl) (by kernel_rfl) (by exact fun _ _ _ h => h) (by rfl) hS ?_ ?_
                    rotate_left; · (intro w hSw; go_simp; try with_reducible rfl)
                    try simp only [Act.put, List.setIfInBounds_toArray, List.set_cons_zero, List.set_cons_succ]
                    refine tk 15 (v := ?_) (by simp only [List.getElem?_toArray, List.getElem?_cons_succ, List.getElem?_cons_zero]; rfl) (by kernel_rfl) (by exact fun _ _ _ h => h) (by rfl) hS ?_ ?_
                    rotate_left; · (intro w hSw; go_simp; try with_reducible rfl)
                    try simp only [Act.put, List.setIfInBounds_toArray, List.set_cons_zero, List.set_cons_succ]
                    refine tk 16 (v := ?_) (by simp only [List.getElem?_toArray, List.getElem?_cons_succ, List.getElem?_cons_zero]; rfl) (by kernel_rfl) (by exact fun _ _ _ h => h) (by rfl) hS ?_ ?_
                    rotate_left; · (intro w hSw; go_simp; try with_reducible rfl)
                    try simp only [Act.put, List.setIfInBounds_toArray, List.set_cons_zero, List.set_cons_succ]
                    refine tk 17 (v := ?_) (by simp only [List.getElem?_toArray, List.getElem?_cons_succ, List.getElem?_cons_zero]; rfl) (by kernel_rfl) (by exact fun _ _ _ h => h) (by rfl) hS ?_ ?_
                    rotate_left; · (intro w hSw; go_simp; try with_reducible rfl)
                    try simp only [Act.put, List.setIfInBounds_toArray, List.set_cons_zero, List.set_cons_succ]
                    refine tk 18 (v := ?_) (by simp only [List.getElem?_toArray, List.getElem?_cons_succ, List.getElem?_cons_zero]; rfl) (by kernel_rfl) (by exact fun _ _ _ h => h) (by rfl) hS ?_ ?_
                    rotate_left; · (intro w hSw; go_simp; try with_reducible rfl)
                    try simp only [Act.put, List.setIfInBounds_toArray, List.set_cons_zero, List.set_cons_succ]
                    refine tk 19 (v := ?_) (by simp only [List.getElem?_toArray, List.getElem?_cons_succ, List.getElem?_cons_zero]; rfl) (by kernel_rfl) (by exact fun _ _ _ h => h) (by rfl) hS ?_ ?_
                    rotate_left; · (intro w hSw; go_simp; try with_reducible rfl)
                    try simp only [Act.put, List.setIfInBounds_toArray, List.set_cons_zero, List.set_cons_succ]
                    refine tk 20 (v := ?_) (by simp only [List.getElem?_toArray, List.getElem?_cons_succ, List.getElem?_cons_zero]; rfl) (by kernel_rfl) (by exact fun _ _ _ h => h) (by rfl) hS ?_ ?_
                    rotate_left; · (intro w hSw; go_simp; try with_reducible rfl)
                    try simp only [Act.put, List.setIfInBounds_toArray, List.set_cons_zero, List.set_cons_succ]
                    refine tk 21 (v := ?_) (by simp only [List.getElem?_toArray, List.getElem?_cons_succ, List.getElem?_cons_zero]; rfl) (by kernel_rfl) (by exact fun _ _ _ h => h) (by rfl) hS ?_ ?_
                    rotate_left; · (intro w hSw; go_simp; try with_reducible rfl)
                    try simp only [Act.put, List.setIfInBounds_toArray, List.set_cons_zero, List.set_cons_succ]
                    refine tk 22 (v := ?_) (by simp only [List.getElem?_toArray, List.getElem?_cons_succ, List.getElem?_cons_zero]; rfl) (by kernel_rfl) (by exact fun _ _ _ h => h) (by rfl) hS ?_ ?_
                    rotate_left; · (intro w hSw; go_simp; try with_reducible rfl)
                    try simp only [Act.put, List.setIfInBounds_toArray, List.set_cons_zero, List.set_cons_succ]
                    refine tk 23 (v := ?_) (by simp only [List.getElem?_toArray, List.getElem?_cons_succ, List.getElem?_cons_zero]; rfl) (by kernel_rfl) (by exact fun _ _ _ h => h) (by rfl) hS ?_ ?_
                    rotate_left; · (intro w hSw; go_simp; try with_reducible rfl)
                    try simp only [Act.put, List.setIfInBounds_toArray, List.set_cons_zero, List.set_cons_succ]
                    refine tk 24 (v := ?_) (by simp only [List.getElem?_toArray, List.getElem?_cons_succ, List.getElem?_cons_zero]; rfl) (by kernel_rfl) (by exact fun _ _ _ h => h) (by rfl) hS ?_ ?_
                    rotate_left; · (intro w hSw; go_simp; try with_reducible rfl)
                    try simp only [Act.put, List.setIfInBounds_toArray, List.set_cons_zero, List.set_cons_succ]
                    refine tk 25 (v := ?_) (by simp only [List.getElem?_toArray, List.getElem?_cons_succ, List.getElem?_cons_zero]; rfl) (by kernel_rfl) (by exact fun _ _ _ h => h) (by rfl) hS ?_ ?_
                    rotate_left; · (intro w hSw; go_simp; try with_reducible rfl)
                    try simp only [Act.put, List.setIfInBounds_toArray, List.set_cons_zero, List.set_cons_succ]
                    refine tk 26 (v := ?_) (by simp only [List.getElem?_toArray, List.getElem?_cons_succ, List.getElem?_cons_zero]; rfl) (by kernel_rfl) (by exact fun _ _ _ h => h) (by rfl) hS ?_ ?_
                    rotate_left; · (intro w hSw; go_simp; try with_reducible rfl)
                    try simp only [Act.put, List.setIfInBounds_toArray, List.set_cons_zero, List.set_cons_succ]
                    refine tk 27 (v := ?_) (by simp only [List.getElem?_toArray, List.getElem?_cons_succ, List.getElem?_cons_zero]; rfl) (by kernel_rfl) (by exact fun _ _ _ h => h) (by rfl) hS ?_ ?_
                    rotate_left; · (intro w hSw; go_simp; try with_reducible rfl)
                    try simp only [Act.put, List.setIfInBounds_toArray, List.set_cons_zero, List.set_cons_succ]
                    refine tk 28 (v := ?_) (by simp only [List.getElem?_toArray, List.getElem?_cons_succ, List.getElem?_cons_zero]; rfl) (by kernel_rfl) (by exact fun _ _ _ h => h) (by rfl) hS ?_ ?_
                    rotate_left; · (intro w hSw; go_simp; try with_reducible rfl)
                    try simp only [Act.put, List.setIfInBounds_toArray, List.set_cons_zero, List.set_cons_succ]
                    refine tk 29 (v := ?_) (by simp only [List.getElem?_toArray, List.getElem?_cons_succ, List.getElem?_cons_zero]; rfl) (by kernel_rfl) (by exact fun _ _ _ h => h) (by rfl) hS ?_ ?_
                    rotate_left; · (intro w hSw; go_simp; try with_reducible rfl)
                    try simp only [Act.put, List.setIfInBounds_toArray, List.set_cons_zero, List.set_cons_succ]
                    refine skips (by kernel_rfl) (by exact fun _ _ _ _ h => h) [(30, 72), (31, 73), (32, 74), (33, 75), (34, 76), (35, 77), (36, 78), (37, 79), (38, 80), (39, 81), (40, 82), (41, 83), (42, 84), (43, 85), (44, 86), (45, 87), (46, 88), (47, 89), (48, 90), (49, 91), (50, 92), (51, 93), (52, 94), (53, 95)] 2 26 _ _ _ rfl (by kernel_rfl) hS ?_
                    simp only [skL, skA, Act.put, List.setIfInBounds_toArray, List.set_cons_zero, List.set_cons_succ]
                    refine tk 54 (v := ?_) (by simp only [List.getElem?_toArray, List.getElem?_cons_succ, List.getElem?_cons_zero]; rfl) (by kernel_rfl) (by exact fun _ _ _ h => h) (by rfl) hS ?_ ?_
                    rotate_left; · (intro w hSw; go_simp; try with_reducible rfl)
                    try simp only [Act.put, List.setIfInBounds_toArray, List.set_cons_zero, List.set_cons_succ]
                    refine tk 55 (v := ?_) (by simp only [List.getElem?_toArray, List.getElem?_cons_succ, List.getElem?_cons_zero]; rfl) (by kernel_rfl) (by exact fun _ _ _ h => h) (by rfl) hS ?_ ?_
                    rotate_left; · (intro w hSw; go_simp; try with_reducible rfl)
                    try simp only [Act.put, List.setIfInBounds_toArray, List.set_cons_zero, List.set_cons_succ]
                    refine wpAnyH_done (by kernel_rfl) ?_ _
                    go_wp2
                    go_roundw
                    case rel => exact ⟨j + 1, j, M, by omega, by go_num, rfl, rfl, hP'.out, hMt.out.symm, D2.out⟩
                    case measure => simp [intOf] <;> omega
                  · have hwl : decide (k1 < k2) = false := decide_eq_false hw2
                    have hP' := Lib.hid (hxn.out (by unfold lessWorn; rw [if_neg hw1]; exact hwl))
                    have AL : Hid (∀ w', Below w.heap.size w w' → (w'.cell? ⟨b, off + j * 7, none⟩ = some (.int .i64 n1) ∧ w'.cell? ⟨b, off + j * 7 + 1, none⟩ = some (.int .i64 l1) ∧ w'.cell? ⟨b, off + j * 7 + 2, none⟩ = some (.int .i64 p1) ∧ w'.cell? ⟨b, off + j * 7 + 3, none⟩ = some (.int .i64 k1) ∧ w'.cell? ⟨b, off + j * 7 + 4, none⟩ = some (.bool false) ∧ w'.cell? ⟨b, off + j * 7 + 5, none⟩ = some (.bool e1) ∧ w'.cell? ⟨b, off + j * 7 + 6, none⟩ = some (.bool false)) ∧ (w'.cell? ⟨b, off + q * 7, none⟩ = some (.int .i64 n2) ∧ w'.cell? ⟨b, off + q * 7 + 1, none⟩ = some (.int .i64 l2) ∧ w'.cell? ⟨b, off + q * 7 + 2, none⟩ = some (.int .i64 p2) ∧ w'.cell? ⟨b, off + q * 7 + 3, none⟩ = some (.int .i64 k2) ∧ w'.cell? ⟨b, off + q * 7 + 4, none⟩ = some (.bool o2) ∧ w'.cell? ⟨b, off + q * 7 + 5, none⟩ = some (.bool e2) ∧ w'.cell? ⟨b, off + q * 7 + 6, none⟩ = some (.bool b2))) := Lib.hid fun w' h => ⟨AJ.out w' h, AQ.out w' h⟩
                    clear hxy hxn AQ
                    go_wp2_with fail
                    refine (HMr.out _).mono ?_
                    rintro e' wD1 ⟨rfl, bD1⟩
                    have D1 := Lib.hid (hB.out.trans (bD1.mono hB.out.size))
                    have D0 : Hid (Below w.heap.size w wD1.drew) := Lib.hid D1.out.drew
                    obtain ⟨d0, d1, d2, d3, d4, d5, d6⟩ := AJ.out _ D1.out
                    dsimp only at d0 d1 d2 d3 d4 d5 d6
                    clear bD1
                    go_wp2_with fail
                    clear d0 d1 d2 d3 d4 d5 d6
                    refine wp_region_held_drew (S := fun w' => (w'.cell? ⟨b, off + j * 7, none⟩ = some (.int .i64 n1) ∧ w'.cell? ⟨b, off + j * 7 + 1, none⟩ = some (.int .i64 l1) ∧ w'.cell? ⟨b, off + j * 7 + 2, none⟩ = some (.int .i64 p1) ∧ w'.cell? ⟨b, off + j * 7 + 3, none⟩ = some (.int .i64 k1) ∧ w'.cell? ⟨b, off + j * 7 + 4, none⟩ = some (.bool false) ∧ w'.cell? ⟨b, off + j * 7 + 5, none⟩ = some (.bool e1) ∧ w'.cell? ⟨b, off + j * 7 + 6, none⟩ = some (.bool false)) ∧ (w'.cell? ⟨b, off + q * 7, none⟩ = some (.int .i64 n2) ∧ w'.cell? ⟨b, off + q * 7 + 1, none⟩ = some (.int .i64 l2) ∧ w'.cell? ⟨b, off + q * 7 + 2, none⟩ = some (.int .i64 p2) ∧ w'.cell? ⟨b, off + q * 7 + 3, none⟩ = some (.int .i64 k2) ∧ w'.cell? ⟨b, off + q * 7 + 4, none⟩ = some (.bool o2) ∧ w'.cell? ⟨b, off + q * 7 + 5, none⟩ = some (.bool e2) ∧ w'.cell? ⟨b, off + q * 7 + 6, none⟩ = some (.bool b2))) (by kernel_rfl) (AL.out _ D0.out) (fun hS => ?_)
                    try simp only [List.size_toArray, List.length_cons, List.length_nil, Nat.reduceAdd]
                    refine tk 0 (v := ?_) (by simp only [List.getElem?_toArray, List.getElem?_cons_succ, List.getElem?_cons_zero]; rfl) (by kernel_rfl) (by exact fun _ _ _ h => h) (by rfl) hS ?_ ?_
                    rotate_left; · (intro w hSw; go_simp; try with_reducible rfl)
                    try simp only [Act.put, List.setIfInBounds_toArray, List.set_cons_zero, List.set_cons_succ]
                    refine tk 1 (v := ?_) (by simp only [List.getElem?_toArray, List.getElem?_cons_succ, List.getElem?_cons_zero]; rfl) (by kernel_rfl) (by exact fun _ _ _ h => h) (by rfl) hS ?_ ?_
                    rotate_left; · (intro w hSw; go_simp; try with_reducible rfl)
                    try simp only [Act.put, List.setIfInBounds_toArray, List.set_cons_zero, List.set_cons_succ]
                    refine tk 2 (v := ?_) (by simp only [List.getElem?_toArray, List.getElem?_cons_succ, List.getElem?_cons_zero]; rfl) (by kernel_rfl) (by exact fun _ _ _ h => h) (by rfl) hS ?_ ?_
                    rotate_left; · (intro w hSw; go_simp; try with_reducible rfl)
                    try simp only [Act.put, List.setIfInBounds_toArray, List.set_cons_zero, List.set_cons_succ]
                    refine tk 3 (v := ?_) (by simp only [List.getElem?_toArray, List.getElem?_cons_succ, List.getElem?_cons_zero]; rfl) (by kernel_rfl) (by exact fun _ _ _ h => h) (by rfl) hS ?_ ?_
                    rotate_left; · (intro w hSw; go_simp; try with_reducible rfl)
                    try simp only [Act.put, List.setIfInBounds_toArray, List.set_cons_zero, List.set_cons_succ]
                    refine wpAnyH_ready (rs := [4]) (by kernel_rfl) (by simp) ?_
                    refine AllReadyH.cons (by simp only [List.getElem?_toArray, List.getElem?_cons_succ, List.getElem?_cons_zero]; rfl) (fun K hK => ?_) AllReadyH.nil
                    go_simp
                    go_at_call 78
                    refine (HM.out _).mono ?_
                    rintro e' wD2 ⟨rfl, bD2⟩
                    have D2 : Hid (Below w.heap.size w wD2) := Lib.hid (D0.out.trans (bD2.mono D0.out.size))
                    clear bD2
                    refine hK.out _ _ (AL.out _ D2.out) (fun hS => ?_)
                    clear hK K
                    try simp only [Act.put, List.setIfInBounds_toArray, List.set_cons_zero, List.set_cons_succ]
                    refine tk 5 (v := ?_) (by simp only [List.getElem?_toArray, List.getElem?_cons_succ, List.getElem?_cons_zero]; rfl) (by kernel_rfl) (by exact fun _ _ _ h => h) (by rfl) hS ?_ ?_
                    rotate_left; · (intro w hSw; go_simp; try with_reducible rfl)
                    try simp only [Act.put, List.setIfInBounds_toArray, List.set_cons_zero, List.set_cons_succ]
                    refine tk 6 (v := ?_) (by simp only [List.getElem?_toArray, List.getElem?_cons_succ, List.getElem?_cons_zero]; rfl) (by kernel_rfl) (by exact fun _ _ _ h => h) (by rfl) hS ?_ ?_
                    rotate_left; · (intro w hSw; go_simp; try with_reducible rfl)
                    try simp only [Act.put, List.setIfInBounds_toArray, List.set_cons_zero, List.set_cons_succ]
                    refine tk 7 (v := ?_) (by simp only [List.getElem?_toArray, List.getElem?_cons_succ, List.getElem?_cons_zero]; rfl) (by kernel_rfl) (by exact fun _ _ _ h => h) (by rfl) hS ?_ ?_
                    rotate_left; · (intro w hSw; go_simp; try with_reducible rfl)
                    try simp only [Act.put, List.setIfInBounds_toArray, List.set_cons_zero, List.set_cons_succ]
                    refine tk 8 (v := ?_) (by simp only [List.getElem?_toArray, List.getElem?_cons_succ, List.getElem?_cons_zero]; rfl) (by kernel_rfl) (by exact fun _ _ _ h => h) (by rfl) hS ?_ ?_
                    rotate_left; · (intro w hSw; go_simp; try with_reducible rfl)
                    try simp only [Act.put, List.setIfInBounds_toArray, List.set_cons_zero, List.set_cons_succ]
                    refine tk 9 (v := ?_) (by simp only [List.getElem?_toArray, List.getElem?_cons_succ, List.getElem?_cons_zero]; rfl) (by kernel_rfl) (by exact fun _ _ _ h => h) (by rfl) hS ?_ ?_
                    rotate_left; · (intro w hSw; go_simp; try with_reducible rfl)
                    try simp only [Act.put, List.setIfInBounds_toArray, List.set_cons_zero, List.set_cons_succ]
                    refine tk 10 (v := ?_) (by simp only [List.getElem?_toArray, List.getElem?_cons_succ, List.getElem?_cons_zero]; rfl) (by kernel_rfl) (by exact fun _ _ _ h => h) (by rfl) hS ?_ ?_
                    rotate_left; · (intro w hSw; go_simp; try with_reducible rfl)
                    try simp only [Act.put, List.setIfInBounds_toArray, List.set_cons_zero, List.set_cons_succ]
                    refine tk 11 (v := ?_) (by simp only [List.getElem?_toArray, List.getElem?_cons_succ, List.getElem?_cons_zero]; rfl) (by kernel_rfl) (by exact fun _ _ _ h => h) (by rfl) hS ?_ ?_
                    rotate_left; · (intro w hSw; go_simp; try with_reducible rfl)
                    try simp only [Act.put, List.setIfInBounds_toArray, List.set_cons_zero, List.set_cons_succ]
                    refine tk 12 (v := ?_) (by simp only [List.getElem?_toArray, List.getElem?_cons_succ, List.getElem?_cons_zero]; rfl) (by kernel_rfl) (by exact fun _ _ _ h => h) (by rfl) hS ?_ ?_
                    rotate_left; · (intro w hSw; go_simp; try with_reducible rfl)
                    try simp only [Act.put, List.setIfInBounds_toArray, List.set_cons_zero, List.set_cons_succ]
                    refine tk 13 (v := ?_) (by simp only [List.getElem?_toArray, List.getElem?_cons_succ, List.getElem?_cons_zero]; rfl) (by kernel_rfl) (by exact fun _ _ _ h => h) (by rfl) hS ?_ ?_
                    rotate_left; · (intro w hSw; go_simp; try with_reducible rfl)
                    try simp only [Act.put, List.setIfInBounds_toArray, List.set_cons_zero, List.set_cons_succ]
                    refine tk 14 (v := ?_) (by simp only [List.getElem?_toArray, List.getElem?_cons_succ, List.getElem?_cons_zero]; rfl) (by kernel_rfl) (by exact fun _ _ _ h => h) (by rfl) hS ?_ ?_
                    rotate_left; · (intro w hSw; go_simp; try with_reducible rfl)
                    try simp only [Act.put, List.setIfInBounds_toArray, List.set_cons_zero, List.set_cons_succ]
                    refine tk 15 (v := ?_) (by simp only [List.getElem?_toArray, List.getElem?_cons_succ, List.getElem?_cons_zero]; rfl) (by kernel_rfl) (by exact fun _ _ _ h => h) (by rfl) hS ?_ ?_
                    rotate_left; · (intro w hSw; go_simp; try with_reducible rfl)
                    try simp only [Act.put, List.setIfInBounds_toArray, List.set_cons_zero, List.set_cons_succ]
                    refine tk 16 (v := ?_) (by simp only [List.getElem?_toArray, List.getElem?_cons_succ, List.getElem?_cons_zero]; rfl) (by kernel_rfl) (by exact fun _ _ _ h => h) (by rfl) hS ?_ ?_
                    rotate_left; · (intro w hSw; go_simp; try with_reducible rfl)
                    try simp only [Act.put, List.setIfInBounds_toArray, List.set_cons_zero, List.set_cons_succ]
                    refine tk 17 (v := ?_) (by simp only [List.getElem?_toArray, List.getElem?_cons_succ, List.getElem?_cons_zero]; rfl) (by kernel_rfl) (by exact fun _ _ _ h => h) (by rfl) hS ?_ ?_
                    rotate_left; · (intro w hSw; go_simp; try with_reducible rfl)
                    try simp only [Act.put, List.setIfInBounds_toArray, List.set_cons_zero, List.set_cons_succ]
                    refine tk 18 (v := ?_) (by simp only [List.getElem?_toArray, List.getElem?_cons_succ, List.getElem?_cons_zero]; rfl) (by kernel_rfl) (by exact fun _ _ _ h => h) (by rfl) hS ?_ ?_
                    rotate_left; · (intro w hSw; go_simp; try with_reducible rfl)
                    try simp only [Act.put, List.setIfInBounds_toArray, List.set_cons_zero, List.set_cons_succ]
                    refine tk 19 (v := ?_) (by simp only [List.getElem?_toArray, List.getElem?_cons_succ, List.getElem?_cons_zero]; rfl) (by kernel_rfl) (by exact fun _ _ _ h => h) (by rfl) hS ?_ ?_
                    rotate_left; · (intro w hSw; go_simp; try with_reducible rfl)
                    try simp only [Act.put, List.setIfInBounds_toArray, List.set_cons_zero, List.set_cons_succ]
                    refine tk 20 (v := ?_) (by simp only [List.getElem?_toArray, List.getElem?_cons_succ, List.getElem?_cons_zero]; rfl) (by kernel_rfl) (by exact fun _ _ _ h => h) (by rfl) hS ?_ ?_
                    rotate_left; · (intro w hSw; go_simp; try with_reducible rfl)
                    try simp only [Act.put, List.setIfInBounds_toArray, List.set_cons_zero, List.set_cons_succ]
                    refine tk 21 (v := ?_) (by simp only [List.getElem?_toArray, List.getElem?_cons_succ, List.getElem?_cons_zero]; rfl) (by kernel_rfl) (by exact fun _ _ _ h => h) (by rfl) hS ?_ ?_
                    rotate_left; · (intro w hSw; go_simp; try with_reducible rfl)
                    try simp only [Act.put, List.setIfInBounds_toArray, List.set_cons_zero, List.set_cons_succ]
                    refine tk 22 (v := ?_) (by simp only [List.getElem?_toArray, List.getElem?_cons_succ, List.getElem?_cons_zero]; rfl) (by kernel_rfl) (by exact fun _ _ _ h => h) (by rfl) hS ?_ ?_
                    rotate_left; · (intro w hSw; go_simp; try with_reducible rfl)
                    try simp only [Act.put, List.setIfInBounds_toArray, List.set_cons_zero, List.set_cons_succ]
                    refine tk 23 (v := ?_) (by simp only [List.getElem?_toArray, List.getElem?_cons_succ, List.getElem?_cons_zero]; rfl) (by kernel_rfl) (by exact fun _ _ _ h => h) (by rfl) hS ?_ ?_
                    rotate_left; · (intro w hSw; go_simp; try with_reducible rfl)
                    try simp only [Act.put, List.setIfInBounds_toArray, List.set_cons_zero, List.set_cons_succ]
                    refine tk 24 (v := ?_) (by simp only [List.getElem?_toArray, List.getElem?_cons_succ, List.getElem?_cons_zero]; rfl) (by kernel_rfl) (by exact fun _ _ _ h => h) (by rfl) hS ?_ ?_
                    rotate_left; · (intro w hSw; go_simp; try with_reducible rfl)
                    try simp only [Act.put, List.setIfInBounds_toArray, List.set_cons_zero, List.set_cons_succ]
                    refine tk 25 (v := ?_) (by simp only [List.getElem?_toArray, List.getElem?_cons_succ, List.getElem?_cons_zero]; rfl) (by kernel_rfl) (by exact fun _ _ _ h => h) (by rfl) hS ?_ ?_
                    rotate_left; · (intro w hSw; go_simp; try with_reducible rfl)
                    try simp only [Act.put, List.setIfInBounds_toArray, List.set_cons_zero, List.set_cons_succ]
                    refine tk 26 (v := ?_) (by simp only [List.getElem?_toArray, List.getElem?_cons_succ, List.getElem?_cons_zero]; rfl) (by kernel_rfl) (by exact fun _ _ _ h => h) (by rfl) hS ?_ ?_
                    rotate_left; · (intro w hSw; go_simp; try with_reducible rfl)
                    try simp only [Act.put, List.setIfInBounds_toArray, List.set_cons_zero, List.set_cons_succ]
                    refine tk 27 (v := ?_) (by simp only [List.getElem?_toArray, List.getElem?_cons_succ, List.getElem?_cons_zero]; rfl) (by kernel_rfl) (by exact fun _ _ _ h => h) (by rfl) hS ?_ ?_
                    rotate_left; · (intro w hSw; go_simp; try with_reducible rfl)
                    try simp only [Act.put, List.setIfInBounds_toArray, List.set_cons_zero, List.set_cons_succ]
                    refine tk 28 (v := ?_) (by simp only [List.getElem?_toArray, List.getElem?_cons_succ, List.getElem?_cons_zero]; rfl) (by kernel_rfl) (by exact fun _ _ _ h => h) (by rfl) hS ?_ ?_
                    rotate_left; · (intro w hSw; go_simp; try with_reducible rfl)
                    try simp only [Act.put, List.setIfInBounds_toArray, List.set_cons_zero, List.set_cons_succ]
                    refine tk 29 (v := ?_) (by simp only [List.getElem?_toArray, List.getElem?_cons_succ, List.getElem?_cons_zero]; rfl) (by kernel_rfl) (by exact fun _ _ _ h => h) (by rfl) hS ?_ ?_
                    rotate_left; · (intro w hSw; go_simp; try with_reducible rfl)
                    try simp only [Act.put, List.setIfInBounds_toArray, List.set_cons_zero, List.set_cons_succ]
                    refine tk 30 (v := ?_) (by simp only [List.getElem?_toArray, List.getElem?_cons_succ, List.getElem?_cons_zero]; rfl) (by kernel_rfl) (by exact fun _ _ _ h => h) (by rfl) hS ?_ ?_
                    rotate_left; · (intro w hSw; go_simp; try with_reducible rfl)
                    try simp only [Act.put, List.setIfInBounds_toArray, List.set_cons_zero, List.set_cons_succ]
                    refine tk 31 (v := ?_) (by simp only [List.getElem?_toArray, List.getElem?_cons_succ, List.getElem?_cons_zero]; rfl) (by kernel_rfl) (by exact fun _ _ _ h => h) (by rfl) hS ?_ ?_
                    rotate_left; · (intro w hSw; go_simp; try with_reducible rfl)
                    try simp only [Act.put, List.setIfInBounds_toArray, List.set_cons_zero, List.set_cons_succ]
                    refine tk 32 (v := ?_) (by simp only [List.getElem?_toArray, List.getElem?_cons_succ, List.getElem?_cons_zero]; rfl) (by kernel_rfl) (by exact fun _ _ _ h => h) (by rfl) hS ?_ ?_
                    rotate_left; · (intro w hSw; go_simp; try with_reducible rfl)
                    try simp only [Act.put, List.setIfInBounds_toArray, List.set_cons_zero, List.set_cons_succ]
                    refine tk 33 (v := ?_) (by simp only [List.getElem?_toArray, List.getElem?_cons_succ, List.getElem?_cons_zero]; rfl) (by kernel_rfl) (by exact fun _ _ _ h => h) (by rfl) hS ?_ ?_
                    rotate_left; · (intro w hSw; go_simp; try with_reducible rfl)
                    try simp only [Act.put, List.setIfInBounds_toArray, List.set_cons_zero, List.set_cons_succ]
                    refine tk 34 (v := ?_) (by simp only [List.getElem?_toArray, List.getElem?_cons_succ, List.getElem?_cons_zero]; rfl) (by kernel_rfl) (by exact fun _ _ _ h => h) (by rfl) hS ?_ ?_
                    rotate_left; · (intro w hSw; go_simp; try with_reducible rfl)
                    try simp only [Act.put, List.setIfInBounds_toArray, List.set_cons_zero, List.set_cons_succ]
                    refine tk 35 (v := ?_) (by simp only [List.getElem?_toArray, List.getElem?_cons_succ, List.getElem?_cons_zero]; rfl) (by kernel_rfl) (by exact fun _ _ _ h => h) (by rfl) hS ?_ ?_
                    rotate_left; · (intro w hSw; go_simp; try with_reducible rfl)
                    try simp only [Act.put, List.setIfInBounds_toArray, List.set_cons_zero, List.set_cons_succ]
                    refine tk 36 (v := ?_) (by simp only [List.getElem?_toArray, List.getElem?_cons_succ, List.getElem?_cons_zero]; rfl) (by kernel_rfl) (by exact fun _ _ _ h => h) (by rfl) hS ?_ ?_
                    rotate_left; · (intro w hSw; go_simp; try with_reducible rfl)
                    try simp only [Act.put, List.setIfInBounds_toArray, List.set_cons_zero, List.set_cons_succ]
                    refine tk 37 (v := ?_) (by simp only [List.getElem?_toArray, List.getElem?_cons_succ, List.getElem?_cons_zero]; rfl) (by kernel_rfl) (by exact fun _ _ _ h => h) (by rfl) hS ?_ ?_
                    rotate_left; · (intro w hSw; go_simp; try with_reducible rfl)
                    try simp only [Act.put, List.setIfInBounds_toArray, List.set_cons_zero, List.set_cons_succ]
                    refine tk 38 (v := ?_) (by simp only [List.getElem?_toArray, List.getElem?_cons_succ, List.getElem?_cons_zero]; rfl) (by kernel_rfl) (by exact fun _ _ _ h => h) (by rfl) hS ?_ ?_
                    rotate_left; · (intro w hSw; go_simp; try with_reducible rfl)
                    try simp only [Act.put, List.setIfInBounds_toArray, List.set_cons_zero, List.set_cons_succ]
                    refine tk 39 (v := ?_) (by simp only [List.getElem?_toArray, List.getElem?_cons_succ, List.getElem?_cons_zero]; rfl) (by kernel_rfl) (by exact fun _ _ _ h => h) (by rfl) hS ?_ ?_
                    rotate_left; · (intro w hSw; go_simp; try with_reducible rfl)
                    try simp only [Act.put, List.setIfInBounds_toArray, List.set_cons_zero, List.set_cons_succ]
                    refine tk 40 (v := ?_) (by simp only [List.getElem?_toArray, List.getElem?_cons_succ, List.getElem?_cons_zero]; rfl) (by kernel_rfl) (by exact fun _ _ _ h => h) (by rfl) hS ?_ ?_
                    rotate_left; · (intro w hSw; go_simp; try with_reducible rfl)
                    try simp only [Act.put, List.setIfInBounds_toArray, List.set_cons_zero, List.set_cons_succ]
                    refine tk 41 (v := ?_) (by simp only [List.getElem?_toArray, List.getElem?_cons_succ, List.getElem?_cons_zero]; rfl) (by kernel_rfl) (by exact fun _ _ _ h => h) (by rfl) hS ?_ ?_
                    rotate_left; · (intro w hSw; go_simp; try with_reducible rfl)
                    try simp only [Act.put, List.setIfInBounds_toArray, List.set_cons_zero, List.set_cons_succ]
                    refine skips (by kernel_rfl) (by exact fun _ _ _ _ h => h) [(42, 84), (43, 85), (44, 86), (45, 87), (46, 88), (47, 89), (48, 90), (49, 91), (50, 92), (51, 93), (52, 94)] 3 14 _ _ _ rfl (by kernel_rfl) hS ?_
                    simp only [skL, skA, Act.put, List.setIfInBounds_toArray, List.set_cons_zero, List.set_cons_succ]
                    refine tk 53 (v := ?_) (by simp only [List.getElem?_toArray, List.getElem?_cons_succ, List.getElem?_cons_zero]; rfl) (by kernel_rfl) (by exact fun _ _ _ h => h) (by rfl) hS ?_ ?_
                    rotate_left; · (intro w hSw; go_simp; try with_reducible rfl)
                    try simp only [Act.put, List.setIfInBounds_toArray, List.set_cons_zero, List.set_cons_succ]
                    refine tk 54 (v := ?_) (by simp only [List.getElem?_toArray, List.getElem?_cons_succ, List.getElem?_cons_zero]; rfl) (by kernel_rfl) (by exact fun _ _ _ h => h) (by rfl) hS ?_ ?_
                    rotate_left; · (intro w hSw; go_simp; try with_reducible rfl)
                    try simp only [Act.put, List.setIfInBounds_toArray, List.set_cons_zero, List.set_cons_succ]
                    refine tk 55 (v := ?_) (by simp only [List.getElem?_toArray, List.getElem?_cons_succ, List.getElem?_cons_zero]; rfl) (by kernel_rfl) (by exact fun _ _ _ h => h) (by rfl) hS ?_ ?_
                    rotate_left; · (intro w hSw; go_simp; try with_reducible rfl)
                    try simp only [Act.put, List.setIfInBounds_toArray, List.set_cons_zero, List.set_cons_succ]
                    refine wpAnyH_done (by kernel_rfl) ?_ _
                    go_wp2
                    go_roundw
                    case rel => exact ⟨j + 1, _, M, by omega, by go_num, rfl, rfl, hP'.out, hMt.out.symm, D2.out⟩
                    case measure => simp [intOf] <;> omega
    · obtain rfl : j = n := by omega
      have hcase := hP.case
      have et : l.take j = l := by rw [← hN.out, List.take_length]
      have hbd := HBd.out j (by rw [hN.out]; omega)
      rw [et] at hcase hM hbd
      rw [← hM] at hbd HV
      replace hM := Lib.hid hM
      clear hP et
      rcases hcase with ⟨rfl, hz⟩ | ⟨q, rfl, hqj, hq3, hq4, hq5⟩
      · have hVO : VO = (0, false) := by rw [HV.out, if_pos (.inl hz)]
        subst hVO
        replace hB := Lib.hid hB
        clear hz HV
        go_wp2
        go_ret2
        exact ⟨rfl, hB.out⟩
      · obtain ⟨b, off, rfl, _⟩ := HR.out.2 q (by rw [hN.out]; exact hqj)
        have hVO : VO = if M - (l.getD q zero).worn ≤ gap then (0, false) else ((l.getD q zero).n, true) := by
          rw [HV.out, ← hq3]
          by_cases e : M - (l.getD q zero).worn ≤ gap
          · rw [if_pos (.inr e), if_pos e]
          · rw [if_neg (by intro h; rcases h with h | h; exact hq5 h; exact e h), if_neg e]
        have hwb : 0 ≤ (l.getD q zero).worn ∧ (l.getD q zero).worn ≤ 1073741824 := by
          have h2 : right (l.getD q zero) = true := (usable_iff.1 ((Bool.and_eq_true_iff.1 hq4).1)).1
          exact ⟨(right_iff.1 h2).2.2.2.2.2.1, (right_iff.1 h2).2.2.2.2.2.2⟩
        have d := PkA.RdB.sev (HR.out.below hB) q (by rw [hN.out]; exact hqj)
        obtain ⟨y, hy⟩ : ∃ y, y = l.getD q zero := ⟨_, rfl⟩
        rw [← hy] at hVO d hwb
        have hqi : ¬ ((q : Int) < 0) := by omega
        have hqn : (q : Int) < (j : Int) := by omega
        clear hy hq3 hq4 hq5 HV
        obtain ⟨n2, l2, p2, k2, o2, e2, b2⟩ := y
        obtain ⟨d0, d1, d2, d3, d4, d5, d6⟩ := d
        dsimp only at hVO d0 d1 d2 d3 d4 d5 d6 hwb
        have q1 : IntKind.i64.wrap (M - k2) = M - k2 := IntWalk.i64_in _ (by omega)
        replace hB := Lib.hid hB
        by_cases e : M - k2 ≤ gap
        · rw [if_pos e] at hVO
          subst hVO
          go_wp2
          go_ret2
          exact ⟨rfl, hB.out⟩
        · rw [if_neg e] at hVO
          subst hVO
          go_wp2
          go_ret2
          exact ⟨rfl, hB.out⟩
end Go.Proofs.Ytbnjijlpbeplmaa.PkF
