/- The program's Total and Old. -/
import Derived.Test.YtbnjijlpbeplmaaPkD
import Derived.Test.YtbnjijlpbeplmaaWearEo
namespace Go.Proofs.Ytbnjijlpbeplmaa.PkE
open Go.ChangeShapes Go.WideShapes Go.ChangeAt Go.RowKit
open WearVM Mem WearC WearD WearE WearF WearV1 WearG PkA PkD
set_option linter.unusedVariables false
set_option maxHeartbeats 2000000

set_option maxRecDepth 100000 in
theorem totalW (a : Option Addr) (l : List WearVM.Blk) (n c : Nat) (w : World) (hn : l.length = n) (hr : RdB w a l) (h200 : n ≤ 200) :
    Calls Try.prog 28 #[.slice a n c] w fun e w' => e = .returned (.tuple #[.int .i64 (tot l).1, .int .i64 (tot l).2]) ∧ Below w.heap.size w w' := by
  have HR := Lib.hid hr
  have hN := Lib.hid hn
  have HBd := Lib.hid (tot_bd l)
  obtain ⟨⟨TA, TQ⟩, hTT⟩ : ∃ q, q = tot l := ⟨_, rfl⟩
  rw [← hTT]
  replace hTT := Lib.hid hTT
  clear hr hn
  go_enter Try.func28, Try.ntmps28
  go_wp2
  go_loopw [8, 2, 3] (fun i a p wr => ∃ (j : Nat) (A Q : Int), j ≤ n ∧ i = .int .i64 j ∧ a = .int .i64 A ∧ p = .int .i64 Q ∧ (A, Q) = tot (l.take j) ∧ Below w.heap.size w wr) (fun i _ _ _ => n - (intOf i).toNat)
  case atStart => exact ⟨0, 0, 0, by omega, rfl, rfl, rfl, rfl, Below.refl _ _⟩
  case round =>
    obtain ⟨j, A, Q, hj, rfl, rfl, rfl, hT, hB⟩ := hrel
    by_cases hlt : j < n
    · have hjl : j < l.length := by rw [hN.out]; exact hlt
      obtain ⟨b, off, rfl, _⟩ := HR.out.2 j hjl
      have hlt' : (j : Int) < (n : Int) := by omega
      have hbd := HBd.out j (by omega)
      have d := PkA.RdB.sev (HR.out.below hB) j hjl
      have ty := Lib.hid (tot_yes l j hjl)
      have tn := Lib.hid (tot_no l j hjl)
      rw [← hT] at hbd ty tn
      obtain ⟨x, hx⟩ : ∃ x, x = l.getD j zero := ⟨_, rfl⟩
      rw [← hx] at d ty tn
      replace hT := Lib.hid hT
      replace hB := Lib.hid hB
      clear hx
      cases hR : right x with
      | false =>
        have HM := Lib.hid (right_as false x hR)
        have hT' := Lib.hid (tn.out hR)
        clear ty tn hR hbd
        obtain ⟨n1, l1, p1, k1, o1, e1, b1⟩ := x
        obtain ⟨d0, d1, d2, d3, d4, d5, d6⟩ := d
        dsimp only at d0 d1 d2 d3 d4 d5 d6
        have HM' := HM
        go_wp2_with fail
        obtain ⟨ws, hws⟩ : ∃ ws, ws = wr.alloc (.cells #[.int .i64 n1, .int .i64 l1, .int .i64 p1, .int .i64 k1, .bool o1, .bool e1, .bool b1] 55) := ⟨_, rfl⟩
        rw [← hws]
        have m1 : Mem.Blk ws wr.heap.size 55 #[.int .i64 n1, .int .i64 l1, .int .i64 p1, .int .i64 k1, .bool o1, .bool e1, .bool b1] := by rw [hws]; exact Mem.Blk.new wr 55 _
        have B1 : Hid (Below w.heap.size w ws) := Lib.hid (by rw [hws]; exact hB.out.alloc hB.out.size _)
        replace hws := Lib.hid hws
        refine (HM.out ws).mono ?_
        rintro e' wD1 ⟨rfl, bD1⟩
        have D1 := Lib.hid (B1.out.trans (bD1.mono B1.out.size))
        have m2 := Mem.Blk.below m1 bD1 m1.lt
        clear bD1 m1 d0 d1 d2 d3 d4 d5 d6
        go_wp2
        go_roundw
        case rel => exact ⟨j + 1, A, Q, by omega, by go_num, rfl, rfl, hT'.out.symm, D1.out⟩
        case measure => simp [intOf] <;> omega
      | true =>
        have HM := Lib.hid (right_as true x hR)
        have hT' := Lib.hid (ty.out hR)
        have hri := right_iff.1 hR
        clear ty tn hR
        obtain ⟨n1, l1, p1, k1, o1, e1, b1⟩ := x
        obtain ⟨d0, d1, d2, d3, d4, d5, d6⟩ := d
        dsimp only at d0 d1 d2 d3 d4 d5 d6 hri hbd hT'
        have q1 : IntKind.i64.wrap (A + l1) = A + l1 := IntWalk.i64_in _ (by omega)
        have q2 : IntKind.i64.wrap (Q + p1) = Q + p1 := IntWalk.i64_in _ (by omega)
        have HM' := HM
        go_wp2_with fail
        obtain ⟨ws, hws⟩ : ∃ ws, ws = wr.alloc (.cells #[.int .i64 n1, .int .i64 l1, .int .i64 p1, .int .i64 k1, .bool o1, .bool e1, .bool b1] 55) := ⟨_, rfl⟩
        rw [← hws]
        have m1 : Mem.Blk ws wr.heap.size 55 #[.int .i64 n1, .int .i64 l1, .int .i64 p1, .int .i64 k1, .bool o1, .bool e1, .bool b1] := by rw [hws]; exact Mem.Blk.new wr 55 _
        have B1 : Hid (Below w.heap.size w ws) := Lib.hid (by rw [hws]; exact hB.out.alloc hB.out.size _)
        replace hws := Lib.hid hws
        refine (HM.out ws).mono ?_
        rintro e' wD1 ⟨rfl, bD1⟩
        have D1 := Lib.hid (B1.out.trans (bD1.mono B1.out.size))
        have m2 := Mem.Blk.below m1 bD1 m1.lt
        clear bD1 m1 d0 d1 d2 d3 d4 d5 d6
        have D2 : Hid (Below w.heap.size w wD1.drew) := Lib.hid D1.out.drew
        have hS0 : wD1.drew.cell? ⟨wr.heap.size, 1, none⟩ = some (.int .i64 l1) ∧ wD1.drew.cell? ⟨wr.heap.size, 2, none⟩ = some (.int .i64 p1) := ⟨m2.cell 1, m2.cell 2⟩
        clear m2
        go_wp2_with fail
        refine wp_region_held_drew (S := fun w' => w'.cell? ⟨wr.heap.size, 1, none⟩ = some (.int .i64 l1) ∧ w'.cell? ⟨wr.heap.size, 2, none⟩ = some (.int .i64 p1)) (by kernel_rfl) hS0 (fun hS => ?_)
        try simp only [List.size_toArray, List.length_cons, List.length_nil, Nat.reduceAdd]
        refine wpAnyH_take (i := 0) (v := ?_) (by simp only [List.getElem?_toArray, List.getElem?_cons_succ, List.getElem?_cons_zero]; rfl) (by kernel_rfl) (by kernel_rfl) (by kernel_rfl) (by exact fun _ _ _ h => h) (Or.inl ⟨by rfl, ?_⟩) hS ?_
        rotate_left
        · intro w hSw
          go_simp
          try with_reducible rfl
        try simp only [Act.put, List.setIfInBounds_toArray, List.set_cons_zero, List.set_cons_succ]
        refine wpAnyH_take (i := 1) (v := ?_) (by simp only [List.getElem?_toArray, List.getElem?_cons_succ, List.getElem?_cons_zero]; rfl) (by kernel_rfl) (by kernel_rfl) (by kernel_rfl) (by exact fun _ _ _ h => h) (Or.inl ⟨by rfl, ?_⟩) hS ?_
        rotate_left
        · intro w hSw
          go_simp
          try with_reducible rfl
        try simp only [Act.put, List.setIfInBounds_toArray, List.set_cons_zero, List.set_cons_succ]
        refine wpAnyH_take (i := 2) (v := ?_) (by simp only [List.getElem?_toArray, List.getElem?_cons_succ, List.getElem?_cons_zero]; rfl) (by kernel_rfl) (by kernel_rfl) (by kernel_rfl) (by exact fun _ _ _ h => h) (Or.inl ⟨by rfl, ?_⟩) hS ?_
        rotate_left
        · intro w hSw
          go_simp
          try with_reducible rfl
        try simp only [Act.put, List.setIfInBounds_toArray, List.set_cons_zero, List.set_cons_succ]
        refine wpAnyH_take (i := 3) (v := ?_) (by simp only [List.getElem?_toArray, List.getElem?_cons_succ, List.getElem?_cons_zero]; rfl) (by kernel_rfl) (by kernel_rfl) (by kernel_rfl) (by exact fun _ _ _ h => h) (Or.inl ⟨by rfl, ?_⟩) hS ?_
        rotate_left
        · intro w hSw
          go_simp
          try with_reducible rfl
        try simp only [Act.put, List.setIfInBounds_toArray, List.set_cons_zero, List.set_cons_succ]
        refine wpAnyH_take (i := 4) (v := ?_) (by simp only [List.getElem?_toArray, List.getElem?_cons_succ, List.getElem?_cons_zero]; rfl) (by kernel_rfl) (by kernel_rfl) (by kernel_rfl) (by exact fun _ _ _ h => h) (Or.inl ⟨by rfl, ?_⟩) hS ?_
        rotate_left
        · intro w hSw
          go_simp
          try with_reducible rfl
        try simp only [Act.put, List.setIfInBounds_toArray, List.set_cons_zero, List.set_cons_succ]
        refine wpAnyH_take (i := 5) (v := ?_) (by simp only [List.getElem?_toArray, List.getElem?_cons_succ, List.getElem?_cons_zero]; rfl) (by kernel_rfl) (by kernel_rfl) (by kernel_rfl) (by exact fun _ _ _ h => h) (Or.inl ⟨by rfl, ?_⟩) hS ?_
        rotate_left
        · intro w hSw
          go_simp
          try with_reducible rfl
        try simp only [Act.put, List.setIfInBounds_toArray, List.set_cons_zero, List.set_cons_succ]
        refine wpAnyH_take (i := 6) (v := ?_) (by simp only [List.getElem?_toArray, List.getElem?_cons_succ, List.getElem?_cons_zero]; rfl) (by kernel_rfl) (by kernel_rfl) (by kernel_rfl) (by exact fun _ _ _ h => h) (Or.inl ⟨by rfl, ?_⟩) hS ?_
        rotate_left
        · intro w hSw
          go_simp
          try with_reducible rfl
        try simp only [Act.put, List.setIfInBounds_toArray, List.set_cons_zero, List.set_cons_succ]
        refine wpAnyH_take (i := 7) (v := ?_) (by simp only [List.getElem?_toArray, List.getElem?_cons_succ, List.getElem?_cons_zero]; rfl) (by kernel_rfl) (by kernel_rfl) (by kernel_rfl) (by exact fun _ _ _ h => h) (Or.inl ⟨by rfl, ?_⟩) hS ?_
        rotate_left
        · intro w hSw
          go_simp
          try with_reducible rfl
        try simp only [Act.put, List.setIfInBounds_toArray, List.set_cons_zero, List.set_cons_succ]
        refine wpAnyH_take (i := 8) (v := ?_) (by simp only [List.getElem?_toArray, List.getElem?_cons_succ, List.getElem?_cons_zero]; rfl) (by kernel_rfl) (by kernel_rfl) (by kernel_rfl) (by exact fun _ _ _ h => h) (Or.inl ⟨by rfl, ?_⟩) hS ?_
        rotate_left
        · intro w hSw
          go_simp
          try with_reducible rfl
        try simp only [Act.put, List.setIfInBounds_toArray, List.set_cons_zero, List.set_cons_succ]
        refine wpAnyH_take (i := 9) (v := ?_) (by simp only [List.getElem?_toArray, List.getElem?_cons_succ, List.getElem?_cons_zero]; rfl) (by kernel_rfl) (by kernel_rfl) (by kernel_rfl) (by exact fun _ _ _ h => h) (Or.inl ⟨by rfl, ?_⟩) hS ?_
        rotate_left
        · intro w hSw
          go_simp
          try with_reducible rfl
        try simp only [Act.put, List.setIfInBounds_toArray, List.set_cons_zero, List.set_cons_succ]
        refine wpAnyH_done (by kernel_rfl) ?_ _
        go_wp2
        go_roundw
        case rel => exact ⟨j + 1, A + l1, Q + p1, by omega, by go_num, by first | rfl | rw [q1], by first | rfl | rw [q2], hT'.out.symm, D2.out⟩
        case measure => simp [intOf] <;> omega
    · obtain rfl : j = n := by omega
      have et : l.take j = l := by rw [← hN.out, List.take_length]
      rw [et, ← hTT.out] at hT
      obtain ⟨rfl, rfl⟩ := Prod.mk.inj hT
      replace hB := Lib.hid hB
      clear hT
      go_wp2
      go_ret2
      exact ⟨rfl, hB.out⟩

def mstep (m : Int) (b : WearVM.Blk) : Int := if right b = true ∧ b.bad = false then max m b.worn else m
def mostOf (l : List WearVM.Blk) : Int := l.foldl mstep 0
theorem most_snoc (l : List WearVM.Blk) (j : Nat) (h : j < l.length) : mostOf (l.take (j + 1)) = mstep (mostOf (l.take j)) (l.getD j zero) := by
  have e : l.getD j zero = l[j] := by simp [h]
  rw [e, List.take_succ_eq_append_getElem h]
  simp only [mostOf, List.foldl_append, List.foldl_cons, List.foldl_nil]
theorem most_bd (l : List WearVM.Blk) : ∀ j, j ≤ l.length → 0 ≤ mostOf (l.take j) ∧ mostOf (l.take j) ≤ 1073741824
  | 0, _ => by simp [mostOf]
  | j + 1, h => by
    have ih := most_bd l j (by omega)
    rw [most_snoc l j (by omega)]
    unfold mstep
    split
    · rename_i hh
      have := right_iff.1 hh.1
      omega
    · exact ih
def oldOf (gap : Int) (l : List WearVM.Blk) : Int × Bool := if chosen WearVM.live lessWorn l = zero ∨ mostOf l - (chosen WearVM.live lessWorn l).worn ≤ gap then (0, false) else ((chosen WearVM.live lessWorn l).n, true)

theorem chooseO' (a : Option Addr) (l : List WearVM.Blk) (n c : Nat) (w : World) (hn : l.length = n) (hr : RdB w a l) (h200 : n ≤ 200) :
    Calls Try.prog 74 #[.slice a n c, .func (.func 83) #[] #[], .func (.func 77) #[] #[]] w fun e w' =>
      e = .returned (.tuple #[val (chosen WearVM.live lessWorn l), .bool (decide (chosen WearVM.live lessWorn l ≠ zero))]) ∧ Below w.heap.size w w' := by
  by_cases h0 : n = 0
  · subst h0
    obtain rfl : l = [] := List.length_eq_zero_iff.1 hn
    exact chooseNil _ _ a c w
  · obtain ⟨b, off, rfl, _⟩ := hr.2 0 (by omega)
    exact WearEo.chooseO b off l n c w hn hr h200

set_option maxRecDepth 100000 in
theorem oldW (gap : Int) (a : Option Addr) (l : List WearVM.Blk) (n c : Nat) (w : World) (hn : l.length = n) (hr : RdB w a l) (h200 : n ≤ 200) :
    Calls Try.prog 26 #[.int .i64 gap, .slice a n c] w fun e w' => e = .returned (.tuple #[.int .i64 (oldOf gap l).1, .bool (oldOf gap l).2]) ∧ Below w.heap.size w w' := by
  have HR := Lib.hid hr
  have hN := Lib.hid hn
  have HBd := Lib.hid (most_bd l)
  have HC : Hid (∀ w', Below w.heap.size w w' → Calls Try.prog 74 #[.slice a n c, .func (.func 83) #[] #[], .func (.func 77) #[] #[]] w' fun e w'' => e = .returned (.tuple #[val (chosen WearVM.live lessWorn l), .bool (decide (chosen WearVM.live lessWorn l ≠ zero))]) ∧ Below w'.heap.size w' w'') := Lib.hid fun w' hb => chooseO' a l n c w' hn (hr.below hb) h200
  have HV : Hid (oldOf gap l = if chosen WearVM.live lessWorn l = zero ∨ mostOf l - (chosen WearVM.live lessWorn l).worn ≤ gap then (0, false) else ((chosen WearVM.live lessWorn l).n, true)) := Lib.hid rfl
  have hmay : Hid (chosen WearVM.live lessWorn l ≠ zero → 0 ≤ (chosen WearVM.live lessWorn l).worn ∧ (chosen WearVM.live lessWorn l).worn ≤ 1073741824) := Lib.hid fun h => by
    have h1 := chosen_may _ _ _ h
    unfold WearVM.live at h1
    have h2 : right (chosen WearVM.live lessWorn l) = true := (usable_iff.1 ((Bool.and_eq_true_iff.1 h1).1)).1
    exact ⟨(right_iff.1 h2).2.2.2.2.2.1, (right_iff.1 h2).2.2.2.2.2.2⟩
  generalize oldOf gap l = VO at *
  generalize chosen WearVM.live lessWorn l = X at *
  clear hr hn
  go_enter Try.func26, Try.ntmps26
  go_wp2
  go_loopw [14, 6] (fun i m wr => ∃ (j : Nat) (M : Int), j ≤ n ∧ i = .int .i64 j ∧ m = .int .i64 M ∧ M = mostOf (l.take j) ∧ Below w.heap.size w wr) (fun i _ _ => n - (intOf i).toNat)
  case atStart => exact ⟨0, 0, by omega, rfl, rfl, rfl, Below.refl _ _⟩
  case round =>
    obtain ⟨j, M, hj, rfl, rfl, hM, hB⟩ := hrel
    by_cases hlt : j < n
    · have hjl : j < l.length := by rw [hN.out]; exact hlt
      obtain ⟨b, off, rfl, _⟩ := HR.out.2 j hjl
      have hlt' : (j : Int) < (n : Int) := by omega
      have hbd := HBd.out j (by omega)
      have d := PkA.RdB.sev (HR.out.below hB) j hjl
      have ty := Lib.hid (most_snoc l j hjl)
      rw [← hM] at hbd ty
      obtain ⟨x, hx⟩ : ∃ x, x = l.getD j zero := ⟨_, rfl⟩
      rw [← hx] at d ty
      replace hM := Lib.hid hM
      replace hB := Lib.hid hB
      clear hx
      cases hR : right x with
      | false =>
        have HM := Lib.hid (right_as false x hR)
        have hT' : Hid (mostOf (l.take (j + 1)) = M) := Lib.hid (by rw [ty.out]; unfold mstep; rw [if_neg (by rw [hR]; simp)])
        clear ty hR hbd
        obtain ⟨n1, l1, p1, k1, o1, e1, b1⟩ := x
        obtain ⟨d0, d1, d2, d3, d4, d5, d6⟩ := d
        dsimp only at d0 d1 d2 d3 d4 d5 d6
        have HM' := HM
        go_wp2_with fail
        obtain ⟨ws, hws⟩ : ∃ ws, ws = wr.alloc (.cells #[.int .i64 n1, .int .i64 l1, .int .i64 p1, .int .i64 k1, .bool o1, .bool e1, .bool b1] 55) := ⟨_, rfl⟩
        rw [← hws]
        have m1 : Mem.Blk ws wr.heap.size 55 #[.int .i64 n1, .int .i64 l1, .int .i64 p1, .int .i64 k1, .bool o1, .bool e1, .bool b1] := by rw [hws]; exact Mem.Blk.new wr 55 _
        have B1 : Hid (Below w.heap.size w ws) := Lib.hid (by rw [hws]; exact hB.out.alloc hB.out.size _)
        replace hws := Lib.hid hws
        refine (HM.out ws).mono ?_
        rintro e' wD1 ⟨rfl, bD1⟩
        have D1 := Lib.hid (B1.out.trans (bD1.mono B1.out.size))
        have m2 := Mem.Blk.below m1 bD1 m1.lt
        clear bD1 m1 d0 d1 d2 d3 d4 d5 d6
        clear m2
        go_wp2
        go_roundw
        case rel => exact ⟨j + 1, M, by omega, by go_num, rfl, hT'.out.symm, D1.out⟩
        case measure => simp [intOf] <;> omega
      | true =>
        have HM := Lib.hid (right_as true x hR)
        have hri := right_iff.1 hR
        cases hbad : x.bad with
        | true =>
          have hT' : Hid (mostOf (l.take (j + 1)) = M) := Lib.hid (by rw [ty.out]; unfold mstep; rw [if_neg (by rw [hbad]; simp)])
          clear ty hR hbd
          obtain ⟨n1, l1, p1, k1, o1, e1, b1⟩ := x
          dsimp only at hbad
          subst hbad
          obtain ⟨d0, d1, d2, d3, d4, d5, d6⟩ := d
          dsimp only at d0 d1 d2 d3 d4 d5 d6
          have HM' := HM
          go_wp2_with fail
          obtain ⟨ws, hws⟩ : ∃ ws, ws = wr.alloc (.cells #[.int .i64 n1, .int .i64 l1, .int .i64 p1, .int .i64 k1, .bool o1, .bool e1, .bool true] 55) := ⟨_, rfl⟩
          rw [← hws]
          have m1 : Mem.Blk ws wr.heap.size 55 #[.int .i64 n1, .int .i64 l1, .int .i64 p1, .int .i64 k1, .bool o1, .bool e1, .bool true] := by rw [hws]; exact Mem.Blk.new wr 55 _
          have B1 : Hid (Below w.heap.size w ws) := Lib.hid (by rw [hws]; exact hB.out.alloc hB.out.size _)
          replace hws := Lib.hid hws
          refine (HM.out ws).mono ?_
          rintro e' wD1 ⟨rfl, bD1⟩
          have D1 := Lib.hid (B1.out.trans (bD1.mono B1.out.size))
          have m2 := Mem.Blk.below m1 bD1 m1.lt
          clear bD1 m1 d0 d1 d2 d3 d4 d5 d6
          have c6 := m2.cell 6
          clear m2
          go_wp2
          go_roundw
          case rel => exact ⟨j + 1, M, by omega, by go_num, rfl, hT'.out.symm, D1.out⟩
          case measure => simp [intOf] <;> omega
        | false =>
          have hT' : Hid (mostOf (l.take (j + 1)) = max M x.worn) := Lib.hid (by rw [ty.out]; unfold mstep; rw [if_pos ⟨hR, hbad⟩])
          clear ty hR hbd
          obtain ⟨n1, l1, p1, k1, o1, e1, b1⟩ := x
          dsimp only at hbad
          subst hbad
          obtain ⟨d0, d1, d2, d3, d4, d5, d6⟩ := d
          dsimp only at d0 d1 d2 d3 d4 d5 d6 hT'
          have HM' := HM
          go_wp2_with fail
          obtain ⟨ws, hws⟩ : ∃ ws, ws = wr.alloc (.cells #[.int .i64 n1, .int .i64 l1, .int .i64 p1, .int .i64 k1, .bool o1, .bool e1, .bool false] 55) := ⟨_, rfl⟩
          rw [← hws]
          have m1 : Mem.Blk ws wr.heap.size 55 #[.int .i64 n1, .int .i64 l1, .int .i64 p1, .int .i64 k1, .bool o1, .bool e1, .bool false] := by rw [hws]; exact Mem.Blk.new wr 55 _
          have B1 : Hid (Below w.heap.size w ws) := Lib.hid (by rw [hws]; exact hB.out.alloc hB.out.size _)
          replace hws := Lib.hid hws
          refine (HM.out ws).mono ?_
          rintro e' wD1 ⟨rfl, bD1⟩
          have D1 := Lib.hid (B1.out.trans (bD1.mono B1.out.size))
          have m2 := Mem.Blk.below m1 bD1 m1.lt
          clear bD1 m1 d0 d1 d2 d3 d4 d5 d6
          have c6 := m2.cell 6
          have c3 := m2.cell 3
          clear m2
          go_wp2
          go_roundw
          case rel => exact ⟨j + 1, (if M < k1 then k1 else M), by omega, by go_num, rfl, by rw [hT'.out]; split <;> omega, D1.out⟩
          case measure => simp [intOf] <;> omega
    · obtain rfl : j = n := by omega
      have et : l.take j = l := by rw [← hN.out, List.take_length]
      have hbd := HBd.out j (by rw [hN.out]; omega)
      rw [et] at hM hbd
      rw [← hM] at hbd HV
      have hmf : ∀ (fn : Fn) (first cap : Array Value) (w : World), (Instr.makeFunc fn first cap).run Try.prog w = .ok (.func fn first cap) w := fun _ _ _ _ => rfl
      have HC' := Lib.hid (HC.out wr hB)
      replace hB := Lib.hid hB
      replace hM := Lib.hid hM
      clear HC
      by_cases hz : X = zero
      · have hVO : VO = (0, false) := by rw [HV.out, if_pos (.inl hz)]
        subst hVO
        rw [decide_eq_false (by rw [hz]; simp)] at HC'
        clear HV hmay hz
        obtain ⟨n1, l1, p1, k1, o1, e1, b1⟩ := X
        go_wp2_with fail
        refine HC'.out.mono ?_
        rintro e' w5 ⟨rfl, b5⟩
        have D5 := Lib.hid (hB.out.trans (b5.mono hB.out.size))
        simp only [val, cs]
        clear b5
        go_wp2
        go_ret2
        exact ⟨rfl, D5.out.alloc D5.out.size _⟩
      · rw [decide_eq_true hz] at HC'
        have hwb := hmay.out hz
        obtain ⟨n1, l1, p1, k1, o1, e1, b1⟩ := X
        dsimp only at hwb HV
        have q1 : IntKind.i64.wrap (M - k1) = M - k1 := IntWalk.i64_in _ (by omega)
        by_cases hg : M - k1 ≤ gap
        · have hVO : VO = (0, false) := by rw [HV.out, if_pos (.inr hg)]
          subst hVO
          clear HV hmay hz
          go_wp2_with fail
          refine HC'.out.mono ?_
          rintro e' w5 ⟨rfl, b5⟩
          have D5 := Lib.hid (hB.out.trans (b5.mono hB.out.size))
          simp only [val, cs]
          clear b5
          go_wp2
          go_ret2
          exact ⟨rfl, D5.out.alloc D5.out.size _⟩
        · have hVO : VO = (n1, true) := by rw [HV.out, if_neg (by intro h; rcases h with h | h; exact hz h; exact hg h)]
          subst hVO
          clear HV hmay hz
          go_wp2_with fail
          refine HC'.out.mono ?_
          rintro e' w5 ⟨rfl, b5⟩
          have D5 := Lib.hid (hB.out.trans (b5.mono hB.out.size))
          simp only [val, cs]
          clear b5
          go_wp2
          go_ret2
          exact ⟨rfl, D5.out.alloc D5.out.size _⟩
end Go.Proofs.Ytbnjijlpbeplmaa.PkE
