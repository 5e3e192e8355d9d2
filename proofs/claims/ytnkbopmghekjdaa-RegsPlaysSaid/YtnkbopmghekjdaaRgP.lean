/- The law of acts on registers. -/
import Derived.Test.YtnkbopmghekjdaaRgL
import Derived.Test.YtnkbopmghekjdaaRegO
namespace Go.Proofs.Ytnkbopmghekjdaa.RgP
open Go.ChangeShapes Go.WideShapes Go.ChangeAt Go.RowKit
open RegA Mem RegB RegC RegD RegE RegF RegG RegH RegI RegR RgM RgS RgT RgU RgL
set_option linter.unusedVariables false
set_option maxHeartbeats 2000000

theorem early (a : Option Addr) (m c : Nat) (w : World) (h : 300 < m) (hm : m ≤ 9223372036854775807) : Calls Try.prog 3 #[.slice a m c] w fun e w' => e = .returned (.bool true) ∧ Below w.heap.size w w' := by
  have h1' : (300 : Int) < (m : Int) := by omega
  clear h
  go_enter Try.func3, Try.ntmps3
  go_wp2_with fail
  refine (knownW _).mono ?_
  rintro e' w1 ⟨rfl, B1⟩
  go_wp2
  go_ret
  exact ⟨rfl, B1⟩

set_option maxRecDepth 100000 in
theorem law (a : Option Addr) (l : List RegG.Act) (m c : Nat) (w : World) (hn : l.length = m) (hr : RdA w a l) (hm : m ≤ 300) (hv : ∀ y ∈ l, 0 ≤ y.v ∧ y.v ≤ 255 ∧ 0 ≤ y.arg ∧ y.arg ≤ 4294967295) :
    Calls Try.prog 3 #[.slice a m c] w fun e w' => e = .returned (.bool true) ∧ Below w.heap.size w w' := by
  have g1 : ¬ (300 : Int) < (m : Int) := by omega
  have GR : Hid (∀ q w2 w3, w.heap.size ≤ q → Below w.heap.size w w2 → w2.grownBy w3 (some q) → Below w.heap.size w w3) := Lib.hid fun q w2 w3 hq hB hG => hB.grown hG hB.size (fun j e => by cases e; exact hq)
  have HA : Hid (∀ w', Below w.heap.size w w' → RdA w' a l) := Lib.hid fun w' hb => hr.below hb
  replace hr := Lib.hid hr.2
  replace hn := Lib.hid hn
  replace hv := Lib.hid hv
  go_enter Try.func3, Try.ntmps3
  go_wp2_with fail
  refine (knownW _).mono ?_
  rintro e' w1 ⟨rfl, B1⟩
  replace B1 := Lib.hid B1
  go_wp2_with fail
  refine (newW _).mono ?_
  rintro e' w2 ⟨rfl, G2, b2⟩
  have B2 := Lib.hid (B1.out.trans (b2.mono B1.out.size))
  have hg0 : Hid (w.heap.size ≤ w1.heap.size) := Lib.hid B1.out.size
  have hg2 : Hid (w1.heap.size < w2.heap.size) := Lib.hid G2.2.lt
  have R3 : Hid (File 29 (w2.alloc (.cells (vs zeros) 29)) w2.heap.size zeros) := Lib.hid ⟨rfl, Mem.Blk.new w2 29 (vs zeros)⟩
  have G3 : Hid (File 57 (w2.alloc (.cells (vs zeros) 29)) w1.heap.size zeros) := Lib.hid ⟨rfl, G2.2.alloc _⟩
  have B3 : Hid (Below w.heap.size w (w2.alloc (.cells (vs zeros) 29))) := Lib.hid (B2.out.alloc B2.out.size _)
  have hsep0 : Hid (w1.heap.size ≠ w2.heap.size ∧ w.heap.size ≤ w1.heap.size ∧ w.heap.size ≤ w2.heap.size) := Lib.hid (by have := hg0.out; have := hg2.out; refine ⟨?_, ?_, ?_⟩ <;> omega)
  clear b2 G2
  clear hg0 hg2
  go_wp2_with fail
  go_loopw [5, 3, 4] (fun i v u wr => ∃ (j : Nat) (st : List Int) (g r : Nat), j ≤ m ∧ i = .int .i64 j ∧ v = .pointer (some ⟨g, 0, none⟩) ∧ u = .pointer (some ⟨r, 0, none⟩) ∧ Ok st ∧ File 57 wr g st ∧ File 29 wr r st ∧ (g ≠ r ∧ w.heap.size ≤ g ∧ w.heap.size ≤ r) ∧ Below w.heap.size w wr) (fun i _ _ _ => m - (intOf i).toNat)
  case atStart => exact ⟨0, _, _, _, by omega, rfl, rfl, rfl, Ok.zeros, G3.out, R3.out, hsep0.out, B3.out⟩
  case round =>
    clear G3 R3 hsep0 B3 B2 B1
    obtain ⟨j, st, g, r, hj, rfl, rfl, rfl, hOk, hF, hR, hsep, hB⟩ := hrel
    replace hOk := Lib.hid hOk
    replace hF := Lib.hid hF
    replace hR := Lib.hid hR
    replace hsep := Lib.hid hsep
    by_cases hlt : j < m
    · have hjl : j < l.length := by rw [hn.out]; exact hlt
      obtain ⟨bb, off, rfl, hbb, _⟩ := hr.out j hjl
      have hlt' : (j : Int) < (m : Int) := by omega
      obtain ⟨c0, c1, c2, c3⟩ := (HA.out _ hB).at j hjl
      obtain ⟨hv0, hv1, ha0, ha1⟩ := hv.out (l.getD j act0) (mem_getD hjl)
      obtain ⟨y, hy⟩ : ∃ y, y = l.getD j act0 := ⟨_, rfl⟩
      rw [← hy] at c0 c1 c2 c3 hv0 hv1 ha0 ha1
      clear hy
      obtain ⟨yO, yN, yV, yA⟩ := y
      dsimp only at c0 c1 c2 c3 hv0 hv1 ha0 ha1
      have hvv : Hid (0 ≤ yV ∧ yV ≤ 255) := Lib.hid ⟨hv0, hv1⟩
      replace hB := Lib.hid hB
      have hst13 := Lib.hid hOk.out.r13
      by_cases o1 : yO = 1
      · subst o1
        have M0 := Lib.hid (Mem.Blk.new wr 32 #[.int .i64 1, .int .i64 yN, .int .u8 yV, .int .u32 yA])
        have B0 := Lib.hid (hB.out.alloc hB.out.size (.cells #[.int .i64 1, .int .i64 yN, .int .u8 yV, .int .u32 yA] 32))
        have F0 : Hid (File 57 (wr.alloc (.cells #[.int .i64 1, .int .i64 yN, .int .u8 yV, .int .u32 yA] 32)) g st) := Lib.hid ⟨hF.out.1, hF.out.2.alloc _⟩
        have R0 : Hid (File 29 (wr.alloc (.cells #[.int .i64 1, .int .i64 yN, .int .u8 yV, .int .u32 yA] 32)) r st) := Lib.hid ⟨hR.out.1, hR.out.2.alloc _⟩
        obtain ⟨wa, hwa⟩ : ∃ wa, wa = wr.alloc (.cells #[.int .i64 1, .int .i64 yN, .int .u8 yV, .int .u32 yA] 32) := ⟨_, rfl⟩
        rw [← hwa] at M0 B0 F0 R0
        have hsz : wr.heap.size < wa.heap.size := by rw [hwa, World.size_alloc]; omega
        replace hsz := Lib.hid hsz
        have hba : Hid (wr.heap.size ≠ g ∧ wr.heap.size ≠ r) := Lib.hid ⟨by have := hF.out.2.lt; omega, by have := hR.out.2.lt; omega⟩
        clear hF hR hB
        have H1 := Lib.hid (writeW g st yN yV wa.drew F0.out)
        have H2 := Lib.hid (fun w (h : File 29 w r st) => writeR r st yN yV hvv.out.1 hvv.out.2 w h hst13.out)
        have hOk' := Lib.hid (hOk.out.write yN yV hvv.out)
        clear hOk hst13 hv0 hv1 ha0 ha1
        generalize (writeS st yN yV).2 = st' at *
        generalize (writeS st yN yV).1 = E' at *
        go_wp2_with fail
        rw [← hwa]
        replace hwa := Lib.hid hwa
        replace M0 : Hid (Mem.Blk wa.drew wr.heap.size 32 #[.int .i64 1, .int .i64 yN, .int .u8 yV, .int .u32 yA]) := Lib.hid M0.out
        replace R0 : Hid (File 29 wa.drew r st) := Lib.hid R0.out
        replace hsz : Hid (wr.heap.size < wa.drew.heap.size) := Lib.hid hsz.out
        replace B0 := Lib.hid B0.out.drew
        refine wp_region_held_drew (S := fun w' => w'.cell? ⟨wr.heap.size, 1, none⟩ = some (.int .i64 yN) ∧ w'.cell? ⟨wr.heap.size, 2, none⟩ = some (.int .u8 yV)) (by kernel_rfl) ⟨M0.out.cell 1, M0.out.cell 2⟩ (fun hS => ?_)
        try simp only [List.size_toArray, List.length_cons, List.length_nil, Nat.reduceAdd]
        refine wpAnyH_take (i := 0) (v := ?_) (by simp only [List.getElem?_toArray, List.getElem?_cons_succ, List.getElem?_cons_zero]; rfl) (by kernel_rfl) (by kernel_rfl) (by kernel_rfl) (by exact fun _ _ _ h => h) (Or.inl ⟨by rfl, ?_⟩) hS ?_
        rotate_left
        · intro w hSw
          go_simp
          try with_reducible rfl
        try simp only [Act.put, List.setIfInBounds_toArray, List.set_cons_zero, List.set_cons_succ]
        refine wpAnyH_take (i := 1) (v := ?_) (by simp only [List.getElem?_toArray, List.getElem?_cons_succ, List.getElem?_cons_zero]; rfl) (by kernel_rfl) (by kernel_rfl) (by kernel_rfl) (by exact fun _ _ _ h => h) (Or.inl ⟨by rfl, ?_⟩) hS ?_
        rotate_left
        · intro w hSw
          go_simp
          try with_reducible rfl
        try simp only [Act.put, List.setIfInBounds_toArray, List.set_cons_zero, List.set_cons_succ]
        refine wpAnyH_take (i := 2) (v := ?_) (by simp only [List.getElem?_toArray, List.getElem?_cons_succ, List.getElem?_cons_zero]; rfl) (by kernel_rfl) (by kernel_rfl) (by kernel_rfl) (by exact fun _ _ _ h => h) (Or.inl ⟨by rfl, ?_⟩) hS ?_
        rotate_left
        · intro w hSw
          go_simp
          try with_reducible rfl
        try simp only [Act.put, List.setIfInBounds_toArray, List.set_cons_zero, List.set_cons_succ]
        refine wpAnyH_take (i := 3) (v := ?_) (by simp only [List.getElem?_toArray, List.getElem?_cons_succ, List.getElem?_cons_zero]; rfl) (by kernel_rfl) (by kernel_rfl) (by kernel_rfl) (by exact fun _ _ _ h => h) (Or.inl ⟨by rfl, ?_⟩) hS ?_
        rotate_left
        · intro w hSw
          go_simp
          try with_reducible rfl
        try simp only [Act.put, List.setIfInBounds_toArray, List.set_cons_zero, List.set_cons_succ]
        refine wpAnyH_take (i := 4) (v := ?_) (by simp only [List.getElem?_toArray, List.getElem?_cons_succ, List.getElem?_cons_zero]; rfl) (by kernel_rfl) (by kernel_rfl) (by kernel_rfl) (by exact fun _ _ _ h => h) (Or.inl ⟨by rfl, ?_⟩) hS ?_
        rotate_left
        · intro w hSw
          go_simp
          try with_reducible rfl
        try simp only [Act.put, List.setIfInBounds_toArray, List.set_cons_zero, List.set_cons_succ]
        refine wpAnyH_take (i := 6) (v := ?_) (by simp only [List.getElem?_toArray, List.getElem?_cons_succ, List.getElem?_cons_zero]; rfl) (by kernel_rfl) (by kernel_rfl) (by kernel_rfl) (by exact fun _ _ _ h => h) (Or.inl ⟨by rfl, ?_⟩) hS ?_
        rotate_left
        · intro w hSw
          go_simp
          try with_reducible rfl
        try simp only [Act.put, List.setIfInBounds_toArray, List.set_cons_zero, List.set_cons_succ]
        refine wpAnyH_take (i := 7) (v := ?_) (by simp only [List.getElem?_toArray, List.getElem?_cons_succ, List.getElem?_cons_zero]; rfl) (by kernel_rfl) (by kernel_rfl) (by kernel_rfl) (by exact fun _ _ _ h => h) (Or.inl ⟨by rfl, ?_⟩) hS ?_
        rotate_left
        · intro w hSw
          go_simp
          try with_reducible rfl
        try simp only [Act.put, List.setIfInBounds_toArray, List.set_cons_zero, List.set_cons_succ]
        refine wpAnyH_take (i := 8) (v := ?_) (by simp only [List.getElem?_toArray, List.getElem?_cons_succ, List.getElem?_cons_zero]; rfl) (by kernel_rfl) (by kernel_rfl) (by kernel_rfl) (by exact fun _ _ _ h => h) (Or.inl ⟨by rfl, ?_⟩) hS ?_
        rotate_left
        · intro w hSw
          go_simp
          try with_reducible rfl
        try simp only [Act.put, List.setIfInBounds_toArray, List.set_cons_zero, List.set_cons_succ]
        refine wpAnyH_take (i := 9) (v := ?_) (by simp only [List.getElem?_toArray, List.getElem?_cons_succ, List.getElem?_cons_zero]; rfl) (by kernel_rfl) (by kernel_rfl) (by kernel_rfl) (by exact fun _ _ _ h => h) (Or.inl ⟨by rfl, ?_⟩) hS ?_
        rotate_left
        · intro w hSw
          go_simp
          try with_reducible rfl
        try simp only [Act.put, List.setIfInBounds_toArray, List.set_cons_zero, List.set_cons_succ]
        refine wpAnyH_take (i := 10) (v := ?_) (by simp only [List.getElem?_toArray, List.getElem?_cons_succ, List.getElem?_cons_zero]; rfl) (by kernel_rfl) (by kernel_rfl) (by kernel_rfl) (by exact fun _ _ _ h => h) (Or.inl ⟨by rfl, ?_⟩) hS ?_
        rotate_left
        · intro w hSw
          go_simp
          try with_reducible rfl
        try simp only [Act.put, List.setIfInBounds_toArray, List.set_cons_zero, List.set_cons_succ]
        refine wpAnyH_ready (rs := [5]) (by kernel_rfl) (by simp) ?_
        refine AllReadyH.cons (by simp only [List.getElem?_toArray, List.getElem?_cons_succ, List.getElem?_cons_zero]; rfl) (fun K hK => ?_) AllReadyH.nil
        go_simp
        go_at_call 9
        refine (H1.out).mono ?_
        rintro e' w5 ⟨rfl, F5, g5'⟩
        have R5 := Lib.hid (R0.out.grown g5' (by have := hsep.out.1; intro e; injection e with e; omega))
        have M5 : Hid (Mem.Blk w5 wr.heap.size 32 #[.int .i64 1, .int .i64 yN, .int .u8 yV, .int .u32 yA]) := Lib.hid ((g5'.block _ hsz.out (by have := hba.out.1; intro e; injection e with e; omega)).trans M0.out)
        have B5 := Lib.hid (GR.out _ _ _ hsep.out.2.1 B0.out g5')
        have Z5 : Hid (wr.heap.size < w5.heap.size) := Lib.hid (Nat.lt_of_lt_of_le hsz.out g5'.size)
        replace F5 := Lib.hid F5
        clear g5'
        refine hK.out _ _ (⟨M5.out.cell 1, M5.out.cell 2⟩) (fun hS => ?_)
        clear hK K
        try simp only [Act.put, List.setIfInBounds_toArray, List.set_cons_zero, List.set_cons_succ]
        refine wpAnyH_ready (rs := [11]) (by kernel_rfl) (by simp) ?_
        refine AllReadyH.cons (by simp only [List.getElem?_toArray, List.getElem?_cons_succ, List.getElem?_cons_zero]; rfl) (fun K hK => ?_) AllReadyH.nil
        go_simp
        go_at_call 10
        refine (H2.out _ R5.out).mono ?_
        rintro e' w6 ⟨rfl, R6, g6'⟩
        have F6 := Lib.hid (F5.out.grown g6' (by have := hsep.out.1; intro e; injection e with e; omega))
        have M6 : Hid (Mem.Blk w6 wr.heap.size 32 #[.int .i64 1, .int .i64 yN, .int .u8 yV, .int .u32 yA]) := Lib.hid ((g6'.block _ Z5.out (by have := hba.out.2; intro e; injection e with e; omega)).trans M5.out)
        have B6 := Lib.hid (GR.out _ _ _ hsep.out.2.2 B5.out g6')
        replace R6 := Lib.hid R6
        clear g6'
        refine hK.out _ _ (⟨M6.out.cell 1, M6.out.cell 2⟩) (fun hS => ?_)
        clear hK K
        try simp only [Act.put, List.setIfInBounds_toArray, List.set_cons_zero, List.set_cons_succ]
        refine wpAnyH_take (i := 12) (v := ?_) (by simp only [List.getElem?_toArray, List.getElem?_cons_succ, List.getElem?_cons_zero]; rfl) (by kernel_rfl) (by kernel_rfl) (by kernel_rfl) (by exact fun _ _ _ h => h) (Or.inl ⟨by rfl, ?_⟩) hS ?_
        rotate_left
        · intro w hSw
          go_simp
          try with_reducible rfl
        try simp only [Act.put, List.setIfInBounds_toArray, List.set_cons_zero, List.set_cons_succ]
        refine wpAnyH_done (by kernel_rfl) ?_ _
        have cN := M6.out.cell 1
        have HLk := Lib.hid (looksW g r st' yN _ F6.out R6.out hOk'.out)
        go_wp2_with fail
        refine HLk.out.mono ?_
        rintro e' w9 ⟨rfl, b9⟩
        have B9 := Lib.hid (B6.out.trans (b9.mono B6.out.size))
        have F9 := Lib.hid (F6.out.below b9 F6.out.2.lt)
        have R9 := Lib.hid (R6.out.below b9 R6.out.2.lt)
        clear b9 cN
        go_wp2
        go_roundw
        case rel => exact ⟨j + 1, st', g, r, by omega, by go_num, rfl, rfl, hOk'.out, F9.out, R9.out, hsep.out, B9.out⟩
        case measure => simp [intOf]; omega
      by_cases o2 : yO = 2
      · subst o2
        have M0 := Lib.hid (Mem.Blk.new wr 32 #[.int .i64 2, .int .i64 yN, .int .u8 yV, .int .u32 yA])
        have B0 := Lib.hid (hB.out.alloc hB.out.size (.cells #[.int .i64 2, .int .i64 yN, .int .u8 yV, .int .u32 yA] 32))
        have F0 : Hid (File 57 (wr.alloc (.cells #[.int .i64 2, .int .i64 yN, .int .u8 yV, .int .u32 yA] 32)) g st) := Lib.hid ⟨hF.out.1, hF.out.2.alloc _⟩
        have R0 : Hid (File 29 (wr.alloc (.cells #[.int .i64 2, .int .i64 yN, .int .u8 yV, .int .u32 yA] 32)) r st) := Lib.hid ⟨hR.out.1, hR.out.2.alloc _⟩
        obtain ⟨wa, hwa⟩ : ∃ wa, wa = wr.alloc (.cells #[.int .i64 2, .int .i64 yN, .int .u8 yV, .int .u32 yA] 32) := ⟨_, rfl⟩
        rw [← hwa] at M0 B0 F0 R0
        have hsz : wr.heap.size < wa.heap.size := by rw [hwa, World.size_alloc]; omega
        replace hsz := Lib.hid hsz
        have hba : Hid (wr.heap.size ≠ g ∧ wr.heap.size ≠ r) := Lib.hid ⟨by have := hF.out.2.lt; omega, by have := hR.out.2.lt; omega⟩
        clear hF hR hB
        have H1 := Lib.hid (nextW g st yA wa ha0 (by omega) F0.out)
        have H2 := Lib.hid (nextR r st yA wa ha0 (by omega) R0.out hOk.out.2.1)
        have hnb := Lib.hid (next_bd hOk.out yA ha0)
        have H3 := Lib.hid (fun n v => writeW g st n v wa F0.out)
        have H4 := Lib.hid (fun n v (hv : 0 ≤ v ∧ v ≤ 255) w (h : File 29 w r st) => writeR r st n v hv.1 hv.2 w h hst13.out)
        have hOk' := Lib.hid (fun n v hv => hOk.out.write n v hv)
        clear hst13 hv0 hv1 ha0 ha1
        generalize (nextS st yA).1 = N1 at *
        generalize (nextS st yA).2.1 = V1 at *
        generalize (nextS st yA).2.2 = E1 at *
        by_cases hE : E1 = 0
        · subst hE
          replace H3 := Lib.hid (H3.out N1 V1)
          replace H4 := Lib.hid (H4.out N1 V1 hnb.out)
          replace hOk' := Lib.hid (hOk'.out N1 V1 hnb.out)
          generalize (writeS st N1 V1).2 = st' at *
          generalize (writeS st N1 V1).1 = E' at *
          go_wp2_with fail
          rw [← hwa]
          replace hwa := Lib.hid hwa
          refine H1.out.mono ?_
          rintro e' w' ⟨rfl, rfl⟩
          have cA := M0.out.cell 3
          go_wp2_with fail
          refine H2.out.mono ?_
          rintro e' w' ⟨rfl, rfl⟩
          clear cA
          go_wp2_with fail
          refine H3.out.mono ?_
          rintro e' w5 ⟨rfl, F5, g5'⟩
          have R5 := Lib.hid (R0.out.grown g5' (by have := hsep.out.1; intro e; injection e with e; omega))
          have M5 : Hid (Mem.Blk w5 wr.heap.size 32 #[.int .i64 2, .int .i64 yN, .int .u8 yV, .int .u32 yA]) := Lib.hid ((g5'.block _ hsz.out (by have := hba.out.1; intro e; injection e with e; omega)).trans M0.out)
          have B5 := Lib.hid (GR.out _ _ _ hsep.out.2.1 B0.out g5')
          have Z5 : Hid (wr.heap.size < w5.heap.size) := Lib.hid (Nat.lt_of_lt_of_le hsz.out g5'.size)
          replace F5 := Lib.hid F5
          clear g5'
          go_wp2_with fail
          refine (H4.out _ R5.out).mono ?_
          rintro e' w6 ⟨rfl, R6, g6'⟩
          have F6 := Lib.hid (F5.out.grown g6' (by have := hsep.out.1; intro e; injection e with e; omega))
          have M6 : Hid (Mem.Blk w6 wr.heap.size 32 #[.int .i64 2, .int .i64 yN, .int .u8 yV, .int .u32 yA]) := Lib.hid ((g6'.block _ Z5.out (by have := hba.out.2; intro e; injection e with e; omega)).trans M5.out)
          have B6 := Lib.hid (GR.out _ _ _ hsep.out.2.2 B5.out g6')
          replace R6 := Lib.hid R6
          clear g6'
          have cN := M6.out.cell 1
          have HLk := Lib.hid (looksW g r st' yN _ F6.out R6.out hOk'.out)
          go_wp2_with fail
          refine HLk.out.mono ?_
          rintro e' w9 ⟨rfl, b9⟩
          have B9 := Lib.hid (B6.out.trans (b9.mono B6.out.size))
          have F9 := Lib.hid (F6.out.below b9 F6.out.2.lt)
          have R9 := Lib.hid (R6.out.below b9 R6.out.2.lt)
          clear b9 cN
          go_wp2
          go_roundw
          case rel => exact ⟨j + 1, st', g, r, by omega, by go_num, rfl, rfl, hOk'.out, F9.out, R9.out, hsep.out, B9.out⟩
          case measure => simp [intOf]; omega
        · have hEb : (E1 == 0) = false := by simpa using hE
          go_wp2_with fail
          rw [← hwa]
          replace hwa := Lib.hid hwa
          refine H1.out.mono ?_
          rintro e' w' ⟨rfl, rfl⟩
          have cA := M0.out.cell 3
          go_wp2_with fail
          refine H2.out.mono ?_
          rintro e' w' ⟨rfl, rfl⟩
          clear cA
          have M6 := M0
          have F6 := F0
          have R6 := R0
          have B6 := B0
          clear H1 H2 H3 H4
          have cN := M6.out.cell 1
          have HLk := Lib.hid (looksW g r st yN _ F6.out R6.out hOk.out)
          go_wp2_with fail
          refine HLk.out.mono ?_
          rintro e' w9 ⟨rfl, b9⟩
          have B9 := Lib.hid (B6.out.trans (b9.mono B6.out.size))
          have F9 := Lib.hid (F6.out.below b9 F6.out.2.lt)
          have R9 := Lib.hid (R6.out.below b9 R6.out.2.lt)
          clear b9 cN
          go_wp2
          go_roundw
          case rel => exact ⟨j + 1, st, g, r, by omega, by go_num, rfl, rfl, hOk.out, F9.out, R9.out, hsep.out, B9.out⟩
          case measure => simp [intOf]; omega
      by_cases o3 : yO = 3
      · subst o3
        have M0 := Lib.hid (Mem.Blk.new wr 32 #[.int .i64 3, .int .i64 yN, .int .u8 yV, .int .u32 yA])
        have B0 := Lib.hid (hB.out.alloc hB.out.size (.cells #[.int .i64 3, .int .i64 yN, .int .u8 yV, .int .u32 yA] 32))
        have F0 : Hid (File 57 (wr.alloc (.cells #[.int .i64 3, .int .i64 yN, .int .u8 yV, .int .u32 yA] 32)) g st) := Lib.hid ⟨hF.out.1, hF.out.2.alloc _⟩
        have R0 : Hid (File 29 (wr.alloc (.cells #[.int .i64 3, .int .i64 yN, .int .u8 yV, .int .u32 yA] 32)) r st) := Lib.hid ⟨hR.out.1, hR.out.2.alloc _⟩
        obtain ⟨wa, hwa⟩ : ∃ wa, wa = wr.alloc (.cells #[.int .i64 3, .int .i64 yN, .int .u8 yV, .int .u32 yA] 32) := ⟨_, rfl⟩
        rw [← hwa] at M0 B0 F0 R0
        have hsz : wr.heap.size < wa.heap.size := by rw [hwa, World.size_alloc]; omega
        replace hsz := Lib.hid hsz
        have hba : Hid (wr.heap.size ≠ g ∧ wr.heap.size ≠ r) := Lib.hid ⟨by have := hF.out.2.lt; omega, by have := hR.out.2.lt; omega⟩
        clear hF hR hB
        have H1 := Lib.hid (showW g st yN yV wa F0.out)
        have H2 := Lib.hid (fun w (h : File 29 w r st) => showR r st yN yV w h)
        have hOk' := Lib.hid (hOk.out.show_ yN yV hvv.out)
        clear hOk hst13 hv0 hv1 ha0 ha1
        generalize showS st yN yV = st' at *
        go_wp2_with fail
        rw [← hwa]
        replace hwa := Lib.hid hwa
        refine H1.out.mono ?_
        rintro e' w5 ⟨rfl, F5, g5'⟩
        have R5 := Lib.hid (R0.out.grown g5' (by have := hsep.out.1; intro e; injection e with e; omega))
        have M5 : Hid (Mem.Blk w5 wr.heap.size 32 #[.int .i64 3, .int .i64 yN, .int .u8 yV, .int .u32 yA]) := Lib.hid ((g5'.block _ hsz.out (by have := hba.out.1; intro e; injection e with e; omega)).trans M0.out)
        have B5 := Lib.hid (GR.out _ _ _ hsep.out.2.1 B0.out g5')
        have Z5 : Hid (wr.heap.size < w5.heap.size) := Lib.hid (Nat.lt_of_lt_of_le hsz.out g5'.size)
        replace F5 := Lib.hid F5
        clear g5'
        have d1 := M5.out.cell 1
        have d2 := M5.out.cell 2
        go_wp2_with fail
        refine (H2.out _ R5.out).mono ?_
        rintro e' w6 ⟨rfl, R6, g6'⟩
        have F6 := Lib.hid (F5.out.grown g6' (by have := hsep.out.1; intro e; injection e with e; omega))
        have M6 : Hid (Mem.Blk w6 wr.heap.size 32 #[.int .i64 3, .int .i64 yN, .int .u8 yV, .int .u32 yA]) := Lib.hid ((g6'.block _ Z5.out (by have := hba.out.2; intro e; injection e with e; omega)).trans M5.out)
        have B6 := Lib.hid (GR.out _ _ _ hsep.out.2.2 B5.out g6')
        replace R6 := Lib.hid R6
        clear g6' d1 d2
        have cN := M6.out.cell 1
        have HLk := Lib.hid (looksW g r st' yN _ F6.out R6.out hOk'.out)
        go_wp2_with fail
        refine HLk.out.mono ?_
        rintro e' w9 ⟨rfl, b9⟩
        have B9 := Lib.hid (B6.out.trans (b9.mono B6.out.size))
        have F9 := Lib.hid (F6.out.below b9 F6.out.2.lt)
        have R9 := Lib.hid (R6.out.below b9 R6.out.2.lt)
        clear b9 cN
        go_wp2
        go_roundw
        case rel => exact ⟨j + 1, st', g, r, by omega, by go_num, rfl, rfl, hOk'.out, F9.out, R9.out, hsep.out, B9.out⟩
        case measure => simp [intOf]; omega
      by_cases o4 : yO = 4
      · subst o4
        have M0 := Lib.hid (Mem.Blk.new wr 32 #[.int .i64 4, .int .i64 yN, .int .u8 yV, .int .u32 yA])
        have B0 := Lib.hid (hB.out.alloc hB.out.size (.cells #[.int .i64 4, .int .i64 yN, .int .u8 yV, .int .u32 yA] 32))
        have F0 : Hid (File 57 (wr.alloc (.cells #[.int .i64 4, .int .i64 yN, .int .u8 yV, .int .u32 yA] 32)) g st) := Lib.hid ⟨hF.out.1, hF.out.2.alloc _⟩
        have R0 : Hid (File 29 (wr.alloc (.cells #[.int .i64 4, .int .i64 yN, .int .u8 yV, .int .u32 yA] 32)) r st) := Lib.hid ⟨hR.out.1, hR.out.2.alloc _⟩
        obtain ⟨wa, hwa⟩ : ∃ wa, wa = wr.alloc (.cells #[.int .i64 4, .int .i64 yN, .int .u8 yV, .int .u32 yA] 32) := ⟨_, rfl⟩
        rw [← hwa] at M0 B0 F0 R0
        have hsz : wr.heap.size < wa.heap.size := by rw [hwa, World.size_alloc]; omega
        replace hsz := Lib.hid hsz
        have hba : Hid (wr.heap.size ≠ g ∧ wr.heap.size ≠ r) := Lib.hid ⟨by have := hF.out.2.lt; omega, by have := hR.out.2.lt; omega⟩
        clear hF hR hB
        have H1 := Lib.hid (powerW g st wa F0.out)
        have H2 := Lib.hid (fun w (h : File 29 w r st) => powerR r st w h)
        have hOk' := Lib.hid (hOk.out.power)
        clear hOk hst13 hv0 hv1 ha0 ha1
        generalize powerS st = st' at *
        go_wp2_with fail
        rw [← hwa]
        replace hwa := Lib.hid hwa
        refine H1.out.mono ?_
        rintro e' w5 ⟨rfl, F5, g5'⟩
        have R5 := Lib.hid (R0.out.grown g5' (by have := hsep.out.1; intro e; injection e with e; omega))
        have M5 : Hid (Mem.Blk w5 wr.heap.size 32 #[.int .i64 4, .int .i64 yN, .int .u8 yV, .int .u32 yA]) := Lib.hid ((g5'.block _ hsz.out (by have := hba.out.1; intro e; injection e with e; omega)).trans M0.out)
        have B5 := Lib.hid (GR.out _ _ _ hsep.out.2.1 B0.out g5')
        have Z5 : Hid (wr.heap.size < w5.heap.size) := Lib.hid (Nat.lt_of_lt_of_le hsz.out g5'.size)
        replace F5 := Lib.hid F5
        clear g5'
        go_wp2_with fail
        refine (H2.out _ R5.out).mono ?_
        rintro e' w6 ⟨rfl, R6, g6'⟩
        have F6 := Lib.hid (F5.out.grown g6' (by have := hsep.out.1; intro e; injection e with e; omega))
        have M6 : Hid (Mem.Blk w6 wr.heap.size 32 #[.int .i64 4, .int .i64 yN, .int .u8 yV, .int .u32 yA]) := Lib.hid ((g6'.block _ Z5.out (by have := hba.out.2; intro e; injection e with e; omega)).trans M5.out)
        have B6 := Lib.hid (GR.out _ _ _ hsep.out.2.2 B5.out g6')
        replace R6 := Lib.hid R6
        clear g6'
        have cN := M6.out.cell 1
        have HLk := Lib.hid (looksW g r st' yN _ F6.out R6.out hOk'.out)
        go_wp2_with fail
        refine HLk.out.mono ?_
        rintro e' w9 ⟨rfl, b9⟩
        have B9 := Lib.hid (B6.out.trans (b9.mono B6.out.size))
        have F9 := Lib.hid (F6.out.below b9 F6.out.2.lt)
        have R9 := Lib.hid (R6.out.below b9 R6.out.2.lt)
        clear b9 cN
        go_wp2
        go_roundw
        case rel => exact ⟨j + 1, st', g, r, by omega, by go_num, rfl, rfl, hOk'.out, F9.out, R9.out, hsep.out, B9.out⟩
        case measure => simp [intOf]; omega
      by_cases o5 : yO = 5
      · subst o5
        have M0 := Lib.hid (Mem.Blk.new wr 32 #[.int .i64 5, .int .i64 yN, .int .u8 yV, .int .u32 yA])
        have B0 := Lib.hid (hB.out.alloc hB.out.size (.cells #[.int .i64 5, .int .i64 yN, .int .u8 yV, .int .u32 yA] 32))
        have F0 : Hid (File 57 (wr.alloc (.cells #[.int .i64 5, .int .i64 yN, .int .u8 yV, .int .u32 yA] 32)) g st) := Lib.hid ⟨hF.out.1, hF.out.2.alloc _⟩
        have R0 : Hid (File 29 (wr.alloc (.cells #[.int .i64 5, .int .i64 yN, .int .u8 yV, .int .u32 yA] 32)) r st) := Lib.hid ⟨hR.out.1, hR.out.2.alloc _⟩
        obtain ⟨wa, hwa⟩ : ∃ wa, wa = wr.alloc (.cells #[.int .i64 5, .int .i64 yN, .int .u8 yV, .int .u32 yA] 32) := ⟨_, rfl⟩
        rw [← hwa] at M0 B0 F0 R0
        have hsz : wr.heap.size < wa.heap.size := by rw [hwa, World.size_alloc]; omega
        replace hsz := Lib.hid hsz
        have hba : Hid (wr.heap.size ≠ g ∧ wr.heap.size ≠ r) := Lib.hid ⟨by have := hF.out.2.lt; omega, by have := hR.out.2.lt; omega⟩
        clear hF hR hB
        obtain ⟨hlb, hla⟩ := hOk.out.last
        have hByt : Hid (Byt (lastK st 7)) := Lib.hid ⟨lastK_len _ _, hlb⟩
        have hOk' := Lib.hid (Ok.load hlb hla 7 (Nat.le_refl _))
        have H1 := Lib.hid (lasting7 g st wa F0.out)
        have H2 := Lib.hid (fun w (h : File 29 w r st) => lasting7R r st w h)
        replace hla := Lib.hid hla
        have H17 := Lib.hid (fun b c w hr hb => loadW b 0 (lastK st 7) c w hByt.out hr hb)
        have H19 := Lib.hid (fun b c w hr hb => loadR b 0 (lastK st 7) c w hByt.out hr hb)
        clear hst13 hv0 hv1 ha0 ha1 hlb
        generalize hLK : lastK st 7 = LK at *
        clear hLK
        go_wp2_with fail
        rw [← hwa]
        replace hwa := Lib.hid hwa
        refine H1.out.mono ?_
        rintro e' w5 ⟨g5, c5, rfl, p5, hc5, b5⟩
        have L1 := H17.out g5 c5 w5 (fun i hi => by rw [Nat.zero_add]; exact hc5 i hi) p5.2.1
        have B5 := Lib.hid (B0.out.trans (b5.mono B0.out.size))
        have R5 := Lib.hid (R0.out.below b5 R0.out.2.lt)
        have M5 := Lib.hid (M0.out.below b5 hsz.out)
        have Z5 : Hid (wr.heap.size < w5.heap.size) := Lib.hid (Nat.lt_of_lt_of_le hsz.out b5.size)
        replace L1 := Lib.hid L1
        clear p5 hc5 b5 H1 H17
        go_wp2_with fail
        refine L1.out.mono ?_
        rintro e' w6 ⟨hw, b6⟩
        rcases hw with ⟨h, _⟩ | ⟨_, g', rfl, F6, hg'⟩
        · rw [hla.out] at h; cases h
        have B6 := Lib.hid (B5.out.trans (b6.mono B5.out.size))
        have R6 := Lib.hid (R5.out.below b6 R5.out.2.lt)
        have M6 := Lib.hid (M5.out.below b6 Z5.out)
        have Z6 : Hid (wr.heap.size < w6.heap.size) := Lib.hid (Nat.lt_of_lt_of_le Z5.out b6.size)
        have hgB : Hid (w.heap.size ≤ g' ∧ g' < w6.heap.size) := Lib.hid ⟨by have := B5.out.size; omega, F6.2.lt⟩
        replace F6 := Lib.hid F6
        replace H2 := Lib.hid (H2.out w6 R6.out)
        clear hg' b6 L1 B5 R5 M5 Z5
        go_wp2_with fail
        refine H2.out.mono ?_
        rintro e' w7 ⟨g7, c7, rfl, p7, hc7, b7⟩
        have L2 := H19.out g7 c7 w7 (fun i hi => by rw [Nat.zero_add]; exact hc7 i hi) p7.2.1
        have B7 := Lib.hid (B6.out.trans (b7.mono B6.out.size))
        have F7 := Lib.hid (F6.out.below b7 F6.out.2.lt)
        have M7 := Lib.hid (M6.out.below b7 Z6.out)
        have Z7 : Hid (wr.heap.size < w7.heap.size) := Lib.hid (Nat.lt_of_lt_of_le Z6.out b7.size)
        have hgC : Hid (g' < w7.heap.size) := Lib.hid (Nat.lt_of_lt_of_le hgB.out.2 b7.size)
        replace L2 := Lib.hid L2
        clear p7 hc7 b7 H2 H19
        go_wp2_with fail
        refine L2.out.mono ?_
        rintro e' w8 ⟨hw, b8⟩
        rcases hw with ⟨h, _⟩ | ⟨_, r', rfl, R8, hr'⟩
        · rw [hla.out] at h; cases h
        have B8 := Lib.hid (B7.out.trans (b8.mono B7.out.size))
        have F8 := Lib.hid (F7.out.below b8 F7.out.2.lt)
        have M8 := Lib.hid (M7.out.below b8 Z7.out)
        have hsep' : Hid (g' ≠ r' ∧ w.heap.size ≤ g' ∧ w.heap.size ≤ r') := Lib.hid ⟨by have := hgC.out; omega, hgB.out.1, by have := B7.out.size; omega⟩
        replace hsep := hsep'
        replace R8 := Lib.hid R8
        clear hr' b8 L2 B7 F7 M7 Z7 hsep' B6 F6 R6 M6 Z6
        have B6 := B8
        have F6 := F8
        have R6 := R8
        have M6 := M8
        clear B8 F8 R8 M8
        generalize stK (pK LK) 7 = st' at *
        have cN := M6.out.cell 1
        have HLk := Lib.hid (looksW g' r' st' yN _ F6.out R6.out hOk'.out)
        go_wp2_with fail
        refine HLk.out.mono ?_
        rintro e' w9 ⟨rfl, b9⟩
        have B9 := Lib.hid (B6.out.trans (b9.mono B6.out.size))
        have F9 := Lib.hid (F6.out.below b9 F6.out.2.lt)
        have R9 := Lib.hid (R6.out.below b9 R6.out.2.lt)
        clear b9 cN
        go_wp2
        go_roundw
        case rel => exact ⟨j + 1, st', g', r', by omega, by go_num, rfl, rfl, hOk'.out, F9.out, R9.out, hsep.out, B9.out⟩
        case measure => simp [intOf]; omega
      · obtain ⟨oo, hoo⟩ : ∃ oo, oo = yO := ⟨_, rfl⟩
        rw [← hoo] at c0 o1 o2 o3 o4 o5
        have hoo' := Lib.hid hoo
        clear hoo
        have M0 := Lib.hid (Mem.Blk.new wr 32 #[.int .i64 oo, .int .i64 yN, .int .u8 yV, .int .u32 yA])
        have B0 := Lib.hid (hB.out.alloc hB.out.size (.cells #[.int .i64 oo, .int .i64 yN, .int .u8 yV, .int .u32 yA] 32))
        have F0 : Hid (File 57 (wr.alloc (.cells #[.int .i64 oo, .int .i64 yN, .int .u8 yV, .int .u32 yA] 32)) g st) := Lib.hid ⟨hF.out.1, hF.out.2.alloc _⟩
        have R0 : Hid (File 29 (wr.alloc (.cells #[.int .i64 oo, .int .i64 yN, .int .u8 yV, .int .u32 yA] 32)) r st) := Lib.hid ⟨hR.out.1, hR.out.2.alloc _⟩
        obtain ⟨wa, hwa⟩ : ∃ wa, wa = wr.alloc (.cells #[.int .i64 oo, .int .i64 yN, .int .u8 yV, .int .u32 yA] 32) := ⟨_, rfl⟩
        rw [← hwa] at M0 B0 F0 R0
        have hsz : wr.heap.size < wa.heap.size := by rw [hwa, World.size_alloc]; omega
        replace hsz := Lib.hid hsz
        have hba : Hid (wr.heap.size ≠ g ∧ wr.heap.size ≠ r) := Lib.hid ⟨by have := hF.out.2.lt; omega, by have := hR.out.2.lt; omega⟩
        clear hF hR hB
        have M6 := M0
        have F6 := F0
        have R6 := R0
        have B6 := B0
        have HLk := Lib.hid (looksW g r st yN wa F6.out R6.out hOk.out)
        clear hst13 hv0 hv1 ha0 ha1
        go_wp2_with fail
        rw [← hwa]
        replace hwa := Lib.hid hwa
        refine HLk.out.mono ?_
        rintro e' w9 ⟨rfl, b9⟩
        have B9 := Lib.hid (B6.out.trans (b9.mono B6.out.size))
        have F9 := Lib.hid (F6.out.below b9 F6.out.2.lt)
        have R9 := Lib.hid (R6.out.below b9 R6.out.2.lt)
        clear b9
        go_wp2
        go_roundw
        case rel => exact ⟨j + 1, st, g, r, by omega, by go_num, rfl, rfl, hOk.out, F9.out, R9.out, hsep.out, B9.out⟩
        case measure => simp [intOf]; omega
    · obtain rfl : j = m := by omega
      replace hB := Lib.hid hB
      go_wp2
      go_ret
      exact ⟨rfl, hB.out⟩

theorem all (a : Option Addr) (l : List RegG.Act) (m c : Nat) (w : World) (hn : l.length = m) (hr : RdA w a l) (hm : m ≤ maxLen) (hv : ∀ y ∈ l, 0 ≤ y.v ∧ y.v ≤ 255 ∧ 0 ≤ y.arg ∧ y.arg ≤ 4294967295) : Calls Try.prog 3 #[.slice a m c] w fun e w' => e = .returned (.bool true) ∧ Below w.heap.size w w' := by
  by_cases h : 300 < m
  · exact early a m c w h (by unfold maxLen at hm; omega)
  · exact law a l m c w hn hr (by omega) hv
end Go.Proofs.Ytnkbopmghekjdaa.RgP
