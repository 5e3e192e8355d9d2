/- The law of acts on groups. -/
import Derived.Test.YtleflegbdnmgeaaGdF
import Derived.Test.YtleflegbdnmgeaaGdO
namespace Go.Proofs.Ytleflegbdnmgeaa.GdP
open Go.ChangeShapes Go.WideShapes Go.ChangeAt Go.RowKit
open GdT GdA GdB GdC GdD GdE GdK GdO GdQ GdS GdL GdJ2 GdF
set_option linter.unusedVariables false
set_option maxHeartbeats 1000000

def Fit (L : List B8) : Prop := ∀ x ∈ L, x.toNat ≤ 3
theorem fit_new (n : Nat) : Fit (List.replicate n 0#8) := fun x hx => by rw [List.eq_of_mem_replicate hx]; decide
theorem fit_set {n : Nat} {L : List B8} (h : Fit L) (x kd : Int) : Fit (setL n L x kd) := by
  unfold setL
  split
  · rename_i he
    unfold setE at he
    have hx : ¬ (kd < 1 ∨ 3 < kd) := by
      revert he
      split
      · intro h; cases h
      · split
        · intro h; cases h
        · rename_i h1 h2
          intro _
          exact h2
    intro z hz
    rcases List.mem_or_eq_of_mem_set hz with hz | hz
    · exact h z hz
    · subst hz
      split
      · rw [BitVec.toNat_ofNat]; omega
      · rename_i hlt
        rw [List.getD_eq_getElem?_getD]
        cases hl : L[x.toNat]? with
        | none => decide
        | some u => exact h u (List.mem_of_getElem? hl)
  · exact h
theorem fit_clr {n : Nat} {L : List B8} (h : Fit L) (x : Int) : Fit (clrL n L x) := by
  unfold clrL
  split
  · intro z hz
    rcases List.mem_or_eq_of_mem_set hz with hz | hz
    · exact h z hz
    · subst hz; decide
  · exact h
theorem lst_cases (x : B8) (h : x.toNat ≤ 3) : okB (lst x) = true ∧ (lst x).toNat ≤ 3 := by
  have : x = 0 ∨ x = 1 ∨ x = 2 ∨ x = 3 := by
    have e : x.toNat = 0 ∨ x.toNat = 1 ∨ x.toNat = 2 ∨ x.toNat = 3 := by omega
    rcases e with e | e | e | e
    · exact .inl (BitVec.eq_of_toNat_eq e)
    · exact .inr (.inl (BitVec.eq_of_toNat_eq e))
    · exact .inr (.inr (.inl (BitVec.eq_of_toNat_eq e)))
    · exact .inr (.inr (.inr (BitVec.eq_of_toNat_eq e)))
  rcases this with rfl | rfl | rfl | rfl <;> decide
theorem fit_lst {L : List B8} (h : Fit L) : Fit (L.map lst) ∧ allOk (L.map lst) = true := by
  constructor
  · intro z hz
    obtain ⟨x, hx, rfl⟩ := List.mem_map.1 hz
    exact (lst_cases x (h x hx)).2
  · unfold allOk
    rw [List.all_eq_true]
    intro z hz
    obtain ⟨x, hx, rfl⟩ := List.mem_map.1 hz
    exact (lst_cases x (h x hx)).1

theorem early (z : Int) (a : Option Addr) (m c : Nat) (w : World) (h : 300 < m ∨ z < 1 ∨ 256 < z) : Calls Try.prog 3 #[.int .i64 z, .slice a m c] w fun e w' => e = .returned (.bool true) ∧ Below w.heap.size w w' := by
  by_cases h1 : 300 < m
  · have h1' : (300 : Int) < (m : Int) := by omega
    go_enter Try.func3, Try.ntmps3
    go_wp2_with fail
    refine (known _).mono ?_
    rintro e' w1 ⟨rfl, B1⟩
    go_wp2
    go_ret
    exact ⟨rfl, B1⟩
  have h1' : ¬ (300 : Int) < (m : Int) := by omega
  have h2 : z < 1 ∨ 256 < z := by omega
  have HN := Lib.hid (fun w => newBad z w h2)
  have HM := Lib.hid (fun w => newBadR z w h2)
  clear h h1 h2
  go_enter Try.func3, Try.ntmps3
  go_wp2_with fail
  refine (known _).mono ?_
  rintro e' w1 ⟨rfl, B1⟩
  go_wp2_with fail
  refine (HN.out _).mono ?_
  rintro e' w2 ⟨rfl, h2⟩
  obtain rfl := h2.symm
  go_wp2_with fail
  refine (HM.out _).mono ?_
  rintro e' w3 ⟨rfl, h3⟩
  obtain rfl := h3.symm
  go_wp2
  go_ret
  exact ⟨rfl, B1⟩

set_option maxRecDepth 100000 in
theorem law (n : Nat) (a : Option Addr) (l : List GdO.Act) (m c : Nat) (w : World) (hn : l.length = m) (hr : RdA w a l) (hm : m ≤ 300) (h1 : 1 ≤ n) (h2 : n ≤ 256) :
    Calls Try.prog 3 #[.int .i64 n, .slice a m c] w fun e w' => e = .returned (.bool true) ∧ Below w.heap.size w w' := by
  have g1 : ¬ (300 : Int) < (m : Int) := by omega
  have GR : Hid (∀ q w2 w3, w.heap.size ≤ q → Below w.heap.size w w2 → w2.grownBy w3 (some q) → Below w.heap.size w w3) := Lib.hid fun q w2 w3 hq hB hG => hB.grown hG hB.size (fun j e => by cases e; exact hq)
  replace hr := Lib.hid hr.2
  replace hn := Lib.hid hn
  go_enter Try.func3, Try.ntmps3
  go_wp2_with fail
  refine (known _).mono ?_
  rintro e' w1 ⟨rfl, B1⟩
  replace B1 := Lib.hid B1
  go_wp2_with fail
  refine (newW n _ h1 h2).mono ?_
  rintro e' w2 ⟨g0, q0, rfl, G2, hg, hq, b2⟩
  have B2 := Lib.hid (B1.out.trans (b2.mono B1.out.size))
  have hqe : Hid (w.heap.size ≤ q0 ∧ g0 < w2.heap.size ∧ q0 < w2.heap.size) := Lib.hid ⟨Nat.le_trans B1.out.size hq, G2.1.lt, G2.2.1.lt⟩
  replace G2 := Lib.hid G2
  clear b2 hg hq
  go_wp2_with fail
  refine (newR n _ h1 h2).mono ?_
  rintro e' w3 ⟨r, s, rfl, R3, hr3, hs3, b3⟩
  have B3 := Lib.hid (B2.out.trans (b3.mono B2.out.size))
  have G3 := Lib.hid (G2.out.below b3)
  have hsep0 : Hid (g0 ≠ s ∧ q0 ≠ s ∧ r ≠ q0 ∧ s ≠ q0 ∧ w.heap.size ≤ q0 ∧ w.heap.size ≤ s) := Lib.hid (by have := hqe.out; have := B2.out.size; refine ⟨?_, ?_, ?_, ?_, ?_, ?_⟩ <;> omega)
  replace R3 := Lib.hid R3
  have F0 := Lib.hid (fit_new n)
  clear b3 hr3 hs3 G2 hqe
  go_wp2_with fail
  go_loopw [9, 5] (fun i v wr => ∃ (j : Nat) (L : List B8) (g q : Nat), j ≤ m ∧ i = .int .i64 j ∧ v = .pointer (some ⟨g, 0, none⟩) ∧ Fit L ∧ Gd wr g q n L ∧ Rg wr r s n L ∧ (g ≠ s ∧ q ≠ s ∧ r ≠ q ∧ s ≠ q ∧ w.heap.size ≤ q ∧ w.heap.size ≤ s) ∧ Below w.heap.size w wr) (fun i _ _ => m - (intOf i).toNat)
  case atStart => exact ⟨0, _, _, _, by omega, rfl, rfl, F0.out, G3.out, R3.out, hsep0.out, B3.out⟩
  case round =>
    clear F0 G3 R3 hsep0 B3 B2 B1
    obtain ⟨j, L, g, q, hj, rfl, rfl, hF, hG, hR, hsep, hB⟩ := hrel
    replace hF := Lib.hid hF
    replace hR := Lib.hid hR
    replace hsep := Lib.hid hsep
    by_cases hlt : j < m
    · obtain ⟨bb, off, rfl, hbb, hf, hcell⟩ := hr.out j (by rw [hn.out]; exact hlt)
      obtain ⟨y, hy⟩ : ∃ y, y = l[j]'(by rw [hn.out]; exact hlt) := ⟨_, rfl⟩
      rw [← hy] at hf hcell
      have hlt' : (j : Int) < (m : Int) := by omega
      have AL : Hid (∀ w', Below w.heap.size w w' → w'.cell? ⟨bb, off + j * 3 + 1, none⟩ = some (.int .i64 y.gr) ∧ w'.cell? ⟨bb, off + j * 3 + 2, none⟩ = some (.int .i64 y.kd)) := Lib.hid fun w' h => ⟨(h.cell (p := ⟨bb, off + j * 3 + 1, none⟩) hbb).trans (hcell 1 _ rfl), (h.cell (p := ⟨bb, off + j * 3 + 2, none⟩) hbb).trans (hcell 2 _ rfl)⟩
      have c0 : wr.cell? ⟨bb, off + j * 3, none⟩ = some (.int .i64 y.op) := (hB.cell (p := ⟨bb, off + j * 3, none⟩) hbb).trans (hcell 0 _ rfl)
      have hgr : Hid (-9223372036854775808 ≤ y.gr ∧ y.gr ≤ 9223372036854775807) := Lib.hid (Mem.I64.of hf.2.1)
      clear hy hcell hf
      replace hG := Lib.hid hG
      replace hB := Lib.hid hB
      by_cases o1 : y.op = 1
      · rw [o1] at c0
        have DD : Hid (Below wr.heap.size wr wr.drew) := Lib.hid (Below.refl _ _).drew
        have B3 : Hid (Below w.heap.size w wr.drew) := Lib.hid hB.out.drew
        have G3 := Lib.hid (hG.out.below DD.out)
        have R3 := Lib.hid (hR.out.below DD.out)
        have H1 := Lib.hid (setW g q n L y.gr y.kd _ G3.out)
        have H2 := Lib.hid (fun w (h : Rg w r s n L) => setR r s n L y.gr y.kd w h)
        have hF' := Lib.hid (fit_set (n := n) hF.out y.gr y.kd)
        clear hG hF hB DD hR
        generalize setL n L y.gr y.kd = L' at *
        generalize setE n y.gr y.kd = E' at *
        go_wp2_with fail
        refine wp_region_held_drew (S := fun w' => w'.cell? ⟨bb, off + j * 3 + 1, none⟩ = some (.int .i64 y.gr) ∧ w'.cell? ⟨bb, off + j * 3 + 2, none⟩ = some (.int .i64 y.kd)) (by kernel_rfl) (AL.out _ B3.out) (fun hS => ?_)
        try simp only [List.size_toArray, List.length_cons, List.length_nil, Nat.reduceAdd]
        refine wpAnyH_take (i := 0) (v := ?_) (by simp only [List.getElem?_toArray, List.getElem?_cons_succ, List.getElem?_cons_zero]; rfl) (by kernel_rfl) (by kernel_rfl) (by kernel_rfl) (by exact fun _ _ _ h => h) (Or.inl ⟨by rfl, ?_⟩) hS ?_
        rotate_left
        · intro w hSw
          go_simp
          try with_reducible rfl
        try simp only [Act.put, List.setIfInBounds_toArray, List.set_cons_zero, List.set_cons_succ]
        refine wpAnyH_take (i := 1) (v := ?_) (by simp only [List.getElem?_toArray, List.getElem?_cons_succ, List.getElem?_cons_zero]; rfl) (by kernel_rfl) (by kernel_rfl) (by kernel_rfl) (by exact fun _ _ _ h => h) (Or.inl ⟨by rfl, ?_⟩) hS ?_
        rotate_left
        · intro w hSw
          go_simp
          try with_reducible rfl
        try simp only [Act.put, List.setIfInBounds_toArray, List.set_cons_zero, List.set_cons_succ]
        refine wpAnyH_take (i := 2) (v := ?_) (by simp only [List.getElem?_toArray, List.getElem?_cons_succ, List.getElem?_cons_zero]; rfl) (by kernel_rfl) (by kernel_rfl) (by kernel_rfl) (by exact fun _ _ _ h => h) (Or.inl ⟨by rfl, ?_⟩) hS ?_
        rotate_left
        · intro w hSw
          go_simp
          try with_reducible rfl
        try simp only [Act.put, List.setIfInBounds_toArray, List.set_cons_zero, List.set_cons_succ]
        refine wpAnyH_take (i := 3) (v := ?_) (by simp only [List.getElem?_toArray, List.getElem?_cons_succ, List.getElem?_cons_zero]; rfl) (by kernel_rfl) (by kernel_rfl) (by kernel_rfl) (by exact fun _ _ _ h => h) (Or.inl ⟨by rfl, ?_⟩) hS ?_
        rotate_left
        · intro w hSw
          go_simp
          try with_reducible rfl
        try simp only [Act.put, List.setIfInBounds_toArray, List.set_cons_zero, List.set_cons_succ]
        refine wpAnyH_take (i := 4) (v := ?_) (by simp only [List.getElem?_toArray, List.getElem?_cons_succ, List.getElem?_cons_zero]; rfl) (by kernel_rfl) (by kernel_rfl) (by kernel_rfl) (by exact fun _ _ _ h => h) (Or.inl ⟨by rfl, ?_⟩) hS ?_
        rotate_left
        · intro w hSw
          go_simp
          try with_reducible rfl
        try simp only [Act.put, List.setIfInBounds_toArray, List.set_cons_zero, List.set_cons_succ]
        refine wpAnyH_take (i := 5) (v := ?_) (by simp only [List.getElem?_toArray, List.getElem?_cons_succ, List.getElem?_cons_zero]; rfl) (by kernel_rfl) (by kernel_rfl) (by kernel_rfl) (by exact fun _ _ _ h => h) (Or.inl ⟨by rfl, ?_⟩) hS ?_
        rotate_left
        · intro w hSw
          go_simp
          try with_reducible rfl
        try simp only [Act.put, List.setIfInBounds_toArray, List.set_cons_zero, List.set_cons_succ]
        refine wpAnyH_take (i := 6) (v := ?_) (by simp only [List.getElem?_toArray, List.getElem?_cons_succ, List.getElem?_cons_zero]; rfl) (by kernel_rfl) (by kernel_rfl) (by kernel_rfl) (by exact fun _ _ _ h => h) (Or.inl ⟨by rfl, ?_⟩) hS ?_
        rotate_left
        · intro w hSw
          go_simp
          try with_reducible rfl
        try simp only [Act.put, List.setIfInBounds_toArray, List.set_cons_zero, List.set_cons_succ]
        refine wpAnyH_take (i := 7) (v := ?_) (by simp only [List.getElem?_toArray, List.getElem?_cons_succ, List.getElem?_cons_zero]; rfl) (by kernel_rfl) (by kernel_rfl) (by kernel_rfl) (by exact fun _ _ _ h => h) (Or.inl ⟨by rfl, ?_⟩) hS ?_
        rotate_left
        · intro w hSw
          go_simp
          try with_reducible rfl
        try simp only [Act.put, List.setIfInBounds_toArray, List.set_cons_zero, List.set_cons_succ]
        refine wpAnyH_take (i := 8) (v := ?_) (by simp only [List.getElem?_toArray, List.getElem?_cons_succ, List.getElem?_cons_zero]; rfl) (by kernel_rfl) (by kernel_rfl) (by kernel_rfl) (by exact fun _ _ _ h => h) (Or.inl ⟨by rfl, ?_⟩) hS ?_
        rotate_left
        · intro w hSw
          go_simp
          try with_reducible rfl
        try simp only [Act.put, List.setIfInBounds_toArray, List.set_cons_zero, List.set_cons_succ]
        refine wpAnyH_take (i := 9) (v := ?_) (by simp only [List.getElem?_toArray, List.getElem?_cons_succ, List.getElem?_cons_zero]; rfl) (by kernel_rfl) (by kernel_rfl) (by kernel_rfl) (by exact fun _ _ _ h => h) (Or.inl ⟨by rfl, ?_⟩) hS ?_
        rotate_left
        · intro w hSw
          go_simp
          try with_reducible rfl
        try simp only [Act.put, List.setIfInBounds_toArray, List.set_cons_zero, List.set_cons_succ]
        refine wpAnyH_take (i := 10) (v := ?_) (by simp only [List.getElem?_toArray, List.getElem?_cons_succ, List.getElem?_cons_zero]; rfl) (by kernel_rfl) (by kernel_rfl) (by kernel_rfl) (by exact fun _ _ _ h => h) (Or.inl ⟨by rfl, ?_⟩) hS ?_
        rotate_left
        · intro w hSw
          go_simp
          try with_reducible rfl
        try simp only [Act.put, List.setIfInBounds_toArray, List.set_cons_zero, List.set_cons_succ]
        refine wpAnyH_take (i := 12) (v := ?_) (by simp only [List.getElem?_toArray, List.getElem?_cons_succ, List.getElem?_cons_zero]; rfl) (by kernel_rfl) (by kernel_rfl) (by kernel_rfl) (by exact fun _ _ _ h => h) (Or.inl ⟨by rfl, ?_⟩) hS ?_
        rotate_left
        · intro w hSw
          go_simp
          try with_reducible rfl
        try simp only [Act.put, List.setIfInBounds_toArray, List.set_cons_zero, List.set_cons_succ]
        refine wpAnyH_take (i := 13) (v := ?_) (by simp only [List.getElem?_toArray, List.getElem?_cons_succ, List.getElem?_cons_zero]; rfl) (by kernel_rfl) (by kernel_rfl) (by kernel_rfl) (by exact fun _ _ _ h => h) (Or.inl ⟨by rfl, ?_⟩) hS ?_
        rotate_left
        · intro w hSw
          go_simp
          try with_reducible rfl
        try simp only [Act.put, List.setIfInBounds_toArray, List.set_cons_zero, List.set_cons_succ]
        refine wpAnyH_take (i := 14) (v := ?_) (by simp only [List.getElem?_toArray, List.getElem?_cons_succ, List.getElem?_cons_zero]; rfl) (by kernel_rfl) (by kernel_rfl) (by kernel_rfl) (by exact fun _ _ _ h => h) (Or.inl ⟨by rfl, ?_⟩) hS ?_
        rotate_left
        · intro w hSw
          go_simp
          try with_reducible rfl
        try simp only [Act.put, List.setIfInBounds_toArray, List.set_cons_zero, List.set_cons_succ]
        refine wpAnyH_take (i := 15) (v := ?_) (by simp only [List.getElem?_toArray, List.getElem?_cons_succ, List.getElem?_cons_zero]; rfl) (by kernel_rfl) (by kernel_rfl) (by kernel_rfl) (by exact fun _ _ _ h => h) (Or.inl ⟨by rfl, ?_⟩) hS ?_
        rotate_left
        · intro w hSw
          go_simp
          try with_reducible rfl
        try simp only [Act.put, List.setIfInBounds_toArray, List.set_cons_zero, List.set_cons_succ]
        refine wpAnyH_take (i := 16) (v := ?_) (by simp only [List.getElem?_toArray, List.getElem?_cons_succ, List.getElem?_cons_zero]; rfl) (by kernel_rfl) (by kernel_rfl) (by kernel_rfl) (by exact fun _ _ _ h => h) (Or.inl ⟨by rfl, ?_⟩) hS ?_
        rotate_left
        · intro w hSw
          go_simp
          try with_reducible rfl
        try simp only [Act.put, List.setIfInBounds_toArray, List.set_cons_zero, List.set_cons_succ]
        refine wpAnyH_take (i := 17) (v := ?_) (by simp only [List.getElem?_toArray, List.getElem?_cons_succ, List.getElem?_cons_zero]; rfl) (by kernel_rfl) (by kernel_rfl) (by kernel_rfl) (by exact fun _ _ _ h => h) (Or.inl ⟨by rfl, ?_⟩) hS ?_
        rotate_left
        · intro w hSw
          go_simp
          try with_reducible rfl
        try simp only [Act.put, List.setIfInBounds_toArray, List.set_cons_zero, List.set_cons_succ]
        refine wpAnyH_take (i := 18) (v := ?_) (by simp only [List.getElem?_toArray, List.getElem?_cons_succ, List.getElem?_cons_zero]; rfl) (by kernel_rfl) (by kernel_rfl) (by kernel_rfl) (by exact fun _ _ _ h => h) (Or.inl ⟨by rfl, ?_⟩) hS ?_
        rotate_left
        · intro w hSw
          go_simp
          try with_reducible rfl
        try simp only [Act.put, List.setIfInBounds_toArray, List.set_cons_zero, List.set_cons_succ]
        refine wpAnyH_take (i := 19) (v := ?_) (by simp only [List.getElem?_toArray, List.getElem?_cons_succ, List.getElem?_cons_zero]; rfl) (by kernel_rfl) (by kernel_rfl) (by kernel_rfl) (by exact fun _ _ _ h => h) (Or.inl ⟨by rfl, ?_⟩) hS ?_
        rotate_left
        · intro w hSw
          go_simp
          try with_reducible rfl
        try simp only [Act.put, List.setIfInBounds_toArray, List.set_cons_zero, List.set_cons_succ]
        refine wpAnyH_take (i := 20) (v := ?_) (by simp only [List.getElem?_toArray, List.getElem?_cons_succ, List.getElem?_cons_zero]; rfl) (by kernel_rfl) (by kernel_rfl) (by kernel_rfl) (by exact fun _ _ _ h => h) (Or.inl ⟨by rfl, ?_⟩) hS ?_
        rotate_left
        · intro w hSw
          go_simp
          try with_reducible rfl
        try simp only [Act.put, List.setIfInBounds_toArray, List.set_cons_zero, List.set_cons_succ]
        refine wpAnyH_take (i := 21) (v := ?_) (by simp only [List.getElem?_toArray, List.getElem?_cons_succ, List.getElem?_cons_zero]; rfl) (by kernel_rfl) (by kernel_rfl) (by kernel_rfl) (by exact fun _ _ _ h => h) (Or.inl ⟨by rfl, ?_⟩) hS ?_
        rotate_left
        · intro w hSw
          go_simp
          try with_reducible rfl
        try simp only [Act.put, List.setIfInBounds_toArray, List.set_cons_zero, List.set_cons_succ]
        refine wpAnyH_take (i := 22) (v := ?_) (by simp only [List.getElem?_toArray, List.getElem?_cons_succ, List.getElem?_cons_zero]; rfl) (by kernel_rfl) (by kernel_rfl) (by kernel_rfl) (by exact fun _ _ _ h => h) (Or.inl ⟨by rfl, ?_⟩) hS ?_
        rotate_left
        · intro w hSw
          go_simp
          try with_reducible rfl
        try simp only [Act.put, List.setIfInBounds_toArray, List.set_cons_zero, List.set_cons_succ]
        refine wpAnyH_ready (rs := [11]) (by kernel_rfl) (by simp) ?_
        refine AllReadyH.cons (by simp only [List.getElem?_toArray, List.getElem?_cons_succ, List.getElem?_cons_zero]; rfl) (fun K hK => ?_) AllReadyH.nil
        go_simp
        go_at_call 10
        refine (H1.out).mono ?_
        rintro e' w5 ⟨rfl, G5, g5'⟩
        have R5 := R3.out.kept g5' hsep.out.2.2.1 hsep.out.2.2.2.1
        have B5 := Lib.hid (GR.out _ _ _ hsep.out.2.2.2.2.1 B3.out g5')
        clear g5'
        refine hK.out _ _ (AL.out _ B5.out) (fun hS => ?_)
        clear hK K
        try simp only [Act.put, List.setIfInBounds_toArray, List.set_cons_zero, List.set_cons_succ]
        refine wpAnyH_ready (rs := [23]) (by kernel_rfl) (by simp) ?_
        refine AllReadyH.cons (by simp only [List.getElem?_toArray, List.getElem?_cons_succ, List.getElem?_cons_zero]; rfl) (fun K hK => ?_) AllReadyH.nil
        go_simp
        go_at_call 11
        refine (H2.out _ R5).mono ?_
        rintro e' w6 ⟨rfl, R6, g6'⟩
        have G6 := Lib.hid (GdQ.Gd.kept G5 g6' hsep.out.1 hsep.out.2.1)
        have B6 := Lib.hid (GR.out _ _ _ hsep.out.2.2.2.2.2 B5.out g6')
        replace R6 := Lib.hid R6
        clear g6'
        refine hK.out _ _ (AL.out _ B6.out) (fun hS => ?_)
        clear hK K
        try simp only [Act.put, List.setIfInBounds_toArray, List.set_cons_zero, List.set_cons_succ]
        refine wpAnyH_take (i := 24) (v := ?_) (by simp only [List.getElem?_toArray, List.getElem?_cons_succ, List.getElem?_cons_zero]; rfl) (by kernel_rfl) (by kernel_rfl) (by kernel_rfl) (by exact fun _ _ _ h => h) (Or.inl ⟨by rfl, ?_⟩) hS ?_
        rotate_left
        · intro w hSw
          go_simp
          try with_reducible rfl
        try simp only [Act.put, List.setIfInBounds_toArray, List.set_cons_zero, List.set_cons_succ]
        refine wpAnyH_done (by kernel_rfl) ?_ _
        have ca := (AL.out _ B6.out).1
        have HLk := Lib.hid (looksW g q r s n L' y.gr _ G6.out R6.out h1 hgr.out)
        go_wp2_with fail
        refine HLk.out.mono ?_
        rintro e' w9 ⟨rfl, b9⟩
        have B9 := Lib.hid (B6.out.trans (b9.mono B6.out.size))
        have G9 := Lib.hid (G6.out.below b9)
        have R9 := Lib.hid (R6.out.below b9)
        go_wp2
        go_roundw
        case rel => exact ⟨j + 1, L', g, q, by omega, by go_num, rfl, hF'.out, G9.out, R9.out, hsep.out, B9.out⟩
        case measure => simp [intOf]; omega
      by_cases o2 : y.op = 2
      · rw [o2] at c0
        have DD : Hid (Below wr.heap.size wr wr.drew) := Lib.hid (Below.refl _ _).drew
        have B3 : Hid (Below w.heap.size w wr.drew) := Lib.hid hB.out.drew
        have G3 := Lib.hid (hG.out.below DD.out)
        have R3 := Lib.hid (hR.out.below DD.out)
        have H1 := Lib.hid (clearW g q n L y.gr _ G3.out)
        have H2 := Lib.hid (fun w (h : Rg w r s n L) => clrR r s n L y.gr w h)
        have hF' := Lib.hid (fit_clr (n := n) hF.out y.gr)
        clear hG hF hB DD hR
        generalize clrL n L y.gr = L' at *
        generalize clrE n L y.gr = E' at *
        go_wp2_with fail
        refine wp_region_held_drew (S := fun w' => w'.cell? ⟨bb, off + j * 3 + 1, none⟩ = some (.int .i64 y.gr) ∧ w'.cell? ⟨bb, off + j * 3 + 2, none⟩ = some (.int .i64 y.kd)) (by kernel_rfl) (AL.out _ B3.out) (fun hS => ?_)
        try simp only [List.size_toArray, List.length_cons, List.length_nil, Nat.reduceAdd]
        refine wpAnyH_take (i := 0) (v := ?_) (by simp only [List.getElem?_toArray, List.getElem?_cons_succ, List.getElem?_cons_zero]; rfl) (by kernel_rfl) (by kernel_rfl) (by kernel_rfl) (by exact fun _ _ _ h => h) (Or.inl ⟨by rfl, ?_⟩) hS ?_
        rotate_left
        · intro w hSw
          go_simp
          try with_reducible rfl
        try simp only [Act.put, List.setIfInBounds_toArray, List.set_cons_zero, List.set_cons_succ]
        refine wpAnyH_take (i := 1) (v := ?_) (by simp only [List.getElem?_toArray, List.getElem?_cons_succ, List.getElem?_cons_zero]; rfl) (by kernel_rfl) (by kernel_rfl) (by kernel_rfl) (by exact fun _ _ _ h => h) (Or.inl ⟨by rfl, ?_⟩) hS ?_
        rotate_left
        · intro w hSw
          go_simp
          try with_reducible rfl
        try simp only [Act.put, List.setIfInBounds_toArray, List.set_cons_zero, List.set_cons_succ]
        refine wpAnyH_take (i := 2) (v := ?_) (by simp only [List.getElem?_toArray, List.getElem?_cons_succ, List.getElem?_cons_zero]; rfl) (by kernel_rfl) (by kernel_rfl) (by kernel_rfl) (by exact fun _ _ _ h => h) (Or.inl ⟨by rfl, ?_⟩) hS ?_
        rotate_left
        · intro w hSw
          go_simp
          try with_reducible rfl
        try simp only [Act.put, List.setIfInBounds_toArray, List.set_cons_zero, List.set_cons_succ]
        refine wpAnyH_take (i := 3) (v := ?_) (by simp only [List.getElem?_toArray, List.getElem?_cons_succ, List.getElem?_cons_zero]; rfl) (by kernel_rfl) (by kernel_rfl) (by kernel_rfl) (by exact fun _ _ _ h => h) (Or.inl ⟨by rfl, ?_⟩) hS ?_
        rotate_left
        · intro w hSw
          go_simp
          try with_reducible rfl
        try simp only [Act.put, List.setIfInBounds_toArray, List.set_cons_zero, List.set_cons_succ]
        refine wpAnyH_take (i := 4) (v := ?_) (by simp only [List.getElem?_toArray, List.getElem?_cons_succ, List.getElem?_cons_zero]; rfl) (by kernel_rfl) (by kernel_rfl) (by kernel_rfl) (by exact fun _ _ _ h => h) (Or.inl ⟨by rfl, ?_⟩) hS ?_
        rotate_left
        · intro w hSw
          go_simp
          try with_reducible rfl
        try simp only [Act.put, List.setIfInBounds_toArray, List.set_cons_zero, List.set_cons_succ]
        refine wpAnyH_take (i := 5) (v := ?_) (by simp only [List.getElem?_toArray, List.getElem?_cons_succ, List.getElem?_cons_zero]; rfl) (by kernel_rfl) (by kernel_rfl) (by kernel_rfl) (by exact fun _ _ _ h => h) (Or.inl ⟨by rfl, ?_⟩) hS ?_
        rotate_left
        · intro w hSw
          go_simp
          try with_reducible rfl
        try simp only [Act.put, List.setIfInBounds_toArray, List.set_cons_zero, List.set_cons_succ]
        refine wpAnyH_take (i := 7) (v := ?_) (by simp only [List.getElem?_toArray, List.getElem?_cons_succ, List.getElem?_cons_zero]; rfl) (by kernel_rfl) (by kernel_rfl) (by kernel_rfl) (by exact fun _ _ _ h => h) (Or.inl ⟨by rfl, ?_⟩) hS ?_
        rotate_left
        · intro w hSw
          go_simp
          try with_reducible rfl
        try simp only [Act.put, List.setIfInBounds_toArray, List.set_cons_zero, List.set_cons_succ]
        refine wpAnyH_take (i := 8) (v := ?_) (by simp only [List.getElem?_toArray, List.getElem?_cons_succ, List.getElem?_cons_zero]; rfl) (by kernel_rfl) (by kernel_rfl) (by kernel_rfl) (by exact fun _ _ _ h => h) (Or.inl ⟨by rfl, ?_⟩) hS ?_
        rotate_left
        · intro w hSw
          go_simp
          try with_reducible rfl
        try simp only [Act.put, List.setIfInBounds_toArray, List.set_cons_zero, List.set_cons_succ]
        refine wpAnyH_take (i := 9) (v := ?_) (by simp only [List.getElem?_toArray, List.getElem?_cons_succ, List.getElem?_cons_zero]; rfl) (by kernel_rfl) (by kernel_rfl) (by kernel_rfl) (by exact fun _ _ _ h => h) (Or.inl ⟨by rfl, ?_⟩) hS ?_
        rotate_left
        · intro w hSw
          go_simp
          try with_reducible rfl
        try simp only [Act.put, List.setIfInBounds_toArray, List.set_cons_zero, List.set_cons_succ]
        refine wpAnyH_take (i := 10) (v := ?_) (by simp only [List.getElem?_toArray, List.getElem?_cons_succ, List.getElem?_cons_zero]; rfl) (by kernel_rfl) (by kernel_rfl) (by kernel_rfl) (by exact fun _ _ _ h => h) (Or.inl ⟨by rfl, ?_⟩) hS ?_
        rotate_left
        · intro w hSw
          go_simp
          try with_reducible rfl
        try simp only [Act.put, List.setIfInBounds_toArray, List.set_cons_zero, List.set_cons_succ]
        refine wpAnyH_take (i := 11) (v := ?_) (by simp only [List.getElem?_toArray, List.getElem?_cons_succ, List.getElem?_cons_zero]; rfl) (by kernel_rfl) (by kernel_rfl) (by kernel_rfl) (by exact fun _ _ _ h => h) (Or.inl ⟨by rfl, ?_⟩) hS ?_
        rotate_left
        · intro w hSw
          go_simp
          try with_reducible rfl
        try simp only [Act.put, List.setIfInBounds_toArray, List.set_cons_zero, List.set_cons_succ]
        refine wpAnyH_take (i := 12) (v := ?_) (by simp only [List.getElem?_toArray, List.getElem?_cons_succ, List.getElem?_cons_zero]; rfl) (by kernel_rfl) (by kernel_rfl) (by kernel_rfl) (by exact fun _ _ _ h => h) (Or.inl ⟨by rfl, ?_⟩) hS ?_
        rotate_left
        · intro w hSw
          go_simp
          try with_reducible rfl
        try simp only [Act.put, List.setIfInBounds_toArray, List.set_cons_zero, List.set_cons_succ]
        refine wpAnyH_ready (rs := [6]) (by kernel_rfl) (by simp) ?_
        refine AllReadyH.cons (by simp only [List.getElem?_toArray, List.getElem?_cons_succ, List.getElem?_cons_zero]; rfl) (fun K hK => ?_) AllReadyH.nil
        go_simp
        go_at_call 12
        refine (H1.out).mono ?_
        rintro e' w5 ⟨rfl, G5, g5'⟩
        have R5 := R3.out.kept g5' hsep.out.2.2.1 hsep.out.2.2.2.1
        have B5 := Lib.hid (GR.out _ _ _ hsep.out.2.2.2.2.1 B3.out g5')
        clear g5'
        refine hK.out _ _ (AL.out _ B5.out) (fun hS => ?_)
        clear hK K
        try simp only [Act.put, List.setIfInBounds_toArray, List.set_cons_zero, List.set_cons_succ]
        refine wpAnyH_ready (rs := [13]) (by kernel_rfl) (by simp) ?_
        refine AllReadyH.cons (by simp only [List.getElem?_toArray, List.getElem?_cons_succ, List.getElem?_cons_zero]; rfl) (fun K hK => ?_) AllReadyH.nil
        go_simp
        go_at_call 13
        refine (H2.out _ R5).mono ?_
        rintro e' w6 ⟨rfl, R6, g6'⟩
        have G6 := Lib.hid (GdQ.Gd.kept G5 g6' hsep.out.1 hsep.out.2.1)
        have B6 := Lib.hid (GR.out _ _ _ hsep.out.2.2.2.2.2 B5.out g6')
        replace R6 := Lib.hid R6
        clear g6'
        refine hK.out _ _ (AL.out _ B6.out) (fun hS => ?_)
        clear hK K
        try simp only [Act.put, List.setIfInBounds_toArray, List.set_cons_zero, List.set_cons_succ]
        refine wpAnyH_take (i := 14) (v := ?_) (by simp only [List.getElem?_toArray, List.getElem?_cons_succ, List.getElem?_cons_zero]; rfl) (by kernel_rfl) (by kernel_rfl) (by kernel_rfl) (by exact fun _ _ _ h => h) (Or.inl ⟨by rfl, ?_⟩) hS ?_
        rotate_left
        · intro w hSw
          go_simp
          try with_reducible rfl
        try simp only [Act.put, List.setIfInBounds_toArray, List.set_cons_zero, List.set_cons_succ]
        refine wpAnyH_done (by kernel_rfl) ?_ _
        have ca := (AL.out _ B6.out).1
        have HLk := Lib.hid (looksW g q r s n L' y.gr _ G6.out R6.out h1 hgr.out)
        go_wp2_with fail
        refine HLk.out.mono ?_
        rintro e' w9 ⟨rfl, b9⟩
        have B9 := Lib.hid (B6.out.trans (b9.mono B6.out.size))
        have G9 := Lib.hid (G6.out.below b9)
        have R9 := Lib.hid (R6.out.below b9)
        go_wp2
        go_roundw
        case rel => exact ⟨j + 1, L', g, q, by omega, by go_num, rfl, hF'.out, G9.out, R9.out, hsep.out, B9.out⟩
        case measure => simp [intOf]; omega
      by_cases o3 : y.op = 3
      · rw [o3] at c0
        have H1 := Lib.hid (powerW g q n L _ hG.out h1)
        have H2 := Lib.hid (fun w (h : Rg w r s n L) => powerR r s n L w h)
        have hF' := Lib.hid (fit_lst hF.out).1
        generalize L.map lst = L' at *
        clear hG hF
        go_wp2_with fail
        refine H1.out.mono ?_
        rintro e' w5 ⟨⟨v5, rfl⟩, G5, g5'⟩
        have R5 := hR.out.kept g5' hsep.out.2.2.1 hsep.out.2.2.2.1
        have B5 := Lib.hid (GR.out _ _ _ hsep.out.2.2.2.2.1 hB.out g5')
        replace H2 := Lib.hid (H2.out _ R5)
        replace G5 := Lib.hid G5
        clear g5' hB hR H1 R5
        go_wp2_with fail
        refine H2.out.mono ?_
        rintro e' w6 ⟨⟨v6, rfl⟩, R6, g6'⟩
        have G6 := Lib.hid (GdQ.Gd.kept G5.out g6' hsep.out.1 hsep.out.2.1)
        have B6 := Lib.hid (GR.out _ _ _ hsep.out.2.2.2.2.2 B5.out g6')
        replace R6 := Lib.hid R6
        clear g6' H2 G5
        have ca := (AL.out _ B6.out).1
        have HLk := Lib.hid (looksW g q r s n L' y.gr _ G6.out R6.out h1 hgr.out)
        go_wp2_with fail
        refine HLk.out.mono ?_
        rintro e' w9 ⟨rfl, b9⟩
        have B9 := Lib.hid (B6.out.trans (b9.mono B6.out.size))
        have G9 := Lib.hid (G6.out.below b9)
        have R9 := Lib.hid (R6.out.below b9)
        go_wp2
        go_roundw
        case rel => exact ⟨j + 1, L', g, q, by omega, by go_num, rfl, hF'.out, G9.out, R9.out, hsep.out, B9.out⟩
        case measure => simp [intOf]; omega
      by_cases o4 : y.op = 4
      · rw [o4] at c0
        have H1 := Lib.hid (lastingW g q n L _ hG.out h1)
        have H2 := Lib.hid (fun w (h : Rg w r s n L) => powerR r s n L w h)
        have hl : Hid ((L.map lst).length = n) := Lib.hid (by simp [hG.out.2.2.2.1])
        have H16 := Lib.hid (fun b l c w hl hr hb => loadW b 0 l n c w hl h1 h2 hr hb)
        have hF' := Lib.hid (fit_lst hF.out)
        generalize L.map lst = L' at *
        clear hG hF
        go_wp2_with fail
        refine H1.out.mono ?_
        rintro e' w5 ⟨g5, c5, rfl, o5, hg5, b5⟩
        have R5 := Lib.hid (hR.out.below b5)
        have B5 := Lib.hid (hB.out.trans (b5.mono hB.out.size))
        have hb5 : g5 < w5.heap.size := (World.ownsRow.lt o5 g5 rfl).2
        have hc5 : ∀ i, i < n → w5.cell? ⟨g5, 0 + i, none⟩ = some (.int .u8 (L'.getD i 0).toNat) := fun i hi => by
          obtain ⟨b', o', e, hh⟩ := (GdT.Own.rd o5).1.2 i (by rw [hl.out]; exact hi)
          injection e with e
          injection e with e1 e2
          subst e1 e2
          exact hh
        replace H16 := Lib.hid (H16.out g5 L' c5 w5 hl.out hc5 hb5)
        clear hc5 hb5 o5 hg5 b5 hB hR H1
        go_wp2_with fail
        refine H16.out.mono ?_
        rintro e' w5' ⟨hw, b5'⟩
        rcases hw with ⟨h, _⟩ | ⟨_, g', q', rfl, G5, hg', hq'⟩
        · rw [hF'.out.2] at h; cases h
        have hsep' : Hid (g' ≠ s ∧ q' ≠ s ∧ r ≠ q' ∧ s ≠ q' ∧ w.heap.size ≤ q' ∧ w.heap.size ≤ s) := Lib.hid (by
          have := R5.out.1.lt
          have := R5.out.2.1.lt
          have := B5.out.size
          have := hsep.out.2.2.2.2.2
          refine ⟨?_, ?_, ?_, ?_, ?_, ?_⟩ <;> omega)
        replace hsep := hsep'
        have B5x := Lib.hid (B5.out.trans (b5'.mono B5.out.size))
        replace H2 := Lib.hid (H2.out _ (R5.out.below b5'))
        replace G5 := Lib.hid G5
        clear hg' hq' b5' R5 B5 hsep' H16
        go_wp2_with fail
        refine H2.out.mono ?_
        rintro e' w6 ⟨⟨v6, rfl⟩, R6, g6'⟩
        have G6 := Lib.hid (GdQ.Gd.kept G5.out g6' hsep.out.1 hsep.out.2.1)
        have B6 := Lib.hid (GR.out _ _ _ hsep.out.2.2.2.2.2 B5x.out g6')
        replace R6 := Lib.hid R6
        clear g6' H2 G5
        have ca := (AL.out _ B6.out).1
        have HLk := Lib.hid (looksW g' q' r s n L' y.gr _ G6.out R6.out h1 hgr.out)
        go_wp2_with fail
        refine HLk.out.mono ?_
        rintro e' w9 ⟨rfl, b9⟩
        have B9 := Lib.hid (B6.out.trans (b9.mono B6.out.size))
        have G9 := Lib.hid (G6.out.below b9)
        have R9 := Lib.hid (R6.out.below b9)
        go_wp2
        go_roundw
        case rel => exact ⟨j + 1, L', g', q', by omega, by go_num, rfl, hF'.out.1, G9.out, R9.out, hsep.out, B9.out⟩
        case measure => simp [intOf]; omega
      · have G6 := hG
        have R6 := hR
        have B6 := hB
        clear hG hR hB
        replace o1 := Lib.hid o1
        obtain ⟨oo, hoo⟩ : ∃ oo, oo = y.op := ⟨_, rfl⟩
        rw [← hoo] at c0 o2 o3 o4
        have o1' : ¬ oo = 1 := by rw [hoo]; exact o1.out
        replace hoo := Lib.hid hoo
        have ca := (AL.out _ B6.out).1
        have HLk := Lib.hid (looksW g q r s n L y.gr _ G6.out R6.out h1 hgr.out)
        go_wp2_with fail
        refine HLk.out.mono ?_
        rintro e' w9 ⟨rfl, b9⟩
        have B9 := Lib.hid (B6.out.trans (b9.mono B6.out.size))
        have G9 := Lib.hid (G6.out.below b9)
        have R9 := Lib.hid (R6.out.below b9)
        go_wp2
        go_roundw
        case rel => exact ⟨j + 1, L, g, q, by omega, by go_num, rfl, hF.out, G9.out, R9.out, hsep.out, B9.out⟩
        case measure => simp [intOf]; omega
    · obtain rfl : j = m := by omega
      replace hB := Lib.hid hB
      replace hG := Lib.hid hG
      go_wp2
      go_ret
      exact ⟨rfl, hB.out⟩

theorem all (z : Int) (a : Option Addr) (l : List GdO.Act) (m c : Nat) (w : World) (hn : l.length = m) (hr : RdA w a l) : Calls Try.prog 3 #[.int .i64 z, .slice a m c] w fun e w' => e = .returned (.bool true) ∧ Below w.heap.size w w' := by
  by_cases h : 300 < m ∨ z < 1 ∨ 256 < z
  · exact GdP.early z a m c w h
  · obtain ⟨n, rfl⟩ := Int.eq_ofNat_of_zero_le (by omega : 0 ≤ z)
    exact law n a l m c w hn hr (by omega) (by omega) (by omega)
end Go.Proofs.Ytleflegbdnmgeaa.GdP
