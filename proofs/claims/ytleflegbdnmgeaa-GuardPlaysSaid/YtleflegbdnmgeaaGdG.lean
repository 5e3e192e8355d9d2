/- The law on what is protected for good: its walk. -/
import Derived.Test.YtleflegbdnmgeaaGdO
namespace Go.Proofs.Ytleflegbdnmgeaa.GdG
open Go.ChangeShapes Go.WideShapes Go.ChangeAt Go.RowKit
open GdT GdA GdB GdC GdD GdE GdK GdO
set_option linter.unusedVariables false
set_option maxHeartbeats 1000000

def Is3 (L : List B8) (K : Nat) : Prop := L.getD K 0 = 3
theorem set_is3 {n : Nat} {L : List B8} {K : Nat} (h : Is3 L K) (x kd : Int) : Is3 (setL n L x kd) K := by
  unfold setL
  split
  · rename_i he
    unfold setE at he
    have hx : inN n x = true ∧ ¬ (kd < 1 ∨ 3 < kd) := by
      revert he
      split
      · intro h; cases h
      · split
        · intro h; cases h
        · rename_i h1 h2
          intro _
          exact ⟨by simpa using h1, h2⟩
    unfold Is3 at *
    rw [List.getD_eq_getElem?_getD, List.getElem?_set]
    by_cases e : x.toNat = K
    · rw [if_pos e]
      by_cases hl : x.toNat < L.length
      · rw [if_pos hl, e]
        have h3 : (3 : B8).toNat = 3 := rfl
        rw [h, h3, if_neg (by omega)]
        rfl
      · rw [if_neg hl]
        rw [List.getD_eq_getElem?_getD, List.getElem?_eq_none (by omega)] at h
        exact h
    · rw [if_neg e, ← List.getD_eq_getElem?_getD]
      exact h
  · exact h
theorem clr_is3 {n : Nat} {L : List B8} {K : Nat} (h : Is3 L K) (x : Int) : Is3 (clrL n L x) K ∧ (clrE n L x = 0 → x ≠ (K : Int)) := by
  have hin : clrE n L x = 0 → inN n x = true ∧ ¬ 1 < (L.getD x.toNat 0).toNat := by
    intro he
    unfold clrE at he
    revert he
    split
    · intro h; cases h
    · split
      · intro h; cases h
      · rename_i h1 h2
        intro _
        exact ⟨by simpa using h1, h2⟩
  have key : clrE n L x = 0 → x.toNat ≠ K := by
    intro he e
    have := (hin he).2
    unfold Is3 at h
    rw [e, h] at this
    exact this (by decide)
  refine ⟨?_, fun he e => key he (by rw [e]; exact Int.toNat_natCast K)⟩
  unfold clrL
  split
  · rename_i he
    unfold Is3 at *
    rw [List.getD_eq_getElem?_getD, List.getElem?_set, if_neg (key he), ← List.getD_eq_getElem?_getD]
    exact h
  · exact h
theorem lst_is3 {L : List B8} {K : Nat} (h : Is3 L K) : Is3 (L.map lst) K := by
  unfold Is3 at *
  rw [List.getD_eq_getElem?_getD, List.getElem?_map]
  rw [List.getD_eq_getElem?_getD] at h
  cases hl : L[K]? with
  | none => rw [hl] at h; cases h
  | some y =>
    rw [hl] at h
    have : y = 3 := h
    subst this
    rfl

theorem early (n k : Int) (a : Option Addr) (m c : Nat) (w : World) (h : 300 < m ∨ n < 1 ∨ 256 < n ∨ k < 0 ∨ n ≤ k) : Calls Try.prog 5 #[.int .i64 n, .int .i64 k, .slice a m c] w fun e w' => e = .returned (.bool true) ∧ Below w.heap.size w w' := by
  by_cases h1 : 300 < m
  · have h1' : (300 : Int) < (m : Int) := by omega
    go_enter Try.func5, Try.ntmps5
    go_wp2_with fail
    refine (known _).mono ?_
    rintro e' w1 ⟨rfl, B1⟩
    go_wp2
    go_ret
    exact ⟨rfl, B1⟩
  have h1' : ¬ (300 : Int) < (m : Int) := by omega
  by_cases h2 : n < 1
  · go_enter Try.func5, Try.ntmps5
    go_wp2_with fail
    refine (known _).mono ?_
    rintro e' w1 ⟨rfl, B1⟩
    go_wp2
    go_ret
    exact ⟨rfl, B1⟩
  by_cases h3 : 256 < n
  · go_enter Try.func5, Try.ntmps5
    go_wp2_with fail
    refine (known _).mono ?_
    rintro e' w1 ⟨rfl, B1⟩
    go_wp2
    go_ret
    exact ⟨rfl, B1⟩
  by_cases h4 : k < 0
  · go_enter Try.func5, Try.ntmps5
    go_wp2_with fail
    refine (known _).mono ?_
    rintro e' w1 ⟨rfl, B1⟩
    go_wp2
    go_ret
    exact ⟨rfl, B1⟩
  have h5 : n ≤ k := by omega
  go_enter Try.func5, Try.ntmps5
  go_wp2_with fail
  refine (known _).mono ?_
  rintro e' w1 ⟨rfl, B1⟩
  go_wp2
  go_ret
  exact ⟨rfl, B1⟩

set_option maxRecDepth 100000 in
theorem law (n K : Nat) (a : Option Addr) (l : List GdO.Act) (m c : Nat) (w : World) (hn : l.length = m) (hr : RdA w a l) (hm : m ≤ 300) (h1 : 1 ≤ n) (h2 : n ≤ 256) (hK : K < n) :
    Calls Try.prog 5 #[.int .i64 n, .int .i64 K, .slice a m c] w fun e w' => e = .returned (.bool true) ∧ Below w.heap.size w w' := by
  have g1 : ¬ (300 : Int) < (m : Int) := by omega
  have g2 : ¬ ((n : Int) < 1) := by omega
  have g3 : ¬ ((256 : Int) < (n : Int)) := by omega
  have g4 : ¬ ((K : Int) < 0) := by omega
  have g5 : ¬ ((n : Int) ≤ (K : Int)) := by omega
  have e10 : levelP 2 = 3 := by decide +kernel
  have HL := Lib.hid (fun w => levelW 2 w)
  rw [e10] at HL
  have e1 : setE n K 3 = 0 := by unfold setE; rw [inN_nat hK]; rfl
  have HS := Lib.hid (fun g q w (h : Gd w g q n (List.replicate n 0#8)) => setW g q n _ K 3 w h)
  rw [e1] at HS
  have e2 : Is3 (setL n (List.replicate n 0#8) K 3) K := by
    unfold setL Is3
    rw [e1, if_pos rfl, Int.toNat_natCast, List.getD_eq_getElem?_getD, List.getElem?_set, if_pos rfl, if_pos (by simpa using hK)]
    have hz : (List.replicate n 0#8).getD K 0 = 0 := by simp [List.getElem?_replicate, hK]
    rw [hz]
    rfl
  generalize setL n (List.replicate n 0#8) K 3 = L0 at *
  have HM := Lib.hid (fun g q L w (h : Gd w g q n L) => mayW g q n L K w h)
  have HK := Lib.hid (fun g q L w (h : Gd w g q n L) => kindW g q n L K w h)
  have hmay : Hid (∀ L, Is3 L K → mayP n L K = false ∧ kindP n L K = 3) := Lib.hid fun L h => by
    unfold Is3 at h
    unfold mayP kindP
    rw [inN_nat hK, Int.toNat_natCast, h]
    exact ⟨by decide, rfl⟩
  replace e2 := Lib.hid e2
  replace hr := Lib.hid hr.2
  replace hn := Lib.hid hn
  clear e10 e1
  go_enter Try.func5, Try.ntmps5
  go_wp2_with fail
  refine (known _).mono ?_
  rintro e' w1 ⟨rfl, B1⟩
  replace B1 := Lib.hid B1
  go_wp2_with fail
  refine (newW n _ h1 h2).mono ?_
  rintro e' w2 ⟨g, q, rfl, G2, hg, hq, b2⟩
  have B2 := Lib.hid (B1.out.trans (b2.mono B1.out.size))
  have hqe : w.heap.size ≤ q := Nat.le_trans B1.out.size hq
  have GR : Hid (∀ w2 w3, Below w.heap.size w w2 → w2.grownBy w3 (some q) → Below w.heap.size w w3) := Lib.hid fun w2 w3 hB hG => hB.grown hG hB.size (fun j e => by cases e; exact hqe)
  replace G2 := Lib.hid G2
  clear b2 hg hq
  go_wp2_with fail
  refine (HL.out _).mono ?_
  rintro e' w3 ⟨rfl, h3⟩
  obtain rfl := h3.symm
  go_wp2_with fail
  refine (HS.out _ _ _ G2.out).mono ?_
  rintro e' w4 ⟨rfl, G4, g4'⟩
  have B4 := Lib.hid (GR.out _ _ B2.out g4')
  replace G4 := Lib.hid G4
  clear g4' G2 B2
  go_wp2_with fail
  go_loopw [9] (fun i wr => ∃ (j : Nat) (L : List B8), j ≤ m ∧ i = .int .i64 j ∧ Is3 L K ∧ Gd wr g q n L ∧ Below w.heap.size w wr) (fun i _ => m - (intOf i).toNat)
  case atStart => exact ⟨0, _, by omega, rfl, e2.out, G4.out, B4.out⟩
  case round =>
    clear e2 G4 B4 HS HL
    obtain ⟨j, L, hj, rfl, hI, hG, hB⟩ := hrel
    by_cases hlt : j < m
    · obtain ⟨bb, off, rfl, hbb, hf, hcell⟩ := hr.out j (by rw [hn.out]; exact hlt)
      obtain ⟨y, hy⟩ : ∃ y, y = l[j]'(by rw [hn.out]; exact hlt) := ⟨_, rfl⟩
      rw [← hy] at hf hcell
      have hlt' : (j : Int) < (m : Int) := by omega
      have AL : Hid (∀ w', Below w.heap.size w w' → w'.cell? ⟨bb, off + j * 3 + 1, none⟩ = some (.int .i64 y.gr) ∧ w'.cell? ⟨bb, off + j * 3 + 2, none⟩ = some (.int .i64 y.kd)) := Lib.hid fun w' h => ⟨(h.cell (p := ⟨bb, off + j * 3 + 1, none⟩) hbb).trans (hcell 1 _ rfl), (h.cell (p := ⟨bb, off + j * 3 + 2, none⟩) hbb).trans (hcell 2 _ rfl)⟩
      have c0 : wr.cell? ⟨bb, off + j * 3, none⟩ = some (.int .i64 y.op) := (hB.cell (p := ⟨bb, off + j * 3, none⟩) hbb).trans (hcell 0 _ rfl)
      clear hy hcell hf
      replace hI := Lib.hid hI
      replace hG := Lib.hid hG
      replace hB := Lib.hid hB
      by_cases o1 : y.op = 1
      · rw [o1] at c0
        have DD : Hid (Below wr.heap.size wr wr.drew) := Lib.hid (Below.refl _ _).drew
        have B3 : Hid (Below w.heap.size w wr.drew) := Lib.hid hB.out.drew
        have G3 := Lib.hid (hG.out.below DD.out)
        have HSt := Lib.hid (setW g q n L y.gr y.kd _ G3.out)
        have hI' := Lib.hid (set_is3 (n := n) hI.out y.gr y.kd)
        clear hG hI hB DD
        generalize setL n L y.gr y.kd = L' at *
        generalize setE n y.gr y.kd = E' at *
        go_wp2_with fail
        refine wp_region_held_drew (S := fun w' => w'.cell? ⟨bb, off + j * 3 + 1, none⟩ = some (.int .i64 y.gr) ∧ w'.cell? ⟨bb, off + j * 3 + 2, none⟩ = some (.int .i64 y.kd)) (by kernel_rfl) (AL.out _ B3.out) (fun hS => ?_)
        refine wpAnyH_take (i := 0) (v := ?_) (by simp only [List.getElem?_toArray, List.getElem?_cons_succ, List.getElem?_cons_zero]; rfl) (by kernel_rfl) (by kernel_rfl) (by kernel_rfl) (by exact fun _ _ _ h => h) (Or.inl ⟨by rfl, ?_⟩) hS ?_
        rotate_left
        · intro w hSw
          go_simp
          try with_reducible rfl
        try simp only [Act.put, List.setIfInBounds_toArray, List.set_cons_zero, List.set_cons_succ]
        refine wpAnyH_take (i := 1) (v := ?_) (by simp only [List.getElem?_toArray, List.getElem?_cons_succ, List.getElem?_cons_zero]; rfl) (by kernel_rfl) (by kernel_rfl) (by kernel_rfl) (by exact fun _ _ _ h => h) (Or.inl ⟨by rfl, ?_⟩) hS ?_
        rotate_left
        · intro w hSw
          go_simp
          try with_reducible rfl
        try simp only [Act.put, List.setIfInBounds_toArray, List.set_cons_zero, List.set_cons_succ]
        refine wpAnyH_take (i := 2) (v := ?_) (by simp only [List.getElem?_toArray, List.getElem?_cons_succ, List.getElem?_cons_zero]; rfl) (by kernel_rfl) (by kernel_rfl) (by kernel_rfl) (by exact fun _ _ _ h => h) (Or.inl ⟨by rfl, ?_⟩) hS ?_
        rotate_left
        · intro w hSw
          go_simp
          try with_reducible rfl
        try simp only [Act.put, List.setIfInBounds_toArray, List.set_cons_zero, List.set_cons_succ]
        refine wpAnyH_take (i := 3) (v := ?_) (by simp only [List.getElem?_toArray, List.getElem?_cons_succ, List.getElem?_cons_zero]; rfl) (by kernel_rfl) (by kernel_rfl) (by kernel_rfl) (by exact fun _ _ _ h => h) (Or.inl ⟨by rfl, ?_⟩) hS ?_
        rotate_left
        · intro w hSw
          go_simp
          try with_reducible rfl
        try simp only [Act.put, List.setIfInBounds_toArray, List.set_cons_zero, List.set_cons_succ]
        refine wpAnyH_take (i := 4) (v := ?_) (by simp only [List.getElem?_toArray, List.getElem?_cons_succ, List.getElem?_cons_zero]; rfl) (by kernel_rfl) (by kernel_rfl) (by kernel_rfl) (by exact fun _ _ _ h => h) (Or.inl ⟨by rfl, ?_⟩) hS ?_
        rotate_left
        · intro w hSw
          go_simp
          try with_reducible rfl
        try simp only [Act.put, List.setIfInBounds_toArray, List.set_cons_zero, List.set_cons_succ]
        refine wpAnyH_take (i := 5) (v := ?_) (by simp only [List.getElem?_toArray, List.getElem?_cons_succ, List.getElem?_cons_zero]; rfl) (by kernel_rfl) (by kernel_rfl) (by kernel_rfl) (by exact fun _ _ _ h => h) (Or.inl ⟨by rfl, ?_⟩) hS ?_
        rotate_left
        · intro w hSw
          go_simp
          try with_reducible rfl
        try simp only [Act.put, List.setIfInBounds_toArray, List.set_cons_zero, List.set_cons_succ]
        refine wpAnyH_take (i := 6) (v := ?_) (by simp only [List.getElem?_toArray, List.getElem?_cons_succ, List.getElem?_cons_zero]; rfl) (by kernel_rfl) (by kernel_rfl) (by kernel_rfl) (by exact fun _ _ _ h => h) (Or.inl ⟨by rfl, ?_⟩) hS ?_
        rotate_left
        · intro w hSw
          go_simp
          try with_reducible rfl
        try simp only [Act.put, List.setIfInBounds_toArray, List.set_cons_zero, List.set_cons_succ]
        refine wpAnyH_take (i := 7) (v := ?_) (by simp only [List.getElem?_toArray, List.getElem?_cons_succ, List.getElem?_cons_zero]; rfl) (by kernel_rfl) (by kernel_rfl) (by kernel_rfl) (by exact fun _ _ _ h => h) (Or.inl ⟨by rfl, ?_⟩) hS ?_
        rotate_left
        · intro w hSw
          go_simp
          try with_reducible rfl
        try simp only [Act.put, List.setIfInBounds_toArray, List.set_cons_zero, List.set_cons_succ]
        refine wpAnyH_take (i := 8) (v := ?_) (by simp only [List.getElem?_toArray, List.getElem?_cons_succ, List.getElem?_cons_zero]; rfl) (by kernel_rfl) (by kernel_rfl) (by kernel_rfl) (by exact fun _ _ _ h => h) (Or.inl ⟨by rfl, ?_⟩) hS ?_
        rotate_left
        · intro w hSw
          go_simp
          try with_reducible rfl
        try simp only [Act.put, List.setIfInBounds_toArray, List.set_cons_zero, List.set_cons_succ]
        refine wpAnyH_take (i := 9) (v := ?_) (by simp only [List.getElem?_toArray, List.getElem?_cons_succ, List.getElem?_cons_zero]; rfl) (by kernel_rfl) (by kernel_rfl) (by kernel_rfl) (by exact fun _ _ _ h => h) (Or.inl ⟨by rfl, ?_⟩) hS ?_
        rotate_left
        · intro w hSw
          go_simp
          try with_reducible rfl
        try simp only [Act.put, List.setIfInBounds_toArray, List.set_cons_zero, List.set_cons_succ]
        refine wpAnyH_take (i := 10) (v := ?_) (by simp only [List.getElem?_toArray, List.getElem?_cons_succ, List.getElem?_cons_zero]; rfl) (by kernel_rfl) (by kernel_rfl) (by kernel_rfl) (by exact fun _ _ _ h => h) (Or.inl ⟨by rfl, ?_⟩) hS ?_
        rotate_left
        · intro w hSw
          go_simp
          try with_reducible rfl
        try simp only [Act.put, List.setIfInBounds_toArray, List.set_cons_zero, List.set_cons_succ]
        refine wpAnyH_ready (rs := [11]) (by kernel_rfl) (by simp) ?_
        refine AllReadyH.cons (by simp only [List.getElem?_toArray, List.getElem?_cons_succ, List.getElem?_cons_zero]; rfl) (fun K hK => ?_) AllReadyH.nil
        go_simp
        go_at_call 10
        refine (HSt.out).mono ?_
        rintro e' w5 ⟨rfl, G5, g5'⟩
        replace G5 := Lib.hid G5
        have B5 := Lib.hid (GR.out _ _ B3.out g5')
        refine hK.out _ _ (AL.out _ B5.out) (fun hS => ?_)
        clear hK K
        try simp only [Act.put, List.setIfInBounds_toArray, List.set_cons_zero, List.set_cons_succ]
        refine wpAnyH_done (by kernel_rfl) ?_ _
        have m1 := (hmay.out L' hI'.out).1
        have m2 := (hmay.out L' hI'.out).2
        have HM1 := Lib.hid (HM.out g q L' _ G5.out)
        have HK1 := Lib.hid (HK.out g q L' _ G5.out)
        rw [m1] at HM1
        rw [m2] at HK1
        clear m1 m2
        go_wp2_with fail
        refine HM1.out.mono ?_
        rintro e' w7 ⟨rfl, h7⟩
        obtain rfl := h7.symm
        go_wp2_with fail
        refine HK1.out.mono ?_
        rintro e' w8 ⟨rfl, h8⟩
        obtain rfl := h8.symm
        go_wp2
        go_roundw
        case rel => exact ⟨j + 1, L', by omega, by go_num, hI'.out, G5.out, B5.out⟩
        case measure => simp [intOf]; omega
      by_cases o2 : y.op = 2
      · rw [o2] at c0
        have HC := Lib.hid (clearW g q n L y.gr _ hG.out)
        have c1 := (AL.out _ hB.out).1
        obtain ⟨k1, k2⟩ := clr_is3 (n := n) hI.out y.gr
        have hI' := Lib.hid k1
        clear hG hI k1
        generalize clrL n L y.gr = L' at *
        by_cases hE : clrE n L y.gr = 0
        · have hne := k2 hE
          rw [hE] at HC
          clear k2 hE
          go_wp2_with fail
          refine HC.out.mono ?_
          rintro e' w5 ⟨rfl, G5, g5'⟩
          replace G5 := Lib.hid G5
          have B5 := Lib.hid (GR.out _ _ hB.out g5')
          have c5 := (AL.out _ B5.out).1
          clear g5' hB
          have m1 := (hmay.out L' hI'.out).1
          have m2 := (hmay.out L' hI'.out).2
          have HM1 := Lib.hid (HM.out g q L' _ G5.out)
          have HK1 := Lib.hid (HK.out g q L' _ G5.out)
          rw [m1] at HM1
          rw [m2] at HK1
          clear m1 m2
          go_wp2_with fail
          refine HM1.out.mono ?_
          rintro e' w7 ⟨rfl, h7⟩
          obtain rfl := h7.symm
          go_wp2_with fail
          refine HK1.out.mono ?_
          rintro e' w8 ⟨rfl, h8⟩
          obtain rfl := h8.symm
          go_wp2
          go_roundw
          case rel => exact ⟨j + 1, L', by omega, by go_num, hI'.out, G5.out, B5.out⟩
          case measure => simp [intOf]; omega
        · clear k2
          generalize clrE n L y.gr = E' at *
          go_wp2_with fail
          refine HC.out.mono ?_
          rintro e' w5 ⟨rfl, G5, g5'⟩
          replace G5 := Lib.hid G5
          have B5 := Lib.hid (GR.out _ _ hB.out g5')
          clear g5' hB
          have m1 := (hmay.out L' hI'.out).1
          have m2 := (hmay.out L' hI'.out).2
          have HM1 := Lib.hid (HM.out g q L' _ G5.out)
          have HK1 := Lib.hid (HK.out g q L' _ G5.out)
          rw [m1] at HM1
          rw [m2] at HK1
          clear m1 m2
          go_wp2_with fail
          refine HM1.out.mono ?_
          rintro e' w7 ⟨rfl, h7⟩
          obtain rfl := h7.symm
          go_wp2_with fail
          refine HK1.out.mono ?_
          rintro e' w8 ⟨rfl, h8⟩
          obtain rfl := h8.symm
          go_wp2
          go_roundw
          case rel => exact ⟨j + 1, L', by omega, by go_num, hI'.out, G5.out, B5.out⟩
          case measure => simp [intOf]; omega
      by_cases o3 : y.op = 3
      · rw [o3] at c0
        have HP := Lib.hid (powerW g q n L _ hG.out h1)
        have hI' := Lib.hid (lst_is3 hI.out)
        clear hG hI
        generalize L.map lst = L' at *
        go_wp2_with fail
        refine HP.out.mono ?_
        rintro e' w5 ⟨⟨v5, rfl⟩, G5, g5'⟩
        replace G5 := Lib.hid G5
        have B5 := Lib.hid (GR.out _ _ hB.out g5')
        clear g5' hB
        have m1 := (hmay.out L' hI'.out).1
        have m2 := (hmay.out L' hI'.out).2
        have HM1 := Lib.hid (HM.out g q L' _ G5.out)
        have HK1 := Lib.hid (HK.out g q L' _ G5.out)
        rw [m1] at HM1
        rw [m2] at HK1
        clear m1 m2
        go_wp2_with fail
        refine HM1.out.mono ?_
        rintro e' w7 ⟨rfl, h7⟩
        obtain rfl := h7.symm
        go_wp2_with fail
        refine HK1.out.mono ?_
        rintro e' w8 ⟨rfl, h8⟩
        obtain rfl := h8.symm
        go_wp2
        go_roundw
        case rel => exact ⟨j + 1, L', by omega, by go_num, hI'.out, G5.out, B5.out⟩
        case measure => simp [intOf]; omega
      have m1 := (hmay.out L hI.out).1
      have m2 := (hmay.out L hI.out).2
      have HM1 := Lib.hid (HM.out g q L _ hG.out)
      have HK1 := Lib.hid (HK.out g q L _ hG.out)
      rw [m1] at HM1
      rw [m2] at HK1
      clear m1 m2
      go_wp2_with fail
      refine HM1.out.mono ?_
      rintro e' w7 ⟨rfl, h7⟩
      obtain rfl := h7.symm
      go_wp2_with fail
      refine HK1.out.mono ?_
      rintro e' w8 ⟨rfl, h8⟩
      obtain rfl := h8.symm
      go_wp2
      go_roundw
      case rel => exact ⟨j + 1, L, by omega, by go_num, hI.out, hG.out, hB.out⟩
      case measure => simp [intOf]; omega
    · obtain rfl : j = m := by omega
      clear hG hI
      replace hB := Lib.hid hB
      go_wp2
      go_ret
      exact ⟨rfl, hB.out⟩
theorem all (n k : Int) (a : Option Addr) (l : List GdO.Act) (m c : Nat) (w : World) (hn : l.length = m) (hr : RdA w a l) : Calls Try.prog 5 #[.int .i64 n, .int .i64 k, .slice a m c] w fun e w' => e = .returned (.bool true) ∧ Below w.heap.size w w' := by
  by_cases h : 300 < m ∨ n < 1 ∨ 256 < n ∨ k < 0 ∨ n ≤ k
  · exact early n k a m c w h
  · obtain ⟨N, rfl⟩ := Int.eq_ofNat_of_zero_le (by omega : 0 ≤ n)
    obtain ⟨K, rfl⟩ := Int.eq_ofNat_of_zero_le (by omega : 0 ≤ k)
    exact law N K a l m c w hn hr (by omega) (by omega) (by omega) (by omega)
end Go.Proofs.Ytleflegbdnmgeaa.GdG
