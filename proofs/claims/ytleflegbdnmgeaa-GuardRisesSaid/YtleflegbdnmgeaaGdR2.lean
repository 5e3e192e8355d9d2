/- The law on kinds that rise: its walk, one case of the place. -/
import Derived.Test.YtleflegbdnmgeaaGdR0
namespace Go.Proofs.Ytleflegbdnmgeaa.GdR2
open Go.ChangeShapes Go.WideShapes Go.ChangeAt Go.RowKit
open GdT GdA GdB GdC GdD GdE GdK GdO GdR0
set_option linter.unusedVariables false
set_option maxHeartbeats 1000000

set_option maxRecDepth 100000 in
theorem law (n : Nat) (at' : Int) (a : Option Addr) (l : List GdO.Act) (m c : Nat) (w : World) (hn : l.length = m) (hr : RdA w a l) (hm : m ≤ 300) (h1 : 1 ≤ n) (h2 : n ≤ 256) (a1 : ¬ at' < 0) (a2 : (n : Int) ≤ at') :
    Calls Try.prog 6 #[.int .i64 n, .slice a m c, .int .i64 at'] w fun e w' => e = .returned (.bool true) ∧ Below w.heap.size w w' := by
  have g1 : ¬ (300 : Int) < (m : Int) := by omega
  have g2 : ¬ ((n : Int) < 1) := by omega
  have g3 : ¬ ((256 : Int) < (n : Int)) := by omega
  have e10 : levelP 1 = 2 := by decide +kernel
  have HL := Lib.hid (fun w => levelW 1 w)
  rw [e10] at HL
  have HB := Lib.hid (fun g q L w (h : Gd w g q n L) => bitsW g q n L at' w h h1)
  have HM := Lib.hid (fun g q L w (h : Gd w g q n L) => mayW g q n L at' w h)
  have HK := Lib.hid (fun g q L k w (h : Gd w g q n L) => kindW g q n L k w h)
  have BV : Hid (∀ L r, (if inN n at' = true ∧ mayP n L at' = false then 1 else 0) = r → bits .and .u32 (bitsP n L at' : Int) 1 = ((r : Nat) : Int)) := Lib.hid fun L r h => by
    rw [and1 _ (bitsP_lt n L at'), bit0 n h2 L at', h]
  replace hr := Lib.hid hr.2
  replace hn := Lib.hid hn
  clear e10
  go_enter Try.func6, Try.ntmps6
  go_wp2_with fail
  refine (known _).mono ?_
  rintro e' w1 ⟨rfl, B1⟩
  replace B1 := Lib.hid B1
  go_wp2_with fail
  refine (newW n _ h1 h2).mono ?_
  rintro e' w2 ⟨g, q, rfl, G2, hg, hq, b2⟩
  have B2 := Lib.hid (B1.out.trans (b2.mono B1.out.size))
  have hqe : w.heap.size ≤ q := Nat.le_trans B1.out.size hq
  have GR : Hid (∀ w2 w3, Below w.heap.size w w2 → w2.grownBy w3 (some q) → Below w.heap.size w w3) := Lib.hid fun w2 w3 hB hG => hB.grown hG hB.size (fun j e => by cases e; exact hqe)
  replace G2 := Lib.hid G2
  clear b2 hg hq
  generalize List.replicate n 0#8 = L0 at *
  go_wp2_with fail
  go_loopw [9] (fun i wr => ∃ (j : Nat) (L : List B8), j ≤ m ∧ i = .int .i64 j ∧ Gd wr g q n L ∧ Below w.heap.size w wr) (fun i _ => m - (intOf i).toNat)
  case atStart => exact ⟨0, _, by omega, rfl, G2.out, B2.out⟩
  case round =>
    clear G2 B2
    obtain ⟨j, L, hj, rfl, hG, hB⟩ := hrel
    by_cases hlt : j < m
    · obtain ⟨bb, off, rfl, hbb, hf, hcell⟩ := hr.out j (by rw [hn.out]; exact hlt)
      obtain ⟨y, hy⟩ : ∃ y, y = l[j]'(by rw [hn.out]; exact hlt) := ⟨_, rfl⟩
      rw [← hy] at hf hcell
      have hlt' : (j : Int) < (m : Int) := by omega
      have AL : Hid (∀ w', Below w.heap.size w w' → w'.cell? ⟨bb, off + j * 3 + 2, none⟩ = some (.int .i64 y.kd)) := Lib.hid fun w' h => (h.cell (p := ⟨bb, off + j * 3 + 2, none⟩) hbb).trans (hcell 2 _ rfl)
      have c0 : wr.cell? ⟨bb, off + j * 3, none⟩ = some (.int .i64 y.op) := (hB.cell (p := ⟨bb, off + j * 3, none⟩) hbb).trans (hcell 0 _ rfl)
      have c1 : wr.cell? ⟨bb, off + j * 3 + 1, none⟩ = some (.int .i64 y.gr) := (hB.cell (p := ⟨bb, off + j * 3 + 1, none⟩) hbb).trans (hcell 1 _ rfl)
      have c2 : wr.cell? ⟨bb, off + j * 3 + 2, none⟩ = some (.int .i64 y.kd) := AL.out _ hB
      clear hy hcell hf
      have hL := hG.2.2.2.1
      replace hL := Lib.hid hL
      have HWas := Lib.hid (HK.out g q L y.gr _ hG)
      replace hG := Lib.hid hG
      replace hB := Lib.hid hB
      go_wp2_with fail
      refine HWas.out.mono ?_
      rintro e' w3 ⟨rfl, h3⟩
      obtain rfl := h3.symm
      clear HWas
      by_cases o1 : y.op = 1
      · rw [o1] at c0
        have HSt := Lib.hid (setW g q n L y.gr y.kd _ hG.out)
        have hk := Lib.hid (set_kind n L y.gr y.kd hL.out)
        by_cases hE : setE n y.gr y.kd = 0
        · rw [hE] at HSt
          obtain ⟨k1, k2⟩ := hk.out hE
          clear hk hE hL
          generalize setL n L y.gr y.kd = L' at *
          have HK' := Lib.hid (fun w' (h : Gd w' g q n L') => HK.out g q L' y.gr w' h)
          generalize kindP n L' y.gr = kn at *
          generalize kindP n L y.gr = ko at *
          have k1' : ¬ kn < ko := by omega
          have k2' : ¬ kn < y.kd := by omega
          have k1b : decide (kn < ko) = false := by simpa using k1'
          have k2b : decide (kn < y.kd) = false := by simpa using k2'
          go_wp2_with fail
          refine HSt.out.mono ?_
          rintro e' w5 ⟨rfl, G5, g5'⟩
          have B5 := Lib.hid (GR.out _ _ hB.out g5')
          have B6 : Hid (Below w.heap.size w w5.drew) := Lib.hid B5.out.drew
          have G6 : Hid (Gd w5.drew g q n L') := Lib.hid (G5.below (Below.refl _ _).drew)
          clear g5' hG hB G5 B5 c0 c1 c2 HSt k1 k2
          go_wp2_with fail
          refine wp_region_held_drew (S := fun w' => w'.cell? ⟨bb, off + j * 3 + 2, none⟩ = some (.int .i64 y.kd)) (by kernel_rfl) (AL.out _ B6.out) (fun hS => ?_)
          refine wpAnyH_take (i := 0) (v := ?_) (by simp only [List.getElem?_toArray, List.getElem?_cons_succ, List.getElem?_cons_zero]; rfl) (by kernel_rfl) (by kernel_rfl) (by kernel_rfl) (by exact fun _ _ _ h => h) (Or.inl ⟨by rfl, ?_⟩) hS ?_
          rotate_left
          · intro w hSw
            go_simp
            try with_reducible rfl
          try simp only [Act.put, List.setIfInBounds_toArray, List.set_cons_zero, List.set_cons_succ]
          refine wpAnyH_take (i := 1) (v := ?_) (by simp only [List.getElem?_toArray, List.getElem?_cons_succ, List.getElem?_cons_zero]; rfl) (by kernel_rfl) (by kernel_rfl) (by kernel_rfl) (by exact fun _ _ _ h => h) (Or.inl ⟨by rfl, ?_⟩) hS ?_
          rotate_left
          · intro w hSw
            go_simp
            try with_reducible rfl
          try simp only [Act.put, List.setIfInBounds_toArray, List.set_cons_zero, List.set_cons_succ]
          refine wpAnyH_take (i := 2) (v := ?_) (by simp only [List.getElem?_toArray, List.getElem?_cons_succ, List.getElem?_cons_zero]; rfl) (by kernel_rfl) (by kernel_rfl) (by kernel_rfl) (by exact fun _ _ _ h => h) (Or.inl ⟨by rfl, ?_⟩) hS ?_
          rotate_left
          · intro w hSw
            go_simp
            try with_reducible rfl
          try simp only [Act.put, List.setIfInBounds_toArray, List.set_cons_zero, List.set_cons_succ]
          refine wpAnyH_take (i := 3) (v := ?_) (by simp only [List.getElem?_toArray, List.getElem?_cons_succ, List.getElem?_cons_zero]; rfl) (by kernel_rfl) (by kernel_rfl) (by kernel_rfl) (by exact fun _ _ _ h => h) (Or.inl ⟨by rfl, ?_⟩) hS ?_
          rotate_left
          · intro w hSw
            go_simp
            try with_reducible rfl
          try simp only [Act.put, List.setIfInBounds_toArray, List.set_cons_zero, List.set_cons_succ]
          refine wpAnyH_take (i := 4) (v := ?_) (by simp only [List.getElem?_toArray, List.getElem?_cons_succ, List.getElem?_cons_zero]; rfl) (by kernel_rfl) (by kernel_rfl) (by kernel_rfl) (by exact fun _ _ _ h => h) (Or.inl ⟨by rfl, ?_⟩) hS ?_
          rotate_left
          · intro w hSw
            go_simp
            try with_reducible rfl
          try simp only [Act.put, List.setIfInBounds_toArray, List.set_cons_zero, List.set_cons_succ]
          refine wpAnyH_take (i := 6) (v := ?_) (by simp only [List.getElem?_toArray, List.getElem?_cons_succ, List.getElem?_cons_zero]; rfl) (by kernel_rfl) (by kernel_rfl) (by kernel_rfl) (by exact fun _ _ _ h => h) (Or.inl ⟨by rfl, ?_⟩) hS ?_
          rotate_left
          · intro w hSw
            go_simp
            try with_reducible rfl
          try simp only [Act.put, List.setIfInBounds_toArray, List.set_cons_zero, List.set_cons_succ]
          refine wpAnyH_ready (rs := [5]) (by kernel_rfl) (by simp) ?_
          refine AllReadyH.cons (by simp only [List.getElem?_toArray, List.getElem?_cons_succ, List.getElem?_cons_zero]; rfl) (fun K hK => ?_) AllReadyH.nil
          go_simp
          go_at_call 23
          refine (HK'.out _ G6.out).mono ?_
          rintro e' w6 ⟨rfl, h6⟩
          obtain rfl := h6.symm
          refine hK.out _ _ (hS) (fun hS => ?_)
          clear hK K
          try simp only [Act.put, List.setIfInBounds_toArray, List.set_cons_zero, List.set_cons_succ]
          refine wpAnyH_take (i := 7) (v := ?_) (by simp only [List.getElem?_toArray, List.getElem?_cons_succ, List.getElem?_cons_zero]; rfl) (by kernel_rfl) (by kernel_rfl) (by kernel_rfl) (by exact fun _ _ _ h => h) (Or.inl ⟨by rfl, ?_⟩) hS ?_
          rotate_left
          · intro w hSw
            go_simp
            try with_reducible rfl
          try simp only [Act.put, List.setIfInBounds_toArray, List.set_cons_zero, List.set_cons_succ]
          refine wpAnyH_take (i := 8) (v := ?_) (by simp only [List.getElem?_toArray, List.getElem?_cons_succ, List.getElem?_cons_zero]; rfl) (by kernel_rfl) (by kernel_rfl) (by kernel_rfl) (by exact fun _ _ _ h => h) (Or.inl ⟨by rfl, ?_⟩) hS ?_
          rotate_left
          · intro w hSw
            go_simp
            try with_reducible rfl
          try simp only [Act.put, List.setIfInBounds_toArray, List.set_cons_zero, List.set_cons_succ]
          refine wpAnyH_take (i := 9) (v := ?_) (by simp only [List.getElem?_toArray, List.getElem?_cons_succ, List.getElem?_cons_zero]; rfl) (by kernel_rfl) (by kernel_rfl) (by kernel_rfl) (by exact fun _ _ _ h => h) (Or.inl ⟨by rfl, ?_⟩) hS ?_
          rotate_left
          · intro w hSw
            go_simp
            try with_reducible rfl
          try simp only [Act.put, List.setIfInBounds_toArray, List.set_cons_zero, List.set_cons_succ]
          refine wpAnyH_take (i := 10) (v := ?_) (by simp only [List.getElem?_toArray, List.getElem?_cons_succ, List.getElem?_cons_zero]; rfl) (by kernel_rfl) (by kernel_rfl) (by kernel_rfl) (by exact fun _ _ _ h => h) (Or.inl ⟨by rfl, ?_⟩) hS ?_
          rotate_left
          · intro w hSw
            go_simp
            try with_reducible rfl
          try simp only [Act.put, List.setIfInBounds_toArray, List.set_cons_zero, List.set_cons_succ]
          refine wpAnyH_take (i := 12) (v := ?_) (by simp only [List.getElem?_toArray, List.getElem?_cons_succ, List.getElem?_cons_zero]; rfl) (by kernel_rfl) (by kernel_rfl) (by kernel_rfl) (by exact fun _ _ _ h => h) (Or.inl ⟨by rfl, ?_⟩) hS ?_
          rotate_left
          · intro w hSw
            go_simp
            try with_reducible rfl
          try simp only [Act.put, List.setIfInBounds_toArray, List.set_cons_zero, List.set_cons_succ]
          refine wpAnyH_take (i := 13) (v := ?_) (by simp only [List.getElem?_toArray, List.getElem?_cons_succ, List.getElem?_cons_zero]; rfl) (by kernel_rfl) (by kernel_rfl) (by kernel_rfl) (by exact fun _ _ _ h => h) (Or.inl ⟨by rfl, ?_⟩) hS ?_
          rotate_left
          · intro w hSw
            go_simp
            try with_reducible rfl
          try simp only [Act.put, List.setIfInBounds_toArray, List.set_cons_zero, List.set_cons_succ]
          refine wpAnyH_take (i := 14) (v := ?_) (by simp only [List.getElem?_toArray, List.getElem?_cons_succ, List.getElem?_cons_zero]; rfl) (by kernel_rfl) (by kernel_rfl) (by kernel_rfl) (by exact fun _ _ _ h => h) (Or.inl ⟨by rfl, ?_⟩) hS ?_
          rotate_left
          · intro w hSw
            go_simp
            try with_reducible rfl
          try simp only [Act.put, List.setIfInBounds_toArray, List.set_cons_zero, List.set_cons_succ]
          refine wpAnyH_take (i := 15) (v := ?_) (by simp only [List.getElem?_toArray, List.getElem?_cons_succ, List.getElem?_cons_zero]; rfl) (by kernel_rfl) (by kernel_rfl) (by kernel_rfl) (by exact fun _ _ _ h => h) (Or.inl ⟨by rfl, ?_⟩) hS ?_
          rotate_left
          · intro w hSw
            go_simp
            try with_reducible rfl
          try simp only [Act.put, List.setIfInBounds_toArray, List.set_cons_zero, List.set_cons_succ]
          refine wpAnyH_take (i := 16) (v := ?_) (by simp only [List.getElem?_toArray, List.getElem?_cons_succ, List.getElem?_cons_zero]; rfl) (by kernel_rfl) (by kernel_rfl) (by kernel_rfl) (by exact fun _ _ _ h => h) (Or.inl ⟨by rfl, ?_⟩) hS ?_
          rotate_left
          · intro w hSw
            go_simp
            try with_reducible rfl
          try simp only [Act.put, List.setIfInBounds_toArray, List.set_cons_zero, List.set_cons_succ]
          refine wpAnyH_ready (rs := [11]) (by kernel_rfl) (by simp) ?_
          refine AllReadyH.cons (by simp only [List.getElem?_toArray, List.getElem?_cons_succ, List.getElem?_cons_zero]; rfl) (fun K hK => ?_) AllReadyH.nil
          go_simp
          go_at_call 23
          refine (HK'.out _ G6.out).mono ?_
          rintro e' w7 ⟨rfl, h7⟩
          obtain rfl := h7.symm
          refine hK.out _ _ (hS) (fun hS => ?_)
          clear hK K
          try simp only [Act.put, List.setIfInBounds_toArray, List.set_cons_zero, List.set_cons_succ]
          refine wpAnyH_take (i := 17) (v := ?_) (by simp only [List.getElem?_toArray, List.getElem?_cons_succ, List.getElem?_cons_zero]; rfl) (by kernel_rfl) (by kernel_rfl) (by kernel_rfl) (by exact fun _ _ _ h => h) (Or.inl ⟨by rfl, ?_⟩) hS ?_
          rotate_left
          · intro w hSw
            go_simp
            try with_reducible rfl
          try simp only [Act.put, List.setIfInBounds_toArray, List.set_cons_zero, List.set_cons_succ]
          refine wpAnyH_take (i := 18) (v := ?_) (by simp only [List.getElem?_toArray, List.getElem?_cons_succ, List.getElem?_cons_zero]; rfl) (by kernel_rfl) (by kernel_rfl) (by kernel_rfl) (by exact fun _ _ _ h => h) (Or.inl ⟨by rfl, ?_⟩) hS ?_
          rotate_left
          · intro w hSw
            go_simp
            try with_reducible rfl
          try simp only [Act.put, List.setIfInBounds_toArray, List.set_cons_zero, List.set_cons_succ]
          refine wpAnyH_take (i := 19) (v := ?_) (by simp only [List.getElem?_toArray, List.getElem?_cons_succ, List.getElem?_cons_zero]; rfl) (by kernel_rfl) (by kernel_rfl) (by kernel_rfl) (by exact fun _ _ _ h => h) (Or.inl ⟨by rfl, ?_⟩) hS ?_
          rotate_left
          · intro w hSw
            go_simp
            try with_reducible rfl
          try simp only [Act.put, List.setIfInBounds_toArray, List.set_cons_zero, List.set_cons_succ]
          refine wpAnyH_done (by kernel_rfl) ?_ _
          have hin := inN_out (n := n) (.inr a2)
          have a2' : ¬ at' < (n : Int) := by omega
          have hv := BV.out L' 0 (by rw [hin]; rfl)
          have HB1 := Lib.hid (HB.out g q L' _ G6.out)
          have HM1 := Lib.hid (fun w' (h : Gd w' g q n L') => HM.out g q L' w' h)
          have hvl := bitsP_lt n L' at'
          generalize bitsP n L' at' = v at *
          have hv2 : (v : Int) % 2 = 0 := by
            have hx := hv
            rw [and1' v hvl] at hx
            omega
          go_wp2_with fail
          refine HB1.out.mono ?_
          rintro e' w8 ⟨rfl, b8⟩
          have G8 := Lib.hid (G6.out.below b8)
          have B8 := Lib.hid (B6.out.trans (b8.mono B6.out.size))
          clear b8
          go_wp2
          go_roundw
          case rel => exact ⟨j + 1, L', by omega, by go_num, G8.out, B8.out⟩
          case measure => simp [intOf]; omega
        · have hE' : (setE n y.gr y.kd == 0) = false := by simpa using hE
          clear hk hL
          generalize setL n L y.gr y.kd = L' at *
          generalize setE n y.gr y.kd = E' at *
          generalize kindP n L y.gr = ko at *
          go_wp2_with fail
          refine HSt.out.mono ?_
          rintro e' w5 ⟨rfl, G5, g5'⟩
          have B5 := Lib.hid (GR.out _ _ hB.out g5')
          have B6 : Hid (Below w.heap.size w w5.drew) := Lib.hid B5.out.drew
          have G6 : Hid (Gd w5.drew g q n L') := Lib.hid (G5.below (Below.refl _ _).drew)
          clear g5' hG hB G5 B5 c0 c1 c2 HSt
          go_wp2_with fail
          refine wp_region_held_drew (S := fun w' => w'.cell? ⟨bb, off + j * 3 + 2, none⟩ = some (.int .i64 y.kd)) (by kernel_rfl) (AL.out _ B6.out) (fun hS => ?_)
          refine wpAnyH_take (i := 0) (v := ?_) (by simp only [List.getElem?_toArray, List.getElem?_cons_succ, List.getElem?_cons_zero]; rfl) (by kernel_rfl) (by kernel_rfl) (by kernel_rfl) (by exact fun _ _ _ h => h) (Or.inl ⟨by rfl, ?_⟩) hS ?_
          rotate_left
          · intro w hSw
            go_simp
            try with_reducible rfl
          try simp only [Act.put, List.setIfInBounds_toArray, List.set_cons_zero, List.set_cons_succ]
          refine wpAnyH_take (i := 1) (v := ?_) (by simp only [List.getElem?_toArray, List.getElem?_cons_succ, List.getElem?_cons_zero]; rfl) (by kernel_rfl) (by kernel_rfl) (by kernel_rfl) (by exact fun _ _ _ h => h) (Or.inl ⟨by rfl, ?_⟩) hS ?_
          rotate_left
          · intro w hSw
            go_simp
            try with_reducible rfl
          try simp only [Act.put, List.setIfInBounds_toArray, List.set_cons_zero, List.set_cons_succ]
          refine wpAnyH_take (i := 2) (v := ?_) (by simp only [List.getElem?_toArray, List.getElem?_cons_succ, List.getElem?_cons_zero]; rfl) (by kernel_rfl) (by kernel_rfl) (by kernel_rfl) (by exact fun _ _ _ h => h) (Or.inl ⟨by rfl, ?_⟩) hS ?_
          rotate_left
          · intro w hSw
            go_simp
            try with_reducible rfl
          try simp only [Act.put, List.setIfInBounds_toArray, List.set_cons_zero, List.set_cons_succ]
          refine wpAnyH_take (i := 3) (v := undef) (by simp only [List.getElem?_toArray, List.getElem?_cons_succ, List.getElem?_cons_zero]; rfl) (by kernel_rfl) (by kernel_rfl) (by kernel_rfl) (by exact fun _ _ _ h => h) (Or.inr ⟨by rfl, rfl⟩) hS ?_
          try simp only [Act.put, List.setIfInBounds_toArray, List.set_cons_zero, List.set_cons_succ]
          refine wpAnyH_take (i := 4) (v := undef) (by simp only [List.getElem?_toArray, List.getElem?_cons_succ, List.getElem?_cons_zero]; rfl) (by kernel_rfl) (by kernel_rfl) (by kernel_rfl) (by exact fun _ _ _ h => h) (Or.inr ⟨by rfl, rfl⟩) hS ?_
          try simp only [Act.put, List.setIfInBounds_toArray, List.set_cons_zero, List.set_cons_succ]
          refine wpAnyH_take (i := 5) (v := undef) (by simp only [List.getElem?_toArray, List.getElem?_cons_succ, List.getElem?_cons_zero]; rfl) (by kernel_rfl) (by kernel_rfl) (by kernel_rfl) (by exact fun _ _ _ h => h) (Or.inr ⟨by rfl, rfl⟩) hS ?_
          try simp only [Act.put, List.setIfInBounds_toArray, List.set_cons_zero, List.set_cons_succ]
          refine wpAnyH_take (i := 6) (v := undef) (by simp only [List.getElem?_toArray, List.getElem?_cons_succ, List.getElem?_cons_zero]; rfl) (by kernel_rfl) (by kernel_rfl) (by kernel_rfl) (by exact fun _ _ _ h => h) (Or.inr ⟨by rfl, rfl⟩) hS ?_
          try simp only [Act.put, List.setIfInBounds_toArray, List.set_cons_zero, List.set_cons_succ]
          refine wpAnyH_take (i := 7) (v := undef) (by simp only [List.getElem?_toArray, List.getElem?_cons_succ, List.getElem?_cons_zero]; rfl) (by kernel_rfl) (by kernel_rfl) (by kernel_rfl) (by exact fun _ _ _ h => h) (Or.inr ⟨by rfl, rfl⟩) hS ?_
          try simp only [Act.put, List.setIfInBounds_toArray, List.set_cons_zero, List.set_cons_succ]
          refine wpAnyH_take (i := 8) (v := undef) (by simp only [List.getElem?_toArray, List.getElem?_cons_succ, List.getElem?_cons_zero]; rfl) (by kernel_rfl) (by kernel_rfl) (by kernel_rfl) (by exact fun _ _ _ h => h) (Or.inr ⟨by rfl, rfl⟩) hS ?_
          try simp only [Act.put, List.setIfInBounds_toArray, List.set_cons_zero, List.set_cons_succ]
          refine wpAnyH_take (i := 9) (v := undef) (by simp only [List.getElem?_toArray, List.getElem?_cons_succ, List.getElem?_cons_zero]; rfl) (by kernel_rfl) (by kernel_rfl) (by kernel_rfl) (by exact fun _ _ _ h => h) (Or.inr ⟨by rfl, rfl⟩) hS ?_
          try simp only [Act.put, List.setIfInBounds_toArray, List.set_cons_zero, List.set_cons_succ]
          refine wpAnyH_take (i := 10) (v := undef) (by simp only [List.getElem?_toArray, List.getElem?_cons_succ, List.getElem?_cons_zero]; rfl) (by kernel_rfl) (by kernel_rfl) (by kernel_rfl) (by exact fun _ _ _ h => h) (Or.inr ⟨by rfl, rfl⟩) hS ?_
          try simp only [Act.put, List.setIfInBounds_toArray, List.set_cons_zero, List.set_cons_succ]
          refine wpAnyH_take (i := 11) (v := undef) (by simp only [List.getElem?_toArray, List.getElem?_cons_succ, List.getElem?_cons_zero]; rfl) (by kernel_rfl) (by kernel_rfl) (by kernel_rfl) (by exact fun _ _ _ h => h) (Or.inr ⟨by rfl, rfl⟩) hS ?_
          try simp only [Act.put, List.setIfInBounds_toArray, List.set_cons_zero, List.set_cons_succ]
          refine wpAnyH_take (i := 12) (v := undef) (by simp only [List.getElem?_toArray, List.getElem?_cons_succ, List.getElem?_cons_zero]; rfl) (by kernel_rfl) (by kernel_rfl) (by kernel_rfl) (by exact fun _ _ _ h => h) (Or.inr ⟨by rfl, rfl⟩) hS ?_
          try simp only [Act.put, List.setIfInBounds_toArray, List.set_cons_zero, List.set_cons_succ]
          refine wpAnyH_take (i := 13) (v := undef) (by simp only [List.getElem?_toArray, List.getElem?_cons_succ, List.getElem?_cons_zero]; rfl) (by kernel_rfl) (by kernel_rfl) (by kernel_rfl) (by exact fun _ _ _ h => h) (Or.inr ⟨by rfl, rfl⟩) hS ?_
          try simp only [Act.put, List.setIfInBounds_toArray, List.set_cons_zero, List.set_cons_succ]
          refine wpAnyH_take (i := 14) (v := undef) (by simp only [List.getElem?_toArray, List.getElem?_cons_succ, List.getElem?_cons_zero]; rfl) (by kernel_rfl) (by kernel_rfl) (by kernel_rfl) (by exact fun _ _ _ h => h) (Or.inr ⟨by rfl, rfl⟩) hS ?_
          try simp only [Act.put, List.setIfInBounds_toArray, List.set_cons_zero, List.set_cons_succ]
          refine wpAnyH_take (i := 15) (v := undef) (by simp only [List.getElem?_toArray, List.getElem?_cons_succ, List.getElem?_cons_zero]; rfl) (by kernel_rfl) (by kernel_rfl) (by kernel_rfl) (by exact fun _ _ _ h => h) (Or.inr ⟨by rfl, rfl⟩) hS ?_
          try simp only [Act.put, List.setIfInBounds_toArray, List.set_cons_zero, List.set_cons_succ]
          refine wpAnyH_take (i := 16) (v := undef) (by simp only [List.getElem?_toArray, List.getElem?_cons_succ, List.getElem?_cons_zero]; rfl) (by kernel_rfl) (by kernel_rfl) (by kernel_rfl) (by exact fun _ _ _ h => h) (Or.inr ⟨by rfl, rfl⟩) hS ?_
          try simp only [Act.put, List.setIfInBounds_toArray, List.set_cons_zero, List.set_cons_succ]
          refine wpAnyH_take (i := 17) (v := undef) (by simp only [List.getElem?_toArray, List.getElem?_cons_succ, List.getElem?_cons_zero]; rfl) (by kernel_rfl) (by kernel_rfl) (by kernel_rfl) (by exact fun _ _ _ h => h) (Or.inr ⟨by rfl, rfl⟩) hS ?_
          try simp only [Act.put, List.setIfInBounds_toArray, List.set_cons_zero, List.set_cons_succ]
          refine wpAnyH_take (i := 18) (v := undef) (by simp only [List.getElem?_toArray, List.getElem?_cons_succ, List.getElem?_cons_zero]; rfl) (by kernel_rfl) (by kernel_rfl) (by kernel_rfl) (by exact fun _ _ _ h => h) (Or.inr ⟨by rfl, rfl⟩) hS ?_
          try simp only [Act.put, List.setIfInBounds_toArray, List.set_cons_zero, List.set_cons_succ]
          refine wpAnyH_take (i := 19) (v := ?_) (by simp only [List.getElem?_toArray, List.getElem?_cons_succ, List.getElem?_cons_zero]; rfl) (by kernel_rfl) (by kernel_rfl) (by kernel_rfl) (by exact fun _ _ _ h => h) (Or.inl ⟨by rfl, ?_⟩) hS ?_
          rotate_left
          · intro w hSw
            go_simp
            try with_reducible rfl
          try simp only [Act.put, List.setIfInBounds_toArray, List.set_cons_zero, List.set_cons_succ]
          refine wpAnyH_done (by kernel_rfl) ?_ _
          have hin := inN_out (n := n) (.inr a2)
          have a2' : ¬ at' < (n : Int) := by omega
          have hv := BV.out L' 0 (by rw [hin]; rfl)
          have HB1 := Lib.hid (HB.out g q L' _ G6.out)
          have HM1 := Lib.hid (fun w' (h : Gd w' g q n L') => HM.out g q L' w' h)
          have hvl := bitsP_lt n L' at'
          generalize bitsP n L' at' = v at *
          have hv2 : (v : Int) % 2 = 0 := by
            have hx := hv
            rw [and1' v hvl] at hx
            omega
          go_wp2_with fail
          refine HB1.out.mono ?_
          rintro e' w8 ⟨rfl, b8⟩
          have G8 := Lib.hid (G6.out.below b8)
          have B8 := Lib.hid (B6.out.trans (b8.mono B6.out.size))
          clear b8
          go_wp2
          go_roundw
          case rel => exact ⟨j + 1, L', by omega, by go_num, G8.out, B8.out⟩
          case measure => simp [intOf]; omega
      by_cases o2 : y.op = 2
      · rw [o2] at c0
        have HC := Lib.hid (clearW g q n L y.gr _ hG.out)
        obtain ⟨k1, k2⟩ := clr_kind n L y.gr hL.out
        clear hL
        by_cases hE : clrE n L y.gr = 0
        · have hk := k1 hE
          rw [hE] at HC
          clear k1 k2 hE
          generalize clrL n L y.gr = L' at *
          have HK' := Lib.hid (fun w' (h : Gd w' g q n L') => HK.out g q L' y.gr w' h)
          rw [hk] at HK'
          clear hk
          generalize kindP n L y.gr = ko at *
          go_wp2_with fail
          refine HC.out.mono ?_
          rintro e' w5 ⟨rfl, G5, g5'⟩
          have B5 := Lib.hid (GR.out _ _ hB.out g5')
          replace G5 := Lib.hid G5
          clear g5' hG hB c0 c1 c2 HC
          go_wp2_with fail
          refine (HK'.out _ G5.out).mono ?_
          rintro e' w6 ⟨rfl, h6⟩
          obtain rfl := h6.symm
          have hin := inN_out (n := n) (.inr a2)
          have a2' : ¬ at' < (n : Int) := by omega
          have hv := BV.out L' 0 (by rw [hin]; rfl)
          have HB1 := Lib.hid (HB.out g q L' _ G5.out)
          have HM1 := Lib.hid (fun w' (h : Gd w' g q n L') => HM.out g q L' w' h)
          have hvl := bitsP_lt n L' at'
          generalize bitsP n L' at' = v at *
          have hv2 : (v : Int) % 2 = 0 := by
            have hx := hv
            rw [and1' v hvl] at hx
            omega
          go_wp2_with fail
          refine HB1.out.mono ?_
          rintro e' w8 ⟨rfl, b8⟩
          have G8 := Lib.hid (G5.out.below b8)
          have B8 := Lib.hid (B5.out.trans (b8.mono B5.out.size))
          clear b8
          go_wp2
          go_roundw
          case rel => exact ⟨j + 1, L', by omega, by go_num, G8.out, B8.out⟩
          case measure => simp [intOf]; omega
        · have hk := k2 hE
          have hE' : (clrE n L y.gr == 0) = false := by simpa using hE
          clear k1 k2
          generalize clrL n L y.gr = L' at *
          generalize clrE n L y.gr = E' at *
          have HK' := Lib.hid (fun w' (h : Gd w' g q n L') => HK.out g q L' y.gr w' h)
          rw [hk] at HK'
          clear hk
          generalize kindP n L y.gr = ko at *
          have hko : (ko != ko) = false := by simp
          have hE2 : (E' != 0) = true := by simpa using hE
          go_wp2_with fail
          refine HC.out.mono ?_
          rintro e' w5 ⟨rfl, G5, g5'⟩
          have B5 := Lib.hid (GR.out _ _ hB.out g5')
          replace G5 := Lib.hid G5
          clear g5' hG hB c0 c1 c2 HC
          go_wp2_with fail
          refine (HK'.out _ G5.out).mono ?_
          rintro e' w6 ⟨rfl, h6⟩
          obtain rfl := h6.symm
          have hin := inN_out (n := n) (.inr a2)
          have a2' : ¬ at' < (n : Int) := by omega
          have hv := BV.out L' 0 (by rw [hin]; rfl)
          have HB1 := Lib.hid (HB.out g q L' _ G5.out)
          have HM1 := Lib.hid (fun w' (h : Gd w' g q n L') => HM.out g q L' w' h)
          have hvl := bitsP_lt n L' at'
          generalize bitsP n L' at' = v at *
          have hv2 : (v : Int) % 2 = 0 := by
            have hx := hv
            rw [and1' v hvl] at hx
            omega
          go_wp2_with fail
          refine HB1.out.mono ?_
          rintro e' w8 ⟨rfl, b8⟩
          have G8 := Lib.hid (G5.out.below b8)
          have B8 := Lib.hid (B5.out.trans (b8.mono B5.out.size))
          clear b8
          go_wp2
          go_roundw
          case rel => exact ⟨j + 1, L', by omega, by go_num, G8.out, B8.out⟩
          case measure => simp [intOf]; omega
      by_cases o3 : y.op = 3
      · rw [o3] at c0
        have HP := Lib.hid (powerW g q n L _ hG.out h1)
        have hk := lst_kind n L y.gr
        clear hL
        generalize L.map lst = L' at *
        have HK' := Lib.hid (fun w' (h : Gd w' g q n L') => HK.out g q L' y.gr w' h)
        generalize kindP n L' y.gr = kn at *
        generalize kindP n L y.gr = ko at *
        go_wp2_with fail
        refine HP.out.mono ?_
        rintro e' w5 ⟨⟨v5, rfl⟩, G5, g5'⟩
        have B5 := Lib.hid (GR.out _ _ hB.out g5')
        replace G5 := Lib.hid G5
        clear g5' hG hB c0 c1 c2 HP
        go_wp2_with fail
        refine (HK'.out _ G5.out).mono ?_
        rintro e' w6 ⟨rfl, h6⟩
        obtain rfl := h6.symm
        go_wp2_with fail
        refine (HL.out _).mono ?_
        rintro e' w7 ⟨rfl, h7⟩
        obtain rfl := h7.symm
        have hin := inN_out (n := n) (.inr a2)
        have a2' : ¬ at' < (n : Int) := by omega
        have hv := BV.out L' 0 (by rw [hin]; rfl)
        have HB1 := Lib.hid (HB.out g q L' _ G5.out)
        have HM1 := Lib.hid (fun w' (h : Gd w' g q n L') => HM.out g q L' w' h)
        have hvl := bitsP_lt n L' at'
        generalize bitsP n L' at' = v at *
        have hv2 : (v : Int) % 2 = 0 := by
          have hx := hv
          rw [and1' v hvl] at hx
          omega
        go_wp2_with fail
        refine HB1.out.mono ?_
        rintro e' w8 ⟨rfl, b8⟩
        have G8 := Lib.hid (G5.out.below b8)
        have B8 := Lib.hid (B5.out.trans (b8.mono B5.out.size))
        clear b8
        go_wp2
        go_roundw
        case rel => exact ⟨j + 1, L', by omega, by go_num, G8.out, B8.out⟩
        case measure => simp [intOf]; omega
      have hin := inN_out (n := n) (.inr a2)
      have a2' : ¬ at' < (n : Int) := by omega
      have hv := BV.out L 0 (by rw [hin]; rfl)
      have HB1 := Lib.hid (HB.out g q L _ hG.out)
      have HM1 := Lib.hid (fun w' (h : Gd w' g q n L) => HM.out g q L w' h)
      have hvl := bitsP_lt n L at'
      generalize bitsP n L at' = v at *
      have hv2 : (v : Int) % 2 = 0 := by
        have hx := hv
        rw [and1' v hvl] at hx
        omega
      go_wp2_with fail
      refine HB1.out.mono ?_
      rintro e' w8 ⟨rfl, b8⟩
      have G8 := Lib.hid (hG.out.below b8)
      have B8 := Lib.hid (hB.out.trans (b8.mono hB.out.size))
      clear b8
      go_wp2
      go_roundw
      case rel => exact ⟨j + 1, L, by omega, by go_num, G8.out, B8.out⟩
      case measure => simp [intOf]; omega
    · obtain rfl : j = m := by omega
      clear hG
      replace hB := Lib.hid hB
      go_wp2
      go_ret
      exact ⟨rfl, hB.out⟩
end Go.Proofs.Ytleflegbdnmgeaa.GdR2
