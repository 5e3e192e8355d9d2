/- The law on the idle state: its walk. -/
import Derived.Test.YtddmodiogjnhmaaPhO
namespace Go.Proofs.Ytddmodiogjnhmaa.PhI
open Go.ChangeShapes Go.WideShapes Go.ChangeAt Go.RowKit
open PhM PhA PhB PhC PhD PhE PhR PhS PhO
set_option linter.unusedVariables false
set_option maxHeartbeats 1000000

def Known (s : Int) : Prop := s = 0 ∨ s = 1 ∨ s = 2 ∨ s = 3 ∨ s = 4 ∨ s = 6
theorem known_L : ∀ p ∈ L4, p.2 = 0 ∨ p.2 = 1 ∨ p.2 = 2 ∨ p.2 = 3 ∨ p.2 = 4 ∨ p.2 = 6 := by decide +kernel
theorem nx_known (s i : Int) (m : Bool) (hs : Known s) : Known (nx s i m).1 := by
  rw [← tell_nx]
  unfold tellN
  split
  · rename_i x hx
    exact known_L _ (lk_mem _ _ _ hx)
  · exact hs
theorem W_of {z : Int} (h : -9223372036854775808 ≤ z ∧ z ≤ 9223372036854775807) : W z := by
  unfold W
  simpa [Lit.wf, IntKind.min, IntKind.max, IntKind.signed, IntKind.bits] using h
def OKM (M : Mch) : Prop := Known M.s ∧ (M.s ≠ 6 → M.l = 0) ∧ (M.s = 6 → 1 ≤ M.l ∧ M.l ≤ 64) ∧ 0 ≤ M.a ∧ M.a ≤ 65535
theorem OKM.W {M : Mch} (h : OKM M) : PhA.W M.s := W_of (by have := h.1; unfold Known at this; omega)
theorem OKM.go {M : Mch} (h : OKM M) (i arg : Int) (h0 : 0 ≤ arg) (h1 : arg ≤ 4294967295) : OKM (goM M i arg) := by
  unfold goM
  split
  · refine ⟨nx_known _ _ _ h.1, ?_, ?_, ?_⟩
    · intro e
      unfold enterP at e ⊢
      simp only at e ⊢
      rw [if_neg e]
    · intro e
      unfold enterP at e ⊢
      simp only at e ⊢
      rw [if_pos e]
      split
      · rename_i e6
        exact h.2.2.1 e6
      · omega
    · unfold enterP
      simp only
      split
      · omega
      · exact h.2.2.2
  · exact h
theorem OKM.start : OKM ⟨0, 0, 0⟩ := ⟨Or.inl rfl, fun _ => rfl, fun h => absurd h (by decide), by decide, by decide⟩

theorem go_idle (M : Mch) (h : OKM M) : goM M 0 0 = ⟨0, M.a, 0⟩ ∧ goA M 0 0 = false ∧ (nx M.s 0 (mineP M 0)).2 = true := by
  have e : nx M.s 0 (mineP M 0) = (0, true) := by
    have := h.1
    unfold Known at this
    simp [nx, this]
  refine ⟨?_, ?_, ?_⟩
  · unfold goM; rw [e]; simp [enterP]
  · unfold goA; rw [e]; rfl
  · rw [e]
theorem nx_idle (i : Int) (m : Bool) : (nx 0 i m).2 = decide (i = 0 ∨ i = 1) := by
  unfold nx
  by_cases h0 : i = 0
  · simp [h0]
  · by_cases h1 : i = 1
    · simp [h1]
    · simp [h0, h1]
def cmd4 : List Int := [1, 2, 3, 7]
def MI (a ad : Int) : Nat → Mch
  | 0 => ⟨0, a, 0⟩
  | 1 => ⟨1, a, 0⟩
  | 2 => ⟨2, a, 0⟩
  | 3 => ⟨3, ad, 0⟩
  | _ => ⟨4, ad, 0⟩
theorem mi_go (a ad : Int) (h0 : 0 ≤ ad) (h1 : ad ≤ 65535) (k : Nat) (h : k < 4) : goM (MI a ad k) (cmd4.getD k 0) (ad * 65536) = MI a ad (k + 1) ∧ (nx (MI a ad k).s (cmd4.getD k 0) (mineP (MI a ad k) (ad * 65536))).2 = true ∧ W (MI a ad k).s ∧ W (cmd4.getD k 0) := by
  have e : ad * 65536 / 65536 = ad := by omega
  match k, h with
  | 0, _ => exact ⟨by simp [goM, MI, cmd4, nx, enterP], by simp [MI, cmd4, nx], rfl, rfl⟩
  | 1, _ => exact ⟨by simp [goM, MI, cmd4, nx, enterP], by simp [MI, cmd4, nx], rfl, rfl⟩
  | 2, _ => exact ⟨by simp [goM, MI, cmd4, nx, enterP, e], by simp [MI, cmd4, nx], rfl, rfl⟩
  | 3, _ => exact ⟨by simp [goM, MI, cmd4, nx, standN, enterP, mineP, e], by simp [MI, cmd4, nx, standN, mineP, e], rfl, rfl⟩

theorem early (a : Option Addr) (n c : Nat) (ad : Int) (w : World) (h : 400 < n) : Calls Try.prog 6 #[.slice a n c, .int .u16 ad] w fun e w' => e = .returned (.bool true) ∧ Below w.heap.size w w' := by
  have h' : (400 : Int) < (n : Int) := by omega
  go_enter Try.func6, Try.ntmps6
  go_wp2_with fail
  refine (known _).mono ?_
  rintro e' w1 ⟨rfl, B1⟩
  go_wp2
  go_ret
  exact ⟨rfl, B1⟩

theorem xorN (A : Nat) (h : A ≤ 65535) : bits .xor .u32 ((A : Int) * 65536) 65536 = (((A ^^^ 1) * 65536 : Nat) : Int) := by
  have e1 : ((A : Int) * 65536) = ((A * 65536 : Nat) : Int) := by omega
  have e2 : (65536 : Int) = ((65536 : Nat) : Int) := rfl
  rw [e1, e2, u32_xor_nat _ _ (by omega) (by omega)]
  congr 1
  have : A * 65536 = A <<< 16 := by rw [Nat.shiftLeft_eq]
  rw [this, show (65536 : Nat) = 1 <<< 16 from rfl, ← Nat.shiftLeft_xor_distrib, Nat.shiftLeft_eq]
  rfl
theorem xor1 (A : Nat) : A ^^^ 1 ≠ A := by
  intro h
  have := congrArg (· ^^^ A) h
  simp [Nat.xor_comm A 1, Nat.xor_assoc] at this

set_option maxRecDepth 100000 in
theorem law (a : Option Addr) (l : List PhO.Act) (n c : Nat) (A : Nat) (w : World) (hn : l.length = n) (hr : RdA w a l) (hle : n ≤ 400) (hA : A ≤ 65535) :
    Calls Try.prog 6 #[.slice a n c, .int .u16 A] w fun e w' => e = .returned (.bool true) ∧ Below w.heap.size w w' := by
  have hgt : ¬ (400 : Int) < (n : Int) := by omega
  replace hr := Lib.hid hr.2
  replace hn := Lib.hid hn
  go_enter Try.func6, Try.ntmps6
  go_wp2_with fail
  refine (known _).mono ?_
  rintro e' w1 ⟨rfl, B1⟩
  replace B1 := Lib.hid B1
  go_wp2_with fail
  refine (newW _).mono ?_
  rintro e' w2 ⟨g, b, rfl, K2, hg, hb, b2⟩
  have B2 := Lib.hid (B1.out.trans (b2.mono B1.out.size))
  have hge : w.heap.size ≤ g := Nat.le_trans B1.out.size hg
  replace K2 := Lib.hid K2
  have GR : Hid (∀ w2 w3, Below w.heap.size w w2 → w2.grownBy w3 (some g) → Below w.heap.size w w3) := Lib.hid fun w2 w3 hB hG => hB.grown hG hB.size (fun j e => by cases e; exact hge)
  clear b2 hg hb
  go_wp2_with fail
  go_loopw [6] (fun i wr => ∃ (k : Nat) (M : Mch), k ≤ n ∧ i = .int .i64 k ∧ OKM M ∧ Mach wr g b M ∧ Below w.heap.size w wr) (fun i _ => n - (intOf i).toNat)
  case atStart => exact ⟨0, _, by omega, rfl, OKM.start, K2.out, B2.out⟩
  case round =>
    clear K2 B2
    obtain ⟨k, M, hk, rfl, hO, hK, hB⟩ := hrel
    by_cases hlt : k < n
    · obtain ⟨bb, off, rfl, hbb, hf, hcell⟩ := hr.out k (by rw [hn.out]; exact hlt)
      obtain ⟨y, hy⟩ : ∃ y, y = l[k]'(by rw [hn.out]; exact hlt) := ⟨_, rfl⟩
      rw [← hy] at hf hcell
      have hlt' : (k : Int) < (n : Int) := by omega
      have AL : Hid (∀ w', Below w.heap.size w w' → w'.cell? ⟨bb, off + k * 5 + 1, none⟩ = some (.int .i64 y.ix) ∧ w'.cell? ⟨bb, off + k * 5 + 2, none⟩ = some (.int .u32 y.arg)) := Lib.hid fun w' h => ⟨(h.cell (p := ⟨bb, off + k * 5 + 1, none⟩) hbb).trans (hcell 1 _ rfl), (h.cell (p := ⟨bb, off + k * 5 + 2, none⟩) hbb).trans (hcell 2 _ rfl)⟩
      have c0 : wr.cell? ⟨bb, off + k * 5, none⟩ = some (.int .i64 y.op) := (hB.cell (p := ⟨bb, off + k * 5, none⟩) hbb).trans (hcell 0 _ rfl)
      obtain ⟨f1, f2, f3, f4⟩ := hf
      have harg : 0 ≤ y.arg ∧ y.arg ≤ 4294967295 := by simpa [Lit.wf, IntKind.min, IntKind.max, IntKind.signed, IntKind.bits] using f3
      have HG := Lib.hid (fun w' (h : Mach w' g b M) => goW g b M y.ix y.arg w' h harg.1 harg.2 hO.W f2)
      have HO := Lib.hid (hO.go y.ix y.arg harg.1 harg.2)
      have K3 : Hid (Mach wr.drew g b M) := Lib.hid (hK.below (Below.refl _ _).drew)
      have B3 : Hid (Below w.heap.size w wr.drew) := Lib.hid hB.drew
      replace hO := Lib.hid hO
      replace hK := Lib.hid hK
      replace hB := Lib.hid hB
      clear hy hcell f1 f2 f3 f4 harg
      by_cases ho : y.op = 1
      · rw [ho] at c0
        go_wp2_with fail
        refine wp_region_held_drew (S := fun w' => w'.cell? ⟨bb, off + k * 5 + 1, none⟩ = some (.int .i64 y.ix) ∧ w'.cell? ⟨bb, off + k * 5 + 2, none⟩ = some (.int .u32 y.arg)) (by kernel_rfl) (AL.out _ B3.out) (fun hS => ?_)
        refine wpAnyH_take (i := 0) (v := ?_) (by simp only [List.getElem?_toArray, List.getElem?_cons_succ, List.getElem?_cons_zero]; rfl) (by kernel_rfl) (by kernel_rfl) (by kernel_rfl) (by exact fun _ _ _ h => h) (Or.inl ⟨by rfl, ?_⟩) hS ?_
        rotate_left
        · intro w hSw
          go_simp
          try with_reducible rfl
        try simp only [Act.put, List.setIfInBounds_toArray, List.set_cons_zero, List.set_cons_succ]
        refine wpAnyH_take (i := 1) (v := ?_) (by simp only [List.getElem?_toArray, List.getElem?_cons_succ, List.getElem?_cons_zero]; rfl) (by kernel_rfl) (by kernel_rfl) (by kernel_rfl) (by exact fun _ _ _ h => h) (Or.inl ⟨by rfl, ?_⟩) hS ?_
        rotate_left
        · intro w hSw
          go_simp
          try with_reducible rfl
        try simp only [Act.put, List.setIfInBounds_toArray, List.set_cons_zero, List.set_cons_succ]
        refine wpAnyH_take (i := 2) (v := ?_) (by simp only [List.getElem?_toArray, List.getElem?_cons_succ, List.getElem?_cons_zero]; rfl) (by kernel_rfl) (by kernel_rfl) (by kernel_rfl) (by exact fun _ _ _ h => h) (Or.inl ⟨by rfl, ?_⟩) hS ?_
        rotate_left
        · intro w hSw
          go_simp
          try with_reducible rfl
        try simp only [Act.put, List.setIfInBounds_toArray, List.set_cons_zero, List.set_cons_succ]
        refine wpAnyH_take (i := 3) (v := ?_) (by simp only [List.getElem?_toArray, List.getElem?_cons_succ, List.getElem?_cons_zero]; rfl) (by kernel_rfl) (by kernel_rfl) (by kernel_rfl) (by exact fun _ _ _ h => h) (Or.inl ⟨by rfl, ?_⟩) hS ?_
        rotate_left
        · intro w hSw
          go_simp
          try with_reducible rfl
        try simp only [Act.put, List.setIfInBounds_toArray, List.set_cons_zero, List.set_cons_succ]
        refine wpAnyH_take (i := 4) (v := ?_) (by simp only [List.getElem?_toArray, List.getElem?_cons_succ, List.getElem?_cons_zero]; rfl) (by kernel_rfl) (by kernel_rfl) (by kernel_rfl) (by exact fun _ _ _ h => h) (Or.inl ⟨by rfl, ?_⟩) hS ?_
        rotate_left
        · intro w hSw
          go_simp
          try with_reducible rfl
        try simp only [Act.put, List.setIfInBounds_toArray, List.set_cons_zero, List.set_cons_succ]
        refine wpAnyH_take (i := 5) (v := ?_) (by simp only [List.getElem?_toArray, List.getElem?_cons_succ, List.getElem?_cons_zero]; rfl) (by kernel_rfl) (by kernel_rfl) (by kernel_rfl) (by exact fun _ _ _ h => h) (Or.inl ⟨by rfl, ?_⟩) hS ?_
        rotate_left
        · intro w hSw
          go_simp
          try with_reducible rfl
        try simp only [Act.put, List.setIfInBounds_toArray, List.set_cons_zero, List.set_cons_succ]
        refine wpAnyH_take (i := 6) (v := ?_) (by simp only [List.getElem?_toArray, List.getElem?_cons_succ, List.getElem?_cons_zero]; rfl) (by kernel_rfl) (by kernel_rfl) (by kernel_rfl) (by exact fun _ _ _ h => h) (Or.inl ⟨by rfl, ?_⟩) hS ?_
        rotate_left
        · intro w hSw
          go_simp
          try with_reducible rfl
        try simp only [Act.put, List.setIfInBounds_toArray, List.set_cons_zero, List.set_cons_succ]
        refine wpAnyH_take (i := 7) (v := ?_) (by simp only [List.getElem?_toArray, List.getElem?_cons_succ, List.getElem?_cons_zero]; rfl) (by kernel_rfl) (by kernel_rfl) (by kernel_rfl) (by exact fun _ _ _ h => h) (Or.inl ⟨by rfl, ?_⟩) hS ?_
        rotate_left
        · intro w hSw
          go_simp
          try with_reducible rfl
        try simp only [Act.put, List.setIfInBounds_toArray, List.set_cons_zero, List.set_cons_succ]
        refine wpAnyH_take (i := 8) (v := ?_) (by simp only [List.getElem?_toArray, List.getElem?_cons_succ, List.getElem?_cons_zero]; rfl) (by kernel_rfl) (by kernel_rfl) (by kernel_rfl) (by exact fun _ _ _ h => h) (Or.inl ⟨by rfl, ?_⟩) hS ?_
        rotate_left
        · intro w hSw
          go_simp
          try with_reducible rfl
        try simp only [Act.put, List.setIfInBounds_toArray, List.set_cons_zero, List.set_cons_succ]
        refine wpAnyH_take (i := 9) (v := ?_) (by simp only [List.getElem?_toArray, List.getElem?_cons_succ, List.getElem?_cons_zero]; rfl) (by kernel_rfl) (by kernel_rfl) (by kernel_rfl) (by exact fun _ _ _ h => h) (Or.inl ⟨by rfl, ?_⟩) hS ?_
        rotate_left
        · intro w hSw
          go_simp
          try with_reducible rfl
        try simp only [Act.put, List.setIfInBounds_toArray, List.set_cons_zero, List.set_cons_succ]
        refine wpAnyH_take (i := 10) (v := ?_) (by simp only [List.getElem?_toArray, List.getElem?_cons_succ, List.getElem?_cons_zero]; rfl) (by kernel_rfl) (by kernel_rfl) (by kernel_rfl) (by exact fun _ _ _ h => h) (Or.inl ⟨by rfl, ?_⟩) hS ?_
        rotate_left
        · intro w hSw
          go_simp
          try with_reducible rfl
        try simp only [Act.put, List.setIfInBounds_toArray, List.set_cons_zero, List.set_cons_succ]
        refine wpAnyH_ready (rs := [11]) (by kernel_rfl) (by simp) ?_
        refine AllReadyH.cons (by simp only [List.getElem?_toArray, List.getElem?_cons_succ, List.getElem?_cons_zero]; rfl) (fun K hK => ?_) AllReadyH.nil
        go_simp
        go_at_call 11
        refine (HG.out _ K3.out).mono ?_
        rintro e' w5 ⟨rfl, K5, G5⟩
        replace K5 := Lib.hid K5
        have B5 := Lib.hid (GR.out _ _ B3.out G5)
        refine hK.out _ _ (AL.out _ B5.out) (fun hS => ?_)
        clear hK K
        try simp only [Act.put, List.setIfInBounds_toArray, List.set_cons_zero, List.set_cons_succ]
        refine wpAnyH_done (by kernel_rfl) ?_ _
        go_wp2
        go_roundw
        case rel => exact ⟨k + 1, _, by omega, by go_num, HO.out, K5.out, B5.out⟩
        case measure => simp [intOf]; omega
      · go_wp2
        go_roundw
        case rel => exact ⟨k + 1, M, by omega, by go_num, hO.out, hK.out, hB.out⟩
        case measure => simp [intOf]; omega
    · obtain rfl : k = n := by omega
      clear hk hlt hr hn
      obtain ⟨i1, i2, i3⟩ := go_idle M hO
      have HG := Lib.hid (goW g b M 0 0 wr hK (by decide) (by decide) hO.W rfl)
      rw [i1, i2, i3] at HG
      generalize M.a = ma at *
      replace hB := Lib.hid hB
      clear i1 i2 i3 hO hK
      go_wp2_with fail
      refine HG.out.mono ?_
      rintro e w6 ⟨rfl, K6, G6⟩
      have B6 := Lib.hid (GR.out _ _ hB.out G6)
      replace K6 := Lib.hid K6
      clear G6 HG hB
      go_wp2_with fail
      refine (stateW g b _ _ K6.out).mono ?_
      rintro e' w7 ⟨rfl, h7⟩
      obtain rfl := h7.symm
      go_wp2_with fail
      refine (leftW g b _ _ K6.out).mono ?_
      rintro e' w7 ⟨rfl, h7⟩
      obtain rfl := h7.symm
      go_wp2_with fail
      go_loopw [9] (fun i wr => ∃ k : Nat, k ≤ 64 ∧ i = .int .i64 k ∧ Mach wr g b ⟨0, ma, 0⟩ ∧ Below w.heap.size w wr) (fun i _ => 64 - (intOf i).toNat)
      case atStart => exact ⟨0, by omega, rfl, K6.out, B6.out⟩
      case round =>
        clear K6 B6
        obtain ⟨k, hk, rfl, hK, hB⟩ := hrel
        by_cases hlt : k < 64
        · have HL := Lib.hid (legalW g b ⟨0, ma, 0⟩ k 0 wr hK (by decide) (by decide) rfl (W_of (by omega)))
          have HKB := Lib.hid (fun w' (h : Below wr.heap.size wr w') => And.intro (hK.below h) (hB.trans (h.mono hB.size)))
          rw [nx_idle] at HL
          clear hK hB
          by_cases k0 : k = 0
          · subst k0
            rw [show decide (((0 : Nat) : Int) = 0 ∨ ((0 : Nat) : Int) = 1) = true from rfl] at HL
            go_wp2_with fail
            refine HL.out.mono ?_
            rintro e w8 ⟨rfl, b8⟩
            replace HKB := Lib.hid (HKB.out _ b8)
            clear b8 HL
            go_wp2
            go_roundw
            case rel => exact ⟨1, by omega, rfl, HKB.out.1, HKB.out.2⟩
            case measure => simp [intOf]
          by_cases k1 : k = 1
          · subst k1
            rw [show decide (((1 : Nat) : Int) = 0 ∨ ((1 : Nat) : Int) = 1) = true from rfl] at HL
            go_wp2_with fail
            refine HL.out.mono ?_
            rintro e w8 ⟨rfl, b8⟩
            replace HKB := Lib.hid (HKB.out _ b8)
            clear b8 HL
            go_wp2
            go_roundw
            case rel => exact ⟨2, by omega, rfl, HKB.out.1, HKB.out.2⟩
            case measure => simp [intOf]
          have hd : decide ((k : Int) = 0 ∨ (k : Int) = 1) = false := by simp; omega
          rw [hd] at HL
          have z0 : ¬ ((k : Int) = 0) := by omega
          have z1 : ¬ ((k : Int) = 1) := by omega
          have zb0 : ((k : Int) == 0) = false := by simpa using z0
          have zb1 : ((k : Int) == 1) = false := by simpa using z1
          go_wp2_with fail
          refine HL.out.mono ?_
          rintro e w8 ⟨rfl, b8⟩
          replace HKB := Lib.hid (HKB.out _ b8)
          clear b8 HL
          go_wp2
          go_roundw
          case rel => exact ⟨k + 1, by omega, by go_num, HKB.out.1, HKB.out.2⟩
          case measure => simp [intOf]; omega
        · have hk64 : (k : Int) = 64 := by omega
          rw [hk64]
          clear hk hlt hk64
          replace hK := Lib.hid hK
          replace hB := Lib.hid hB
          have hA1 : (A : Int) * 65536 < 4294967296 := by omega
          go_wp2_with fail
          have K9 : Hid (Mach (wr.alloc (.cells (ints cmd4) 3)) g b (MI ma A 0)) := Lib.hid (hK.out.kept (World.grownBy_alloc wr _ (some wr.heap.size)) (by have := hK.out.1.lt; omega) (by have := hK.out.2.1.lt; omega))
          have N9 : Hid (Nums (wr.alloc (.cells (ints cmd4) 3)) wr.heap.size cmd4) := Lib.hid (Nums.made wr cmd4)
          have B9 : Hid (Below w.heap.size w (wr.alloc (.cells (ints cmd4) 3))) := Lib.hid (hB.out.alloc hB.out.size _)
          have hne : wr.heap.size ≠ g := by have := hK.out.1.lt; omega
          clear hK hB
          generalize wr.heap.size = q at *
          obtain ⟨XX, hXX⟩ : ∃ XX, XX = (A : Int) * 65536 := ⟨_, rfl⟩
          rw [← hXX]
          rw [← hXX] at hA1
          have hX0 : 0 ≤ XX := by omega
          replace hXX := Lib.hid hXX
          go_loopw [86] (fun j wr => ∃ k : Nat, k ≤ 4 ∧ j = .int .i64 k ∧ Mach wr g b (MI ma A k) ∧ Nums wr q cmd4 ∧ Below w.heap.size w wr) (fun j _ => 4 - (intOf j).toNat)
          case atStart => exact ⟨0, by omega, rfl, K9.out, N9.out, B9.out⟩
          case round =>
            clear K9 N9 B9
            obtain ⟨k, hk, rfl, hK, hN, hB⟩ := hrel
            by_cases hlt : k < 4
            · have hc := hN.cell k (by simpa [cmd4] using hlt)
              obtain ⟨m1, m2, m3, m4⟩ := mi_go ma A (by omega) (by omega) k hlt
              rw [← hXX.out] at m1 m2
              have HG := Lib.hid (goW g b (MI ma A k) (cmd4.getD k 0) XX _ hK (by omega) (by omega) m3 m4)
              rw [m2, m1] at HG
              generalize goA (MI ma A k) (cmd4.getD k 0) XX = ga at HG
              obtain ⟨z, hz⟩ : ∃ z, z = cmd4.getD k 0 := ⟨_, rfl⟩
              rw [← hz] at hc HG
              replace hz := Lib.hid hz
              replace hN := Lib.hid hN
              replace hB := Lib.hid hB
              clear m1 m2 m3 m4 hK
              go_wp2_with fail
              refine HG.out.mono ?_
              rintro e w6 ⟨rfl, K7, G7⟩
              have N7 := Lib.hid (hN.out.grown G7 hne)
              have B7 := Lib.hid (GR.out _ _ hB.out G7)
              replace K7 := Lib.hid K7
              clear G7 HG hc hN
              go_wp2
              go_roundw
              case rel => exact ⟨k + 1, by omega, by go_num, K7.out, N7.out, B7.out⟩
              case measure => simp [intOf]; omega
            · obtain rfl : k = 4 := by omega
              clear hN hk hlt
              replace hK : Hid (Mach _ g b ⟨4, A, 0⟩) := Lib.hid hK
              replace hB := Lib.hid hB
              have hx := xorN A hA
              rw [← hXX.out] at hx
              have hx1 := xor1 A
              have hAx : A ^^^ 1 ≤ 65535 := by
                have : A ^^^ 1 < 2 ^ 16 := Nat.xor_lt_two_pow (by omega) (by omega)
                omega
              have HL1 := Lib.hid (fun w' (h : Mach w' g b ⟨4, A, 0⟩) => legalW g b ⟨4, A, 0⟩ 13 (((A ^^^ 1) * 65536 : Nat) : Int) w' h (by omega) (by omega) rfl rfl)
              have HL2 := Lib.hid (fun w' (h : Mach w' g b ⟨4, A, 0⟩) => legalW g b ⟨4, A, 0⟩ 13 XX w' h (by omega) (by omega) rfl rfl)
              have e1 : (nx 4 13 (mineP ⟨4, A, 0⟩ (((A ^^^ 1) * 65536 : Nat) : Int))).2 = false := by
                have : mineP ⟨4, A, 0⟩ (((A ^^^ 1) * 65536 : Nat) : Int) = false := by
                  unfold mineP
                  simp only [beq_eq_false_iff_ne, ne_eq]
                  omega
                rw [this]; rfl
              have e2 : (nx 4 13 (mineP ⟨4, A, 0⟩ XX)).2 = true := by
                have : mineP ⟨4, A, 0⟩ XX = true := by
                  unfold mineP
                  simp only [beq_iff_eq]
                  rw [hXX.out]
                  omega
                rw [this]; rfl
              simp only at HL1 HL2
              rw [e1] at HL1
              rw [e2] at HL2
              replace hx := Lib.hid hx
              clear e1 e2 hx1 hAx
              generalize (A ^^^ 1) * 65536 = X at *
              go_wp2_with fail
              refine (stateW g b _ _ hK.out).mono ?_
              rintro e' w7 ⟨rfl, h7⟩
              obtain rfl := h7.symm
              go_wp2_with fail
              refine (addrW g b _ _ hK.out).mono ?_
              rintro e' w7 ⟨rfl, h7⟩
              obtain rfl := h7.symm
              go_wp2_with fail
              try rw [hx.out]
              refine (HL1.out _ hK.out).mono ?_
              rintro e' w8 ⟨rfl, b8⟩
              have K8 := Lib.hid (hK.out.below b8)
              have B8 := Lib.hid (hB.out.trans (b8.mono hB.out.size))
              clear b8
              go_wp2_with fail
              refine (HL2.out _ K8.out).mono ?_
              rintro e' w9 ⟨rfl, b9⟩
              have B9 := Lib.hid (B8.out.trans (b9.mono B8.out.size))
              go_wp2
              go_ret
              exact ⟨rfl, B9.out⟩
theorem all (a : Option Addr) (l : List PhO.Act) (n c : Nat) (ad : Int) (w : World) (hn : l.length = n) (hr : RdA w a l) (had : (Lit.int .u16 ad).wf = true) :
    Calls Try.prog 6 #[.slice a n c, .int .u16 ad] w fun e w' => e = .returned (.bool true) ∧ Below w.heap.size w w' := by
  by_cases h : 400 < n
  · exact early a n c ad w h
  · have h2 : 0 ≤ ad ∧ ad ≤ 65535 := by simpa [Lit.wf, IntKind.min, IntKind.max, IntKind.signed, IntKind.bits] using had
    obtain ⟨A, rfl⟩ := Int.eq_ofNat_of_zero_le h2.1
    exact law a l n c A w hn hr (by omega) (by omega)
end Go.Proofs.Ytddmodiogjnhmaa.PhI
