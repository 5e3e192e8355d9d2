/- The walk of the law on what is set once. -/
import Derived.Test.YtnkbopmghekjdaaRegH
import Derived.Laws.BytesArg
namespace Go.Proofs.Ytnkbopmghekjdaa.RegI
open Go.ChangeShapes Go.WideShapes Go.ChangeAt Go.RowKit
open RegA Mem RegB RegC RegD RegE RegF RegG RegH
set_option linter.unusedVariables false
set_option maxHeartbeats 4000000

/-- A new row of seven bytes. -/
theorem lasting7 (g : Nat) (st : List Int) (w : World) (hf : File 57 w g st) :
    Calls Try.prog 18 #[.pointer (some ⟨g, 0, none⟩)] w fun e w' => ∃ g5 c, e = .returned (.slice (some ⟨g5, 0, none⟩) 7 c) ∧ (w.heap.size ≤ g5 ∧ g5 < w'.heap.size ∧ 7 ≤ c ∧ c ≤ 9223372036854775807) ∧ (∀ i, i < 7 → w'.cell? ⟨g5, i, none⟩ = some (.int .u8 ((lastK st 7).getD i 0))) ∧ Below w.heap.size w w' := by
  refine (lastingW g st w hf).mono ?_
  rintro e w' ⟨a, c, rfl, hown, hb⟩
  have h0 := hown
  obtain ⟨hl, h2⟩ := hown
  rcases h2 with ⟨hv, h7⟩ | ⟨g5, cap, cur, hv, hg, hh, hnc, hcm, hcs, ht⟩
  · omega
  · injection hv with e1 e2 e3
    subst e1 e3
    refine ⟨g5, c, rfl, ⟨hg, ?_, hnc, by unfold maxLen at hcm; omega⟩, fun i hi => ?_, hb⟩
    · rcases Nat.lt_or_ge g5 w'.heap.size with h' | h'
      · exact h'
      · rw [Array.getElem?_eq_none h'] at hh; cases hh
    · have hc := World.ownsRow.cells h0 (g := g5) rfl i (.int .u8 ((lastK st 7).getD i 0)) (by
        have : i < (lastK st 7).length := by rw [lastK_len]; exact hi
        simp [bys, this])
      simpa [Addr.add_lit] using hc

theorem early (a1 a2 : Option Addr) (n1 c1 n2 c2 : Nat) (w : World) (hm1 : n1 ≤ 9223372036854775807) (hm2 : n2 ≤ 9223372036854775807) (h : 300 < n1 ∨ 300 < n2) :
    Calls Try.prog 5 #[.slice a1 n1 c1, .slice a2 n2 c2] w fun e w' => e = .returned (.bool true) ∧ Below w.heap.size w w' := by
  by_cases h1 : 300 < n1
  · have d1 : decide ((300 : Int) < (n1 : Int)) = true := by simp; omega
    go_enter Try.func5, Try.ntmps5
    go_wp2_with fail
    refine (knownW _).mono ?_
    rintro e w1 ⟨rfl, hb1⟩
    go_wp2
    go_ret
    exact ⟨rfl, hb1⟩
  · have h2 : 300 < n2 := by omega
    have d1 : decide ((300 : Int) < (n1 : Int)) = false := by simp; omega
    have d2 : decide ((300 : Int) < (n2 : Int)) = true := by simp; omega
    go_enter Try.func5, Try.ntmps5
    go_wp2_with fail
    refine (knownW _).mono ?_
    rintro e w1 ⟨rfl, hb1⟩
    go_wp2
    go_ret
    exact ⟨rfl, hb1⟩

theorem keep5 {w w' : World} {g g5 : Nat} {X : Option Obj} (hE : w.heap[g5]? = X) (hg : w.grownBy w' (some g)) (h1 : g5 < w.heap.size) (h2 : g5 ≠ g) : w'.heap[g5]? = X :=
  (hg.block g5 h1 (by intro e; injection e with e; exact h2 e)).trans hE

theorem mem_getD {l : List RegG.Act} {k : Nat} (h : k < l.length) : l.getD k act0 ∈ l := by
  rw [List.getD_eq_getElem?_getD, List.getElem?_eq_getElem h]
  exact List.getElem_mem _

theorem convB (w : World) (g off c : Nat) (l : List Int) (n : Nat) (hl : l.length = n) (hc : ∀ i, i < n → w.cell? ⟨g, off + i, none⟩ = some (.int .u8 (l.getD i 0))) (m : Nat) :
    (convert 43 9 (.slice (some ⟨g, off, none⟩) n c)).run Try.prog (w.drewN m) = .ok (.string (strOfNums l)) (w.drewN m) := by
  refine run_convert_bytes_arg (w.drewN m) 43 5 Try.underlying43 Try.underlying5 g off n c l hl (fun i hi => ?_) 9 Try.underlying9
  have := hc i hi
  simpa using this

theorem drop_same {a b : List Int} {n : Nat} (ha : a.length = n) (hb : b.length = n) (h : ∀ i, 1 ≤ i → i < n → b.getD i 0 = a.getD i 0) : a.drop 1 = b.drop 1 := by
  refine List.ext_getElem (by simp [ha, hb]) fun i h1 h2 => ?_
  have hi : 1 + i < n := by simp [ha] at h1; omega
  have := h (1 + i) (by omega) hi
  rw [List.getD_eq_getElem?_getD, List.getD_eq_getElem?_getD, List.getElem?_eq_getElem (by omega), List.getElem?_eq_getElem (by omega)] at this
  simp only [Option.getD_some] at this
  simp only [List.getElem_drop]
  exact this.symm
theorem getD_drop1 (a : List Int) (i : Nat) : a.getD (1 + i) 0 = (a.drop 1).getD i 0 := by
  rw [List.getD_eq_getElem?_getD, List.getD_eq_getElem?_getD, List.getElem?_drop]

set_option maxRecDepth 100000 in
theorem onceW (a1 a2 : Option Addr) (l1 l2 : List RegG.Act) (n1 c1 n2 c2 : Nat) (w : World) (hl1 : l1.length = n1) (hl2 : l2.length = n2) (hr1 : RdA w a1 l1) (hr2 : RdA w a2 l2) (h1 : n1 ≤ 300) (h2 : n2 ≤ 300) (hv1 : ∀ y ∈ l1, 0 ≤ y.v) (hv2 : ∀ y ∈ l2, 0 ≤ y.v) :
    Calls Try.prog 5 #[.slice a1 n1 c1, .slice a2 n2 c2] w fun e w' => e = .returned (.bool true) ∧ Below w.heap.size w w' := by
  have HR1 := Lib.hid hr1
  have HL1 := Lib.hid hl1
  have HV1 := Lib.hid hv1
  have HR2 := Lib.hid hr2
  have HL2 := Lib.hid hl2
  have HV2 := Lib.hid hv2
  have d1 : decide ((300 : Int) < (n1 : Int)) = false := by simp; omega
  have d2 : decide ((300 : Int) < (n2 : Int)) = false := by simp; omega
  clear hr1 hl1 hv1 hr2 hl2 hv2
  go_enter Try.func5, Try.ntmps5
  go_wp2_with fail
  refine (knownW _).mono ?_
  rintro e w1 ⟨rfl, hb1⟩
  go_wp2_with (go_at_call 8
               refine (newW _).mono ?_
               rintro e w2 ⟨rfl, hf2, hb2⟩
               have hbb := hb1.trans (hb2.mono hb1.size)
               have hgs := hb1.size
               clear hb2)
  go_loopw [6] (fun i wr => ∃ k : Nat, k ≤ n1 ∧ i = .int .i64 k ∧ (∃ st, File 57 wr w1.heap.size st ∧ Inv st) ∧ Below w.heap.size w wr) (fun i _ => n1 - (intOf i).toNat)
  case atStart => exact ⟨0, by omega, rfl, ⟨_, hf2, Inv.zeros⟩, hbb⟩
  case round =>
    clear hf2 hbb
    obtain ⟨k, hk, rfl, ⟨st, hfr, hinv⟩, hbel⟩ := hrel
    by_cases hlt : k < n1
    · obtain ⟨b, off, ea, hbw, _⟩ := HR1.out.2 k (by rw [HL1.out]; exact hlt)
      subst ea
      obtain ⟨x, hx⟩ : ∃ x, x = l1.getD k act0 := ⟨_, rfl⟩
      have HC : Hid (∀ w', Below w.heap.size w w' → w'.cell? ⟨b, off + k * 4 + 1, none⟩ = some (.int .i64 x.n) ∧ w'.cell? ⟨b, off + k * 4 + 2, none⟩ = some (.int .u8 x.v)) := Lib.hid fun w' hb' => by
        obtain ⟨_, c1, c2, _⟩ := (HR1.out.below hb').at k (by rw [HL1.out]; exact hlt)
        rw [← hx] at c1 c2
        exact ⟨c1, c2⟩
      have HI := Lib.hid (hinv.write x.n x.v (HV1.out x (by rw [hx]; exact mem_getD (by rw [HL1.out]; exact hlt))))
      obtain ⟨cN, cV⟩ := HC.out _ hbel
      have HF := Lib.hid hfr
      have HB := Lib.hid hbel
      have hgl := hfr.2.lt
      have hbr := hbel.size
      clear hx hfr hbel hinv
      have i0 : (0 : Int) ≤ (k : Int) := Int.natCast_nonneg _
      have i1 : (k : Int) < (n1 : Int) := by omega
      go_wp2_with fail
      go_region_held3 (fun w' => w'.cell? ⟨b, off + k * 4 + 1, none⟩ = some (.int .i64 x.n) ∧ w'.cell? ⟨b, off + k * 4 + 2, none⟩ = some (.int .u8 x.v))
        (first
          | go_keep
          | exact ⟨e1, e2⟩)
        ((go_at_call 9
          refine (writeW w1.heap.size _ x.n x.v _ (by exact HF.out)).mono ?_
          rintro e w5 ⟨rfl, hf5, hg5⟩
          have hb5 := below_own HB.out.drew hg5 hgs (by simpa using hgl)
          have d := HC.out _ hb5
          have e1 := d.1
          have e2 := d.2
          clear d hg5))
      clear e1 e2 cN cV i0 i1
      go_wp2
      go_roundw
      case rel => exact ⟨k + 1, by omega, by go_num, ⟨_, hf5, HI.out⟩, hb5⟩
      case measure => simp [intOf]; omega
    · obtain rfl : k = n1 := by omega
      obtain ⟨s, hs⟩ : ∃ s, s = st.set 13 1 := ⟨_, rfl⟩
      have hw := writeW w1.heap.size st 13 1 wr hfr
      rw [done st hinv, ← hs] at hw
      have hi2 : Inv2 s s := by rw [hs]; exact Inv2.start hinv
      have hgl := hfr.2.lt
      have HW := Lib.hid hw
      have HI2 := Lib.hid hi2
      have s13 : Hid ((lastK s 7).getD 6 0 = 1) := Lib.hid (by
        have : (lastK s 7).getD 6 0 = reg s 13 := rfl
        rw [this]; exact hi2.2.1)
      clear hs hw hi2 hinv hfr
      go_wp2_with fail
      refine HW.out.mono ?_
      rintro e w3 ⟨rfl, hf3, hg3⟩
      have hb3 := below_own hbel hg3 hgs hgl
      have hgl3 := hf3.2.lt
      have HF3 := Lib.hid hf3
      clear hf3 hg3 hbel
      go_wp2_with fail
      refine (lasting7 w1.heap.size s w3 HF3.out).mono ?_
      rintro e w4 ⟨g5, c5, rfl, ⟨q1, q2, q3, q4⟩, hcells, hb4⟩
      have hbw4 := hb3.trans (hb4.mono hb3.size)
      have hf4 := HF3.out.below hb4 hgl3
      have cell6 := hcells 6 (by omega)
      rw [s13.out] at cell6
      have HCE := Lib.hid hcells
      clear hcells hb4
      go_wp2
      clear cell6
      go_loopw [8] (fun i wr => ∃ k : Nat, k ≤ n2 ∧ i = .int .i64 k ∧ (∃ st, File 57 wr w1.heap.size st ∧ Inv2 s st) ∧ Below w.heap.size w wr ∧ wr.heap[g5]? = w4.heap[g5]? ∧ w4.heap.size ≤ wr.heap.size) (fun i _ => n2 - (intOf i).toNat)
      case atStart => exact ⟨0, by omega, rfl, ⟨_, hf4, HI2.out⟩, hbw4, rfl, Nat.le_refl _⟩
      case round =>
        clear hf4 hbw4
        obtain ⟨k2, hk2, rfl, ⟨st2, hfr, hinv⟩, hbel, hE, hEs⟩ := hrel
        by_cases hlt2 : k2 < n2
        · obtain ⟨b, off, ea, hbw, _⟩ := HR2.out.2 k2 (by rw [HL2.out]; exact hlt2)
          subst ea
          obtain ⟨x, hx⟩ : ∃ x, x = l2.getD k2 act0 := ⟨_, rfl⟩
          have HC : Hid (∀ w', Below w.heap.size w w' → w'.cell? ⟨b, off + k2 * 4, none⟩ = some (.int .i64 x.op) ∧ w'.cell? ⟨b, off + k2 * 4 + 1, none⟩ = some (.int .i64 x.n) ∧ w'.cell? ⟨b, off + k2 * 4 + 2, none⟩ = some (.int .u8 x.v)) := Lib.hid fun w' hb' => by
            obtain ⟨c0, c1, c2, _⟩ := (HR2.out.below hb').at k2 (by rw [HL2.out]; exact hlt2)
            rw [← hx] at c0 c1 c2
            exact ⟨c0, c1, c2⟩
          have HI := Lib.hid ((hinv.write x.n x.v (HV2.out x (by rw [hx]; exact mem_getD (by rw [HL2.out]; exact hlt2)))).show_ x.n x.v)
          obtain ⟨_, cN, cV⟩ := HC.out _ hbel
          have HF := Lib.hid hfr
          have HB := Lib.hid hbel
          have hgl := hfr.2.lt
          have hbr := hbel.size
          have hne : g5 ≠ w1.heap.size := by omega
          have g5r : g5 < wr.heap.size := by omega
          obtain ⟨BK, hBK⟩ : ∃ BK, BK = w4.heap[g5]? := ⟨_, rfl⟩
          rw [← hBK] at hE
          have HBK := Lib.hid hBK
          clear hBK
          have HE := Lib.hid hE
          clear hx hfr hbel hinv hE
          have i0 : (0 : Int) ≤ (k2 : Int) := Int.natCast_nonneg _
          have i1 : (k2 : Int) < (n2 : Int) := by omega
          go_wp2_with fail
          go_region_held3 (fun w' => w'.cell? ⟨b, off + k2 * 4 + 1, none⟩ = some (.int .i64 x.n) ∧ w'.cell? ⟨b, off + k2 * 4 + 2, none⟩ = some (.int .u8 x.v))
            (first
              | go_keep
              | exact ⟨e1, e2⟩)
            ((go_at_call 9
              refine (writeW w1.heap.size _ x.n x.v _ (by exact HF.out)).mono ?_
              rintro e w5 ⟨rfl, hf5, hg5⟩
              have hb5 := below_own HB.out.drew hg5 hgs (by simpa using hgl)
              have HE5 := Lib.hid (keep5 (w := wr.drew) (X := BK) HE.out hg5 g5r hne)
              have hs5 := hg5.size
              have g55 : g5 < w5.heap.size := Nat.lt_of_lt_of_le g5r hs5
              have d := HC.out _ hb5
              have e1 := d.2.1
              have e2 := d.2.2
              clear d hg5))
          clear cN cV
          simp only [World.size_drew] at hs5
          have hgl5 := hf5.2.lt
          have HF5 := Lib.hid hf5
          have HB5 := Lib.hid hb5
          clear hf5 hb5
          go_wp2_with fail
          go_region_held3 (fun w' => w'.cell? ⟨b, off + k2 * 4 + 1, none⟩ = some (.int .i64 x.n) ∧ w'.cell? ⟨b, off + k2 * 4 + 2, none⟩ = some (.int .u8 x.v))
            (first
              | go_keep
              | exact ⟨e3, e4⟩)
            ((go_at_call 13
              refine (showW w1.heap.size _ x.n x.v _ (by exact HF5.out)).mono ?_
              rintro e w6 ⟨rfl, hf6, hg6⟩
              have hb6 := below_own HB5.out.drew hg6 hgs (by simpa using hgl5)
              have HE6 := Lib.hid (keep5 (w := w5.drew) (X := BK) HE5.out hg6 g55 hne)
              have hs6 := hg6.size
              have g56 : g5 < w6.heap.size := Nat.lt_of_lt_of_le g55 hs6
              have d := HC.out _ hb6
              have e3 := d.2.1
              have e4 := d.2.2
              have cO := d.1
              clear d hg6))
          clear e1 e2 e3 e4
          simp only [World.size_drew] at hs6
          by_cases ho : x.op = 4
          · have hob : (x.op == 4) = true := by simpa using ho
            have hgl6 := hf6.2.lt
            have HP := Lib.hid (powerW w1.heap.size _ w6 hf6)
            clear ho
            go_wp2_with (go_at_call 15; refine HP.out.mono ?_; rintro e w7 ⟨rfl, hf7, hg7⟩)
            have hb7 := below_own hb6 hg7 hgs hgl6
            have HE7 := keep5 (X := BK) HE6.out hg7 g56 hne
            have hs7 := hg7.size
            clear hob cO i0 i1 hg7
            go_roundw
            case rel => exact ⟨k2 + 1, by omega, by go_num, ⟨_, hf7, HI.out.power⟩, hb7, HE7.trans HBK.out, by omega⟩
            case measure => simp [intOf]; omega
          · have hob : (x.op == 4) = false := by simpa using ho
            clear ho
            go_wp2
            clear hob cO i0 i1
            go_roundw
            case rel => exact ⟨k2 + 1, by omega, by go_num, ⟨_, hf6, HI.out⟩, hb6, HE6.out.trans HBK.out, by omega⟩
            case measure => simp [intOf]; omega
        · obtain rfl : k2 = n2 := by omega
          have hgl := hfr.2.lt
          have hlen1 : (lastK s 7).length = 7 := lastK_len _ _
          have hlen2 : (lastK st2 7).length = 7 := lastK_len _ _
          obtain ⟨L1, hL1⟩ : ∃ L, L = (lastK s 7).drop 1 := ⟨_, rfl⟩
          have hL2 : L1 = (lastK st2 7).drop 1 := by
            rw [hL1]
            exact drop_same hlen1 hlen2 (fun i h1 h7 => hinv.last HI2.out.2.1 i h1 h7)
          have HLL : Hid (L1.length = 6) := Lib.hid (by rw [hL1]; simp [hlen1])
          have HE1 : Hid (∀ i, i < 6 → (lastK s 7).getD (1 + i) 0 = L1.getD i 0) := Lib.hid fun i hi => by rw [hL1]; exact getD_drop1 _ i
          have HE2 : Hid (∀ i, i < 6 → (lastK st2 7).getD (1 + i) 0 = L1.getD i 0) := Lib.hid fun i hi => by rw [hL2]; exact getD_drop1 _ i
          obtain ⟨X, hX⟩ : ∃ X, X = (lastK s 7).getD 0 0 := ⟨_, rfl⟩
          obtain ⟨Y, hY⟩ : ∃ Y, Y = (lastK st2 7).getD 0 0 := ⟨_, rfl⟩
          have han : bits .andNot .u8 X Y = 0 := by
            rw [hX, hY]; exact hinv.2.2.2.1
          have HX := Lib.hid hX
          have HY := Lib.hid hY
          have HF := Lib.hid hfr
          have HEE := Lib.hid hE
          clear hfr hinv hlen1 hlen2 hL1 hL2 hX hY hE
          go_wp2_with fail
          refine (lasting7 w1.heap.size st2 wr HF.out).mono ?_
          rintro e w6 ⟨g6, c6, rfl, ⟨p1, p2, p3, p4⟩, hcells6, hb6⟩
          have hbw6 := hbel.trans (hb6.mono hbel.size)
          have h5 : ∀ i, w6.cell? ⟨g5, i, none⟩ = w4.cell? ⟨g5, i, none⟩ := fun i => World.cell?_of_block ((hb6.block g5 (by omega)).trans HEE.out)
          have cX : w6.cell? ⟨g5, 0, none⟩ = some (.int .u8 X) := by rw [h5, HCE.out 0 (by omega), HX.out]
          have cY : w6.cell? ⟨g6, 0, none⟩ = some (.int .u8 Y) := by rw [hcells6 0 (by omega), HY.out]
          have k1 := fun m => convB w6 g5 1 (c5 - 1) L1 6 HLL.out (fun i hi => by rw [h5, HCE.out (1 + i) (by omega), HE1.out i hi]) m
          have k2 := fun m => convB w6 g6 1 (c6 - 1) L1 6 HLL.out (fun i hi => by rw [hcells6 (1 + i) (by omega), HE2.out i hi]) m
          obtain ⟨S, hS⟩ : ∃ S, S = strOfNums L1 := ⟨_, rfl⟩
          rw [← hS] at k1 k2
          clear hS hcells6 h5 hb6
          go_wp2_with fail
          go_quiet (fail)
          go_wp2
          go_ret
          exact ⟨rfl, below_drewN hbw6 _⟩
end Go.Proofs.Ytnkbopmghekjdaa.RegI
