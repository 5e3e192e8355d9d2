/- The table of steps: all of it. -/
import Derived.Test.YtddmodiogjnhmaaPhB
namespace Go.Proofs.Ytddmodiogjnhmaa.PhC
open Go.ChangeShapes Go.WideShapes Go.ChangeAt Go.RowKit
open PhM PhA PhB
set_option linter.unusedVariables false
set_option maxHeartbeats 1000000

def ints (l : List Int) : Array Value := (l.map fun z => Value.int .i64 z).toArray
theorem states (w : World) : Calls Try.prog 23 #[] w fun e w' => e = .returned (.slice (some ⟨w.heap.size, 0, none⟩) 6 6) ∧ w' = w.alloc (.cells (ints stt) 3) := by
  go_enter Try.func23, Try.ntmps23
  go_wp2
  go_returns
  exact ⟨rfl, rfl⟩

/-- The table as far as it is made. -/
def TS (w0 w : World) (l : List (K3 × Int)) : Prop := Tab w w0.heap.size l ∧ w.cell? ⟨w0.heap.size + 1, 0, none⟩ = some (.map (some w0.heap.size)) ∧ Below w0.heap.size w0 w
theorem TS.size {w0 w l} (h : TS w0 w l) : w0.heap.size + 1 < w.heap.size := World.block_lt_of_cell? w _ h.2.1
theorem TS.start (w : World) : TS w ((w.alloc (.map #[] 0)).alloc (.cells #[.map (some w.heap.size)] 48)) [] := by
  refine ⟨(Tab.made w).alloc _, ?_, ((Below.refl _ _).alloc (Nat.le_refl _) _).alloc (by simp) _⟩
  have := heap_alloc_new (w.alloc (.map #[] 0)) (.cells #[.map (some w.heap.size)] 48)
  rw [World.size_alloc] at this
  exact cell_of_row _ _ 0 _ _ _ this
theorem TS.alloc {w0 w l} (h : TS w0 w l) (o : Obj) : TS w0 (w.alloc o) l := ⟨h.1.alloc o, (World.grownBy_alloc w o (some w0.heap.size)).cell h.2.1 (by simp), h.2.2.alloc h.2.2.size o⟩
theorem TS.grown {w0 w w' l l'} (h : TS w0 w l) (hT : Tab w' w0.heap.size l') (hg : w.grownBy w' (some w0.heap.size)) : TS w0 w' l' :=
  ⟨hT, grown_cell hg (by simp) h.2.1, h.2.2.grown hg h.2.2.size (fun j hj => by cases hj; exact Nat.le_refl _)⟩
theorem TS.both (w0 : World) (s i x : Int) (hs : W s) (hi : W i) (l : List (K3 × Int)) (hl : l.length < 900) (w : World) (h : TS w0 w l) :
    Calls Try.prog 32 #[.int .i64 s, .int .i64 i, .int .i64 x, .pointer (some ⟨w0.heap.size + 1, 0, none⟩)] w fun e w' => (∃ v, e = .returned v) ∧ TS w0 w' (both s i x l) ∧ w.grownBy w' (some w0.heap.size) := by
  refine (bothW w0.heap.size (w0.heap.size + 1) (by omega) s i x hs hi l hl w h.1 h.2.1).mono ?_
  rintro e w' ⟨hv, hT, hg, _⟩
  exact ⟨hv, h.grown hT hg, hg⟩
/-- A row of numbers beside the table. -/
def Nums (w : World) (g : Nat) (l : List Int) : Prop := w.heap[g]? = some (.cells (ints l) 3 (0, 0))
theorem Nums.cell {w g l} (h : Nums w g l) (k : Nat) (hk : k < l.length) : w.cell? ⟨g, k, none⟩ = some (.int .i64 (l.getD k 0)) := by
  rw [cell_of_row w g k _ _ _ h]; simp [ints, hk]
theorem Nums.made (w : World) (l : List Int) : Nums (w.alloc (.cells (ints l) 3)) w.heap.size l := heap_alloc_new w _
theorem Nums.grown {w w' : World} {g b l} (h : Nums w g l) (hg : w.grownBy w' (some b)) (hne : g ≠ b) : Nums w' g l :=
  (hg.block g (Array.getElem?_eq_some_iff.1 h).1 (by simpa using hne)).trans h
theorem st_W (k : Nat) : W (stt.getD k 0) := by
  unfold W
  match k with
  | 0 | 1 | 2 | 3 | 4 | 5 => rfl
  | k + 6 => rfl
theorem in_W (k : Nat) : W (inn.getD k 0) := by
  unfold W
  match k with
  | 0 | 1 | 2 | 3 | 4 | 5 | 6 | 7 | 8 | 9 | 10 => rfl
  | k + 11 => rfl
theorem LA_length (k : Nat) : (LA k).length = 2 * k := by
  induction k with
  | zero => rfl
  | succ k ih => simp [LA, PhM.both, ih]; omega
theorem LB_length (k : Nat) : (LB k).length = 24 + 2 * k := by
  induction k with
  | zero => decide
  | succ k ih => simp [LB, PhM.both, ih]; omega

set_option maxRecDepth 100000 in
theorem table (w : World) : Calls Try.prog 24 #[] w fun e w' => e = .returned (.map (some w.heap.size)) ∧ Tab w' w.heap.size L4 ∧ Below w.heap.size w w' := by
  have hmm := @run_makeMap Try.prog
  have T0 := TS.start w
  obtain ⟨w1, hw1⟩ : ∃ w1, w1 = (w.alloc (.map #[] 0)).alloc (.cells #[.map (some w.heap.size)] 48) := ⟨_, rfl⟩
  rw [← hw1] at T0
  replace T0 := Lib.hid T0
  go_enter Try.func24, Try.ntmps24
  go_wp2_with fail
  try rw [← hw1]
  refine (states _).mono ?_
  rintro e w2 ⟨rfl, hw2⟩
  have N2 : Nums w2 w1.heap.size stt := by rw [hw2]; exact Nums.made w1 stt
  have T2 : TS w w2 [] := by rw [hw2]; exact T0.out.alloc _
  have hne : w1.heap.size ≠ w.heap.size := by have := T0.out.size; omega
  replace N2 := Lib.hid N2
  replace T2 := Lib.hid T2
  replace T0 := Lib.hid T0
  clear hw2
  generalize w1.heap.size = g at *
  go_wp2_with fail
  go_loopw [11] (fun i wr => ∃ k : Nat, k ≤ 6 ∧ i = .int .i64 k ∧ TS w wr (LA k) ∧ Nums wr g stt) (fun i _ => 6 - (intOf i).toNat)
  case atStart => exact ⟨0, by omega, rfl, T2.out, N2.out⟩
  case round =>
    clear T2 N2
    obtain ⟨k, hk, rfl, hT, hN⟩ := hrel
    by_cases hlt : k < 6
    · have hc := hN.cell k (by simpa [stt] using hlt)
      have hb := Lib.hid (TS.both w (stt.getD k 0) 0 0 (st_W k) rfl (LA k) (by rw [LA_length]; omega) wr hT)
      replace hN := Lib.hid hN
      obtain ⟨z, hz⟩ : ∃ z, z = stt.getD k 0 := ⟨_, rfl⟩
      rw [← hz] at hc hb
      replace hz := Lib.hid hz
      go_wp2_with fail
      refine hb.out.mono ?_
      rintro e w5 ⟨⟨v, rfl⟩, hT5, hg5⟩
      have hN5 := Lib.hid (hN.out.grown hg5 hne)
      replace hT5 := Lib.hid hT5
      clear hT hc hb hg5
      go_wp2
      go_roundw
      case rel => exact ⟨k + 1, by omega, by go_num, by have := hT5.out; rw [hz.out] at this; exact this, hN5.out⟩
      case measure => simp [intOf]; omega
    · obtain rfl : k = 6 := by omega
      clear hN hk hlt
      replace hT := Lib.hid hT
      go_wp2_with fail
      refine (TS.both w 0 1 1 rfl rfl _ (by decide +kernel) _ hT.out).mono ?_
      rintro e w11 ⟨⟨v11, rfl⟩, T1, _⟩
      replace T1 := Lib.hid T1
      clear hT
      go_wp2_with fail
      refine (TS.both w 1 2 2 rfl rfl _ (by decide +kernel) _ T1.out).mono ?_
      rintro e w12 ⟨⟨v12, rfl⟩, T2, _⟩
      replace T2 := Lib.hid T2
      clear T1
      go_wp2_with fail
      refine (TS.both w 2 3 3 rfl rfl _ (by decide +kernel) _ T2.out).mono ?_
      rintro e w13 ⟨⟨v13, rfl⟩, T3, _⟩
      replace T3 := Lib.hid T3
      clear T2
      have k0 := T3.out.2.1
      go_wp2_with (first
        | (at_mapUpdate
           refine wpList_put rfl (.tmp 25) (.tmp 26) (.tmp 27) rfl w.heap.size _ rfl T3.out.1 3 7 4 true rfl rfl rfl rfl (by decide +kernel) ?_
           intro w20 hT0 hg0
           have T4 := Lib.hid (T3.out.grown hT0 hg0)
           have k1 := T4.out.2.1
           clear hT0 hg0)
        | (at_mapUpdate
           refine wpList_put rfl (.tmp 28) (.tmp 29) (.tmp 30) rfl w.heap.size _ rfl T4.out.1 3 7 3 false rfl rfl rfl rfl (by decide +kernel) ?_
           intro w21 hT1 hg1
           have T5 := Lib.hid (T4.out.grown hT1 hg1)
           have k2 := T5.out.2.1
           clear hT1 hg1)
        | (at_mapUpdate
           refine wpList_put rfl (.tmp 31) (.tmp 32) (.tmp 33) rfl w.heap.size _ rfl T5.out.1 3 9 3 true rfl rfl rfl rfl (by decide +kernel) ?_
           intro w22 hT2 hg2
           have T6 := Lib.hid (T5.out.grown hT2 hg2)
           have k3 := T6.out.2.1
           clear hT2 hg2)
        | (at_mapUpdate
           refine wpList_put rfl (.tmp 34) (.tmp 35) (.tmp 36) rfl w.heap.size _ rfl T6.out.1 3 13 3 true rfl rfl rfl rfl (by decide +kernel) ?_
           intro w23 hT3 hg3
           have T7 := Lib.hid (T6.out.grown hT3 hg3)
           have k4 := T7.out.2.1
           clear hT3 hg3)
        | (at_mapUpdate
           refine wpList_put rfl (.tmp 37) (.tmp 38) (.tmp 39) rfl w.heap.size _ rfl T7.out.1 4 7 3 false rfl rfl rfl rfl (by decide +kernel) ?_
           intro w24 hT4 hg4
           have T8 := Lib.hid (T7.out.grown hT4 hg4)
           have k5 := T8.out.2.1
           clear hT4 hg4)
        | (at_mapUpdate
           refine wpList_put rfl (.tmp 40) (.tmp 41) (.tmp 42) rfl w.heap.size _ rfl T8.out.1 4 13 4 true rfl rfl rfl rfl (by decide +kernel) ?_
           intro w25 hT5 hg5
           have T9 := Lib.hid (T8.out.grown hT5 hg5)
           have k6 := T9.out.2.1
           clear hT5 hg5)
        | fail)
      have A9 : Hid (TS w (w25.alloc (.cells (ints inn) 3)) L2) := Lib.hid (T9.out.alloc _)
      have M9 : Hid (Nums (w25.alloc (.cells (ints inn) 3)) w25.heap.size inn) := Lib.hid (Nums.made w25 inn)
      have hne9 : w25.heap.size ≠ w.heap.size := by have := T9.out.size; omega
      clear T3 T4 T5 T6 T7 T8 k0 k1 k2 k3 k4 k5
      go_loopw [45] (fun i wr => ∃ k : Nat, k ≤ 11 ∧ i = .int .i64 k ∧ TS w wr (LB k) ∧ Nums wr w25.heap.size inn) (fun i _ => 11 - (intOf i).toNat)
      case atStart => exact ⟨0, by omega, rfl, A9.out, M9.out⟩
      case round =>
        clear A9 M9
        obtain ⟨k, hk, rfl, hT, hN⟩ := hrel
        by_cases hlt : k < 11
        · have hc := hN.cell k (by simpa [inn] using hlt)
          have hb := Lib.hid (TS.both w 4 (inn.getD k 0) 4 rfl (in_W k) (LB k) (by rw [LB_length]; omega) wr hT)
          replace hN := Lib.hid hN
          obtain ⟨z, hz⟩ : ∃ z, z = inn.getD k 0 := ⟨_, rfl⟩
          rw [← hz] at hc hb
          replace hz := Lib.hid hz
          go_wp2_with fail
          refine hb.out.mono ?_
          rintro e w5 ⟨⟨v, rfl⟩, hT5, hg5⟩
          have hN5 := Lib.hid (hN.out.grown hg5 hne9)
          replace hT5 := Lib.hid hT5
          clear hT hc hb hg5
          go_wp2
          go_roundw
          case rel => exact ⟨k + 1, by omega, by go_num, by have := hT5.out; rw [hz.out] at this; exact this, hN5.out⟩
          case measure => simp [intOf]; omega
        · obtain rfl : k = 11 := by omega
          clear hN hk hlt
          replace hT := Lib.hid hT
          go_wp2_with fail
          refine (TS.both w 4 24 6 rfl rfl _ (by decide +kernel) _ hT.out).mono ?_
          rintro e w31 ⟨⟨v31, rfl⟩, U1, _⟩
          replace U1 := Lib.hid U1
          clear hT
          go_wp2_with fail
          refine (TS.both w 4 25 6 rfl rfl _ (by decide +kernel) _ U1.out).mono ?_
          rintro e w32 ⟨⟨v32, rfl⟩, U2, _⟩
          replace U2 := Lib.hid U2
          clear U1
          go_wp2_with fail
          refine (TS.both w 6 12 4 rfl rfl _ (by decide +kernel) _ U2.out).mono ?_
          rintro e w33 ⟨⟨v33, rfl⟩, U3, _⟩
          replace U3 := Lib.hid U3
          clear U2
          have k0 := U3.out.2.1
          go_wp2_with (first
            | (at_mapUpdate
               refine wpList_put rfl (.tmp 59) (.tmp 60) (.tmp 61) rfl w.heap.size _ rfl U3.out.1 6 13 6 true rfl rfl rfl rfl (by decide +kernel) ?_
               intro w40 hT0 hg0
               have U4 := Lib.hid (U3.out.grown hT0 hg0)
               have k1 := U4.out.2.1
               clear hT0 hg0)
            | fail)
          go_returns
          exact ⟨rfl, U4.out.1, U4.out.2.2⟩
end Go.Proofs.Ytddmodiogjnhmaa.PhC
