/- Contracts of pages: laid. -/
import Derived.Test.YtjnpfnpeekpleaaDoorPgA
import Derived.Laws.CopyOwn
import Derived.Laws.OwnMore
import Derived.Deep.RegionHeld3
namespace Go.Proofs.YtjnpfnpeekpleaaDoor.PgB
open Go.ChangeShapes Go.WideShapes Go.ChangeAt Go.RowKit
open EcM EcA EcB EcC EcT EcX EcY EcZ EcWM EcWP EcWR EcFM PgM PgA
set_option linter.unusedVariables false
set_option maxHeartbeats 2000000

theorem words8 (a : Option Addr) (l : List B8) (c : Nat) (w : World) (hn : l.length = 64) (hr : Rd w a l) (ha : ∀ x, 0 < l.length → a = some x → x.block < w.heap.size) (hc : 64 ≤ c) (hc2 : c ≤ maxLen) (hl : Laid w) :
    Calls Tryd.prog 18 #[.slice a 64 c] w fun e w' => ∃ a' c', e = .returned (.slice a' 8 c') ∧ Own w' w.heap.size (.slice a' 8 c') (wordsTo l 8) ∧ Below w.heap.size w w' :=
  wordsW a l 64 c w hn hr ha hc hc2 (by omega) hl

theorem made_vals (k : Nat) : madeCells #[.int .u8 0] k = (vals (List.replicate k 0#8)).toArray := by
  apply Array.toList_inj.1
  rw [toList_madeCells_one]
  simp [vals]
theorem splice_pad (l : List B8) (m : Nat) (h : l.length ≤ m) : splice (vals (List.replicate m 0#8)) 0 (vals l) = vals (padT l m) := by
  unfold splice padT
  rw [vals_append, List.take_zero, List.nil_append, Nat.zero_add, vals_length]
  congr 1
  unfold vals
  rw [← List.map_drop, List.drop_replicate]
  rfl
theorem rd_whole {w : World} {g : Nat} {p : List B8} (h : Whole w g (vals p).toArray) (o n : Nat) (hn : n ≤ 1000000) : Rd w (some ⟨g, o, none⟩) ((p.drop o).take n) := by
  refine ⟨by simp [maxLen]; omega, fun i hi => ⟨g, o, rfl, ?_⟩⟩
  have hi2 : i < n ∧ o + i < p.length := by simp at hi; omega
  rw [h.cell]
  simp [vals, List.getD_eq_getElem?_getD, hi2.1, hi2.2]

theorem layBad (a : Option Addr) (n c : Nat) (k : Int) (w : World) (hm : n ≤ 9223372036854775807) (h : k < 1 ∨ 8 < k ∨ (1 ≤ k ∧ k ≤ 8 ∧ 64 * k < n)) :
    Calls Tryd.prog 8 #[.slice a n c, .int .i64 k] w fun e w' => e = .returned (.tuple #[.slice none 0 0, .int .i64 1]) ∧ w' = w := by
  rcases (show k < 1 ∨ (¬ k < 1 ∧ 8 < k) ∨ (¬ k < 1 ∧ ¬ 8 < k ∧ 64 * k < n) by omega) with h | ⟨h1, h2⟩ | ⟨h1, h2, h3⟩
  all_goals
    go_enter Tryd.func8, Tryd.ntmps8
    go_wp2
    go_ret2
    exact ⟨rfl, rfl⟩

set_option maxRecDepth 100000 in
theorem layW (a : Option Addr) (l : List B8) (n c k : Nat) (w : World) (hn : l.length = n) (hr : Rd w a l) (ha : ∀ x, 0 < l.length → a = some x → x.block < w.heap.size) (h1 : 1 ≤ k) (h8 : k ≤ 8) (hle : n ≤ 64 * k) (hl : Laid w) :
    Calls Tryd.prog 8 #[.slice a n c, .int .i64 (k : Int)] w fun e w' => ∃ a' c', e = .returned (.tuple #[.slice a' (73 * k) c', .int .i64 0]) ∧ Own w' (w.heap.size + 1) (.slice a' (73 * k) c') (layK (padT l (64 * k)) k) ∧ Below w.heap.size w w' := by
  have hP := padT_len l (64 * k) (by omega)
  have hmk1 : (Instr.makeSlice 22 (.int .i64 (64 * (k : Int))) (.int .i64 (64 * (k : Int)))).run Tryd.prog w = .ok (.slice (some ⟨w.heap.size, 0, none⟩) (64 * k) (64 * k)) (w.alloc (.cells (madeCells #[.int .u8 0] (64 * k)) 5)) := by
    have := run_full (64 * k) (by omega) w
    rwa [show (((64 * k : Nat)) : Int) = 64 * (k : Int) by omega] at this
  have hmk2 : ∀ w : World, (Instr.makeSlice 22 (.int .i64 0) (.int .i64 (73 * (k : Int)))).run Tryd.prog w = .ok (.slice (some ⟨w.heap.size, 0, none⟩) 0 (73 * k)) (w.alloc (.cells (madeCells #[.int .u8 0] (73 * k)) 5)) := fun w => by
    have := run_room (73 * k) (by omega) w
    rwa [show (((73 * k : Nat)) : Int) = 73 * (k : Int) by omega] at this
  have HG1 : Hid ((w.alloc (.cells (madeCells #[.int .u8 0] (64 * k)) 5)).heap[w.heap.size]? = some (.cells (vals (List.replicate (64 * k) 0#8)).toArray 5 (0, 0))) := Lib.hid (by rw [← made_vals]; exact heap_alloc_new w _)
  have HBW : Hid (Below w.heap.size w (w.alloc (.cells (madeCells #[.int .u8 0] (64 * k)) 5))) := Lib.hid ((Below.refl _ _).alloc (Nat.le_refl _) _)
  have hl1 : Hid ((vals l).length = Nat.min n (64 * k)) := Lib.hid (by rw [vals_length, hn]; exact (Nat.min_eq_left hle).symm)
  have hl2 : Hid (0 + (vals l).length ≤ (vals (List.replicate (64 * k) 0#8)).length) := Lib.hid (by rw [vals_length, vals_length, List.length_replicate]; omega)
  have hl3 : Hid (0 < (vals l).length → (some ⟨w.heap.size, 0, none⟩ : Option Addr) = some ⟨w.heap.size, 0, none⟩ ∧ ∃ ad, a = some ad ∧ ∀ j v, (vals l)[j]? = some v → (w.alloc (.cells (madeCells #[.int .u8 0] (64 * k)) 5)).cell? (ad.add j) = some v) := Lib.hid fun h0 => ⟨rfl, by
    rw [vals_length] at h0
    obtain ⟨b', off', eb, _⟩ := hr.2 0 h0
    refine ⟨_, eb, fun i v hv => ?_⟩
    have hi : i < l.length := by have := (List.getElem?_eq_some_iff.1 hv).1; simpa [vals_length] using this
    obtain ⟨b2, off2, eb2, hcc⟩ := hr.2 i hi
    rw [eb] at eb2
    injection eb2 with eb2
    injection eb2 with i1 i2
    subst i1 i2
    have hbl := ha _ h0 eb
    rw [Addr.add_lit, (HBW.out.cell (p := ⟨b', off' + i, none⟩) hbl), hcc, ← hv]
    simp [vals, hi]⟩
  have hsp := Lib.hid (splice_pad l (64 * k) (by omega))
  have HLd : Hid (∀ w', Below w.heap.size w w' → Laid w') := Lib.hid fun w' hb => hl.below hb
  have HLn := Lib.hid (fun j (hj : j ≤ k) => layK_len (padT l (64 * k)) k hP j hj)
  have HCn := Lib.hid (fun j (hj : j < k) => ch_len (padT l (64 * k)) j k hP hj)
  have HSn : Hid (∀ j, layK (padT l (64 * k)) j ++ ch (padT l (64 * k)) j ++ wordsTo (ch (padT l (64 * k)) j) 8 ++ [0] = layK (padT l (64 * k)) (j + 1)) := Lib.hid fun j => by
    show _ = layK (padT l (64 * k)) j ++ PgM.one (padT l (64 * k)) j
    unfold PgM.one
    simp only [List.append_assoc]
  have HRd : Hid (∀ w' j, Whole w' w.heap.size (vals (padT l (64 * k))).toArray → Rd w' (some ⟨w.heap.size, 64 * j, none⟩) (ch (padT l (64 * k)) j)) := Lib.hid fun w' j h => rd_whole h (64 * j) 64 (by omega)
  have hL0 : Hid (layK (padT l (64 * k)) 0 = []) := Lib.hid rfl
  generalize padT l (64 * k) = PP at *
  have hk1 : ¬ (k : Int) < 1 := by omega
  have hk2 : ¬ (8 : Int) < (k : Int) := by omega
  have hk3 : ¬ 64 * (k : Int) < (n : Int) := by omega
  clear hr ha hl hP
  replace hn := Lib.hid hn
  go_enter Tryd.func8, Tryd.ntmps8
  go_wp2_with (
    (refine wpList_copy_splice rfl (.tmp 26) (.tmp 27) 22 22 rfl 5 Tryd.underlying22 EcY.s5 _ _ (64 * k) (64 * k) n c rfl rfl w.heap.size 0 (vals (List.replicate (64 * k) 0#8)) 5 HG1.out (vals l) hl1.out hl3.out hl2.out (vals_one _) w.heap.size w HBW.out (Nat.le_refl _) ?_
     intro w2 hg2 hb2
     rw [hsp.out] at hg2
     have hlt2 : Hid (w.heap.size < w2.heap.size) := Lib.hid (Whole.lt (cs := (vals PP).toArray) hg2.out)
     have HO3 := Lib.hid (Own.room w2 (w.heap.size + 1) (73 * k) (by have := hlt2.out; omega) (by simp only [maxLen]; omega))
     have HW3 : Hid (Whole (w2.alloc (.cells (madeCells #[.int .u8 0] (73 * k)) 5)) w.heap.size (vals PP).toArray) := Lib.hid (Whole.below hg2.out ((Below.refl _ w2).alloc (Nat.le_refl _) _) hlt2.out)
     have HB3 := Lib.hid (hb2.alloc hb2.size (.cells (madeCells #[.int .u8 0] (73 * k)) 5))
     clear hb2))
  go_loopw [33, 7] (fun i v wr => ∃ (j : Nat) (a' : Option Addr) (c' : Nat), j ≤ k ∧ i = .int .i64 (j : Int) ∧ v = .slice a' (73 * j) c' ∧ Own wr (w.heap.size + 1) (.slice a' (73 * j) c') (layK PP j) ∧ Whole wr w.heap.size (vals PP).toArray ∧ Below w.heap.size w wr) (fun i _ _ => k - (intOf i).toNat)
  case atStart => exact ⟨0, _, _, by omega, rfl, rfl, by rw [hL0.out]; exact HO3.out, HW3.out, HB3.out⟩
  case round =>
    clear HO3 HW3 HB3
    obtain ⟨j, a', c', hj, rfl, rfl, hO, hW, hB⟩ := hrel
    by_cases hlt : j < k
    · have hlt' : (j : Int) < (k : Int) := by omega
      have i1 : (j : Int) * 64 = ((64 * j : Nat) : Int) := by omega
      have i2 : ((j : Int) + 1) * 64 = ((64 * j + 64 : Nat) : Int) := by omega
      have i3 : (0 : Int) ≤ ((64 * j : Nat) : Int) := by omega
      have i4 : ((64 * j : Nat) : Int) ≤ ((64 * j + 64 : Nat) : Int) := by omega
      have i5 : ((64 * j + 64 : Nat) : Int) ≤ ((64 * k : Nat) : Int) := by omega
      have i6 : 64 * j + 64 - 64 * j = 64 := by omega
      have hcl := Lib.hid (HCn.out j hlt)
      have hll := Lib.hid (HLn.out j hj)
      have hll2 := Lib.hid (HLn.out (j + 1) hlt)
      have hsn := Lib.hid (HSn.out j)
      have hwl := Lib.hid (wordsTo_len (ch PP j) 8)
      have HRj := Lib.hid (fun w' h => HRd.out w' j h)
      have W8 : Hid (∀ w', Whole w' w.heap.size (vals PP).toArray → Below w.heap.size w w' → Calls Tryd.prog 18 #[.slice (some ⟨w.heap.size, 64 * j, none⟩) 64 64] w' fun e w'' => ∃ a' c', e = .returned (.slice a' 8 c') ∧ Own w'' w'.heap.size (.slice a' 8 c') (wordsTo (ch PP j) 8) ∧ Below w'.heap.size w' w'') := Lib.hid fun w' h hb =>
        words8 _ _ 64 w' hcl.out (HRj.out w' h) (fun x _ e => by injection e with e; subst e; exact h.lt) (Nat.le_refl _) (by simp [maxLen]) (HLd.out w' hb)
      generalize ch PP j = C at *
      generalize wordsTo C 8 = WC at *
      generalize layK PP j = X at *
      obtain ⟨Y, hY⟩ : ∃ Y, Y = layK PP (j + 1) := ⟨_, rfl⟩
      rw [← hY] at hll2 hsn
      replace hY := Lib.hid hY
      replace hO := Lib.hid hO
      replace hW := Lib.hid hW
      replace hB := Lib.hid hB
      go_wp2_with (first
        | (at_builtin
           refine wpList_app rfl (.tmp 46) (.tmp 47) rfl (w.heap.size + 1) (.slice a' (73 * j) c') X rfl hO.out (some ⟨w.heap.size, 64 * j, none⟩) C (64 * j + 64 - 64 * j) (64 * j + 64 - 64 * j) rfl (by rw [hcl.out, i6]) (HRj.out _ hW.out) (X ++ C) (73 * j + 64) rfl (by rw [List.length_append, hll.out, hcl.out]) (by omega) (by have := hW.out.lt; omega) ?_
           intro a1 c1 w1 hv1 hr1 hg1 hn1
           have hne : ∀ q, (Value.slice a' (73 * j) c').ownBlock = some q → w.heap.size + 1 ≤ q := fun q e => (hO.out.blocks q e).1
           have hW1 : Hid (Whole w1 w.heap.size (vals PP).toArray) := Lib.hid ((hg1.block _ hW.out.lt (by intro e; have := hne _ e.symm; omega)).trans hW.out)
           have hB1 := Lib.hid (hB.out.grown hg1 hB.out.size (fun q e => by have := hne q e; omega))
           have hV1 := Lib.hid hv1
           clear hv1 hr1 hg1 hn1 hne)
        | (go_at_call 18
           refine (W8.out w1 hW1.out hB1.out).mono ?_
           rintro e w2 ⟨a2, c2, rfl, ho2, hb2⟩
           have hW2 := Lib.hid (Whole.below hW1.out hb2 hW1.out.lt)
           have hV2 := Lib.hid (Own.below hV1.out hb2)
           have hB2 := Lib.hid (hB1.out.trans (hb2.mono hB1.out.size))
           have ho2' := Lib.hid (Own.rd ho2).1
           clear ho2 hb2)
        | (at_builtin
           refine wpList_app rfl (.tmp 49) (.tmp 51) rfl (w.heap.size + 1) (.slice a1 (73 * j + 64) c1) (X ++ C) rfl hV2.out a2 WC 8 c2 rfl hwl.out ho2'.out (X ++ C ++ WC) (73 * j + 72) rfl (by rw [List.length_append, List.length_append, hll.out, hcl.out, hwl.out]) (by omega) (by have := hW2.out.lt; omega) ?_
           intro a3 c3 w3 hv3 hr3 hg3 hn3
           have hne : ∀ q, (Value.slice a1 (73 * j + 64) c1).ownBlock = some q → w.heap.size + 1 ≤ q := fun q e => (hV2.out.blocks q e).1
           have hW3 : Hid (Whole w3 w.heap.size (vals PP).toArray) := Lib.hid ((hg3.block _ hW2.out.lt (by intro e; have := hne _ e.symm; omega)).trans hW2.out)
           have hB3 := Lib.hid (hB2.out.grown hg3 hB2.out.size (fun q e => by have := hne q e; omega))
           have hV3 := Lib.hid hv3
           clear hv3 hr3 hg3 hn3 hne)
        | (at_builtin
           refine wpList_app rfl (.tmp 53) (.tmp 54) rfl (w.heap.size + 1) (.slice a3 (73 * j + 72) c3) (X ++ C ++ WC) rfl (hV3.out.alloc _) _ [0] 1 _ rfl rfl (EcT.one _ 0 _ _ (by simp) rfl) Y (73 * (j + 1)) hsn.out hll2.out (by omega) (by have := hW3.out.lt; simp; omega) ?_
           intro a4 c4 w4 hv4 hr4 hg4 hn4
           have hne : ∀ q, (Value.slice a3 (73 * j + 72) c3).ownBlock = some q → w.heap.size + 1 ≤ q := fun q e => (hV3.out.blocks q e).1
           have hW4 : Hid (Whole w4 w.heap.size (vals PP).toArray) := Lib.hid ((hg4.block _ (by have := hW3.out.lt; simp; omega) (by intro e; have := hne _ e.symm; omega)).trans (Whole.below hW3.out ((Below.refl _ w3).alloc (Nat.le_refl _) _) hW3.out.lt))
           have hB4 := Lib.hid ((hB3.out.alloc hB3.out.size (.cells #[.int .u8 0] 5)).grown hg4 (by have := hB3.out.size; simp; omega) (fun q e => by have := hne q e; omega))
           have hV4 := Lib.hid hv4
           clear hv4 hr4 hg4 hn4 hne))
      go_roundw
      case rel => exact ⟨j + 1, a4, c4, by omega, by go_num, rfl, by rw [← hY.out]; exact hV4.out, hW4.out, hB4.out⟩
      case measure => simp [intOf]; omega
    · obtain rfl : j = k := by omega
      replace hO := Lib.hid hO
      replace hB := Lib.hid hB
      go_wp2
      go_ret2
      exact ⟨a', c', rfl, hO.out, hB.out⟩
end Go.Proofs.YtjnpfnpeekpleaaDoor.PgB
