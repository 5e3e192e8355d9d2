/- Groups: going over those that are protected. -/
import Derived.Test.YtleflegbdnmgeaaGdC
import Derived.RangeFuncNested
import Derived.RangeFuncBound
import Derived.RangeFuncCalls
import Derived.RangeFuncLeaves
import Derived.RangeFuncBox
import Derived.Shelf.Abstract
import Derived.OwnWalkIn
import Derived.TacticsInMore
import Derived.LoopNIn
import Derived.LoopIn
namespace Go.Proofs.Ytleflegbdnmgeaa.GdD
open Go.ChangeShapes Go.WideShapes Go.ChangeAt Go.RowKit Go.Shelf
open GdT GdA GdB GdC
set_option linter.unusedVariables false
set_option maxHeartbeats 2000000
attribute [local go_sem] Oper.semAt_some

/-- The protected ones among the first k groups. -/
def prs (L : List B8) : Nat → List (Nat × Nat)
  | 0 => []
  | k + 1 => prs L k ++ (if L.getD k 0 = 0 then [] else [(k, (L.getD k 0).toNat)])
theorem prs_length (L : List B8) (k : Nat) : (prs L k).length ≤ k := by
  induction k with
  | zero => simp [prs]
  | succ k ih =>
    unfold prs
    split
    · simp; omega
    · simp; omega
theorem prs_zero (L : List B8) (k : Nat) (h : L.getD k 0 = 0) : prs L (k + 1) = prs L k := by simp only [prs]; rw [if_pos h]; simp
theorem prs_one (L : List B8) (k : Nat) (h : ¬ L.getD k 0 = 0) : prs L (k + 1) = prs L k ++ [(k, (L.getD k 0).toNat)] := by simp only [prs]; rw [if_neg h]

abbrev encs (x : Nat × Nat) : Array Value := #[.int .i64 (x.1 : Int), .int .i64 (x.2 : Int)]

/-- A block is as it was. -/
def Kb (b : Nat) (W W' : World) : Prop := W'.heap[b]? = W.heap[b]?
theorem Kb.cell {b : Nat} {W W' : World} (h : Kb b W W') (k : Nat) : W'.cell? ⟨b, k, none⟩ = W.cell? ⟨b, k, none⟩ := by
  unfold Kb at h
  unfold World.cell?
  simp only [h]

set_option maxRecDepth 100000 in
/-- The closure that goes over them. -/
theorem all1 (l Bs b n c : Nat) (L : List B8) (hL : L.length = n) (hn : n ≤ 256) (J Jx : List (Nat × Nat) → World → Prop)
    (hY : ∀ pre x W, J pre W → pre.length < n → YieldAt Fence.wide 2 Try.prog l (encs x) W fun e W' =>
      (e = .returned (.bool true) ∧ J (pre ++ [x]) W' ∧ Kb b W W') ∨ (e = .returned (.bool false) ∧ Jx (pre ++ [x]) W'))
    (W : World) (hBs : W.cell? ⟨Bs, 0, none⟩ = some (.slice (some ⟨b, 0, none⟩) n c)) (hc : ∀ j, j < n → W.cell? ⟨b, j, none⟩ = some (.int .u8 (L.getD j 0).toNat)) (h0 : J [] W) :
    CallsIn Fence.wide 3 Try.prog 32 #[.func (.yield l) #[] #[], .pointer (some ⟨Bs, 0, none⟩)] W fun e W' => (∃ v, e = .returned v) ∧
      ((∃ ys, ys = prs L n ∧ J ys W') ∨ (∃ pre, (∃ k, k ≤ n ∧ pre = prs L k) ∧ Jx pre W')) := by
  refine callsIn_of_wp Try.func32 rfl trivial ?_ rfl
  simp only [Try.ntmps32, List.size_toArray, List.length_cons, List.length_nil, Nat.reduceAdd, Nat.reduceSub, Array.replicate_succ, Array.replicate_zero, List.push_toArray, List.append_toArray, List.nil_append, List.cons_append]
  gi_wp2
  gi_loopw [7] (fun i wr => ∃ k : Nat, k ≤ n ∧ i = .int .i64 k ∧ J (prs L k) wr ∧ Kb b W wr)
    (fun i _ => n - (intOf i).toNat)
  case atStart => exact ⟨0, Nat.zero_le _, rfl, h0, rfl⟩
  case round =>
    obtain ⟨k, hk, rfl, hJs, hnx⟩ := hrel
    by_cases hlt : k < n
    · have hcx := (Kb.cell hnx k).trans (hc k hlt)
      have hP0 := Lib.hid (prs_zero L k)
      have hP1 := Lib.hid (prs_one L k)
      obtain ⟨fn, tmps, assign, body, hy, hR⟩ := hY _ (k, (L.getD k 0).toNat) wr hJs (by have := prs_length L k; omega)
      dsimp only [encs] at hy
      obtain ⟨y, hyy⟩ : ∃ y, y = L.getD k 0 := ⟨_, rfl⟩
      rw [← hyy] at hcx hP0 hP1 hy hR
      have hy8 := y.isLt
      clear hyy
      replace hJs := Lib.hid hJs
      replace hnx := Lib.hid hnx
      by_cases hz : y = 0
      · subst hz
        have e0 : (((0 : B8)).toNat : Int) = 0 := rfl
        rw [e0] at hcx
        clear hy hR
        have e : prs L (k + 1) = prs L k := hP0.out rfl
        replace e := Lib.hid e
        gi_wp2
        refine ⟨fun _ h => (by cases h), ?_⟩
        gi_wp2
        go_roundw
        case rel => exact ⟨k + 1, by omega, by go_num, by rw [e.out]; exact hJs.out, hnx.out⟩
        case measure => simp [intOf]; omega
      · have hz' : ¬ ((y.toNat : Int) = 0) := fun e => hz (BitVec.eq_of_toNat_eq (by
          have : (0 : B8).toNat = 0 := rfl
          omega))
        have e : prs L (k + 1) = prs L k ++ [(k, y.toNat)] := hP1.out hz
        replace e := Lib.hid e
        gi_wp2
        refine hR.mono ?_
        rintro e' W3 (⟨rfl, hJ3, hk3⟩ | ⟨rfl, hJx3⟩)
        · replace hJ3 := Lib.hid hJ3
          replace hk3 := Lib.hid hk3
          gi_wp2
          go_roundw
          case rel => exact ⟨k + 1, by omega, by go_num, by rw [e.out]; exact hJ3.out, Eq.trans hk3.out hnx.out⟩
          case measure => simp [intOf]; omega
        · replace hJx3 := Lib.hid hJx3
          gi_wp2
          refine bodyPost_ret (results_none rfl _ _ _) rfl ?_
          exact ⟨⟨_, rfl⟩, .inr ⟨_, ⟨k + 1, by omega, e.out.symm⟩, hJx3.out⟩⟩
    · obtain rfl : k = n := by omega
      gi_wp2
      go_end0
      exact ⟨⟨_, rfl⟩, .inl ⟨_, rfl, hJs⟩⟩

theorem all_stops (Bs b n c : Nat) (L : List B8) (hL : L.length = n) (hn : n ≤ 256) (w : World) (hBs : Bs < w.heap.size) (hb : b < w.heap.size)
    (hB : w.cell? ⟨Bs, 0, none⟩ = some (.slice (some ⟨b, 0, none⟩) n c)) (hc : ∀ j, j < n → w.cell? ⟨b, j, none⟩ = some (.int .u8 (L.getD j 0).toNat)) :
    SeqStopsK Fence.wide 3 Try.prog 32 #[.pointer (some ⟨Bs, 0, none⟩)] encs (Kb b) (fun ys => ys = prs L n) (fun pre => ∃ k, k ≤ n ∧ pre = prs L k) n w := fun l J Jx W hW _ _ hY h0 =>
  all1 l Bs b n c L hL hn J Jx hY W ((hW.cell (p := ⟨Bs, 0, none⟩) hBs).trans hB) (fun j hj => (hW.cell (p := ⟨b, j, none⟩) hb).trans (hc j hj)) h0

theorem allW (g q n : Nat) (L : List B8) (w : World) (h : Gd w g q n L) (h0 : 1 ≤ n) :
    Calls Try.prog 31 #[.pointer (some ⟨g, 0, none⟩)] w fun e w' => ∃ Bs b c, e = .returned (.func (.func 32) #[] #[.pointer (some ⟨Bs, 0, none⟩)]) ∧ w'.cell? ⟨Bs, 0, none⟩ = some (.slice (some ⟨b, 0, none⟩) n c) ∧
      (∀ j, j < n → w'.cell? ⟨b, j, none⟩ = some (.int .u8 (L.getD j 0).toNat)) ∧ w.heap.size ≤ b ∧ b < Bs ∧ Bs < w'.heap.size ∧ Below w.heap.size w w' := by
  have c := h.head
  have hL := h.2.2.2.1
  have hn := h.2.2.2.2
  have HC := Lib.hid (clone q n n L w hL (Gd.rd h) h.2.1.lt h0 (by omega))
  replace hL := Lib.hid hL
  clear h
  go_enter Try.func31, Try.ntmps31
  go_wp2_with fail
  refine HC.out.mono ?_
  rintro e' w5 ⟨g5, c5, rfl, hO, hge, hb⟩
  have hlt : g5 < w5.heap.size := (World.ownsRow.lt hO g5 rfl).2
  have hcs : Hid (∀ j, j < n → w5.cell? ⟨g5, j, none⟩ = some (.int .u8 (L.getD j 0).toNat)) := Lib.hid fun j hj => by
    obtain ⟨b', o', e, hh⟩ := (Own.rd hO).1.2 j (by rw [hL.out]; exact hj)
    injection e with e
    injection e with e1 e2
    subst e1 e2
    rw [Nat.zero_add] at hh
    exact hh
  replace hb := Lib.hid hb
  clear hO c HC
  go_wp2
  go_ret
  refine ⟨w5.heap.size, g5, c5, rfl, ?_, ?_, hge, hlt, by simp, hb.out.alloc hb.out.size _⟩
  · exact cell_of_row _ _ 0 _ _ _ (heap_alloc_new w5 _)
  · intro j hj
    exact (World.grownBy_alloc w5 _ (some w5.heap.size)).cell (hcs.out j hj) (by simp; omega)
end Go.Proofs.Ytleflegbdnmgeaa.GdD
