/- Digests: a block's cells as one row. -/
import Derived.Test.YtlfohiejlajmaaaDoorShE
namespace Go.Proofs.YtlfohiejlajmaaaDoor.ShF
open Go.ChangeShapes Go.WideShapes Go.ChangeAt Go.RowKit
open ShM ShA ShB ShC ShD ShE Mem
set_option linter.unusedVariables false
set_option maxHeartbeats 2000000

def bkl (t : St) : List Value := (s8c t.s).toList ++ ((bc t.rest).toList ++ [Value.int .i64 (t.filled : Int), Value.int .u64 (t.len : Int)])
theorem s8c_len (s : S8) : (s8c s).toList.length = 8 := rfl
theorem bc_len (l : List ShM.B8) : (bc l).toList.length = 64 := by rw [Array.length_toList, bc_size]
theorem bkl_len (t : St) : (bkl t).length = 74 := by
  unfold bkl
  rw [List.length_append, List.length_append, s8c_len, bc_len]
  rfl
theorem Bk_of {w : World} {g : Nat} {t : St} (hl : g < w.heap.size) (h : w.rangeAt g 0 (bkl t)) (ht : w.there g 0 74) : Bk w g t := by
  have key : ∀ i v, (bkl t)[i]? = some v → w.cell? ⟨g, i, none⟩ = some v := fun i v hv => by
    have := h i v hv
    rwa [Nat.zero_add] at this
  refine ⟨hl, fun j v hv => ?_, fun j v hv => ?_, ?_, ?_, ht⟩
  · rw [Nat.zero_add]
    have hj := (List.getElem?_eq_some_iff.1 hv).1
    exact key j v (by unfold bkl; rw [List.getElem?_append_left hj]; exact hv)
  · have hj := (List.getElem?_eq_some_iff.1 hv).1
    exact key (8 + j) v (by unfold bkl; rw [List.getElem?_append_right (by rw [s8c_len]; omega), s8c_len, show 8 + j - 8 = j by omega, List.getElem?_append_left hj]; exact hv)
  · exact key 72 _ (by unfold bkl; rw [List.getElem?_append_right (by rw [s8c_len]; omega), s8c_len, List.getElem?_append_right (by rw [bc_len]; omega), bc_len]; rfl)
  · exact key 73 _ (by unfold bkl; rw [List.getElem?_append_right (by rw [s8c_len]; omega), s8c_len, List.getElem?_append_right (by rw [bc_len]; omega), bc_len]; rfl)
theorem Bk_range {w : World} {g : Nat} {t : St} (h : Bk w g t) : w.rangeAt g 0 (bkl t) := fun j v hv => by
  rw [Nat.zero_add]
  unfold bkl at hv
  by_cases h1 : j < 8
  · rw [List.getElem?_append_left (by rw [s8c_len]; exact h1)] at hv
    have := h.s j v hv
    rwa [Nat.zero_add] at this
  · rw [List.getElem?_append_right (by rw [s8c_len]; omega), s8c_len] at hv
    by_cases h2 : j - 8 < 64
    · rw [List.getElem?_append_left (by rw [bc_len]; exact h2)] at hv
      have := h.rest (j - 8) v hv
      rwa [show 8 + (j - 8) = j by omega] at this
    · rw [List.getElem?_append_right (by rw [bc_len]; omega), bc_len] at hv
      have hj := (List.getElem?_eq_some_iff.1 hv).1
      simp only [List.length_cons, List.length_nil] at hj
      rcases (show j = 72 ∨ j = 73 by omega) with rfl | rfl
      · have := h.fl
        simp only [Nat.reduceSub, List.getElem?_cons_zero, Option.some.injEq] at hv
        rw [← hv]; exact this
      · have := h.len
        simp only [Nat.reduceSub, List.getElem?_cons_succ, List.getElem?_cons_zero, Option.some.injEq] at hv
        rw [← hv]; exact this
/-- A digest's state when nothing was written. -/
def fresh0 : St := ⟨ShM.start, List.replicate 64 0, 0, 0⟩
theorem fresh_cells : freshV.toList = bkl fresh0 := by kernel_rfl
theorem fresh_is : Is fresh0 [] := Is.fresh _ (by simp)
end Go.Proofs.YtlfohiejlajmaaaDoor.ShF
