/- Contracts of frames: long answers made of any bytes, by the document. -/
import Derived.Test.YtbnjijlpbeplmaaFrQ
namespace Go.Proofs.Ytbnjijlpbeplmaa.FrQr
open Go.ChangeShapes Go.WideShapes Go.ChangeAt Go.RowKit
open CrcM CrcB CrcL CrcQ FrA FrB FrT FrD FrR FrL FrU FrQ
set_option linter.unusedVariables false
set_option maxHeartbeats 1000000

theorem body_put (l : List B8) (k : Nat) (hk : k < l.length) (h16 : k < 16) : (63#8 :: body l k).set (1 + k) (l.getD k 0) = 63#8 :: body l (k + 1) := by
  have e : 16 - k = (16 - (k + 1)) + 1 := by omega
  rw [Nat.add_comm 1 k, List.set_cons_succ]
  congr 1
  unfold body
  have hkl : (l.take k).length = k := by simp; omega
  rw [List.set_append_right _ _ (by omega), hkl, Nat.sub_self, e, List.replicate_succ, List.set_cons_zero, take_snoc l k hk]
  simp

theorem ends (l : List B8) (n : Nat) (hn : l.length = n) (w wr : World) (hrow : Row91 wr (w.heap.size + 1) (63#8 :: body l (min n 16))) (hb : Below (w.heap.size + 1) (w.alloc (.cells z17 85)) wr) :
    ∃ y : B8, wr.cell? ⟨w.heap.size + 1, 16, none⟩ = some (.int .u8 y.toNat) ∧ wr.frozen? ⟨w.heap.size + 1, 16, none⟩ = false ∧
      (wr.setCell ⟨w.heap.size + 1, 16, none⟩ (.int .u8 (bits .or .u8 (y.toNat : Int) 1))).heap[w.heap.size + 1]? = some (.cells (vals (longAny l)).toArray 85 (0, 0)) ∧
      (wr.setCell ⟨w.heap.size + 1, 16, none⟩ (.int .u8 (bits .or .u8 (y.toNat : Int) 1))).heap[w.heap.size]? = some (.cells z17 85 (0, 0)) ∧
      Below w.heap.size w (wr.setCell ⟨w.heap.size + 1, 16, none⟩ (.int .u8 (bits .or .u8 (y.toNat : Int) 1))) := by
  subst hn
  have hml : (body l (min l.length 16)).length = 16 := body_length _ _ (Nat.le_refl _)
  refine ⟨(body l (min l.length 16)).getD 15 0, ?_, Row91.free hrow 16, ?_, ?_, ?_⟩
  · rw [Row91.cell hrow 16 (by simp [hml])]; rfl
  · rw [or1]
    exact Row91.put hrow 16 _
  · rw [(hb.setCell (p := ⟨w.heap.size + 1, 16, none⟩) (Nat.le_refl _) _).block w.heap.size (by omega)]
    exact heap_alloc_new _ _
  · exact ((Below.refl _ w).alloc (Nat.le_refl _) (.cells z17 85)).trans ((hb.setCell (p := ⟨w.heap.size + 1, 16, none⟩) (Nat.le_refl _) _).mono (by omega))

set_option maxRecDepth 100000 in
theorem longR (a : Option Addr) (l : List B8) (n c : Nat) (w : World) (hn : l.length = n) (hr : Rd w a l) (ha : ∀ x, 0 < l.length → a = some x → x.block < w.heap.size) :
    Calls Try.prog 48 #[.slice a n c] w fun e w' => e = .returned (.agg (vals (longAny l)).toArray) ∧ Below w.heap.size w w' := by
  have hmax := hr.1
  unfold maxLen at hmax
  have HT : Hid (∀ w', Below w.heap.size w w' → Rd w' a l) := Lib.hid fun w' hb' => Rd.below hr hb' ha
  have HN := Lib.hid hn
  have h63 : (n : Int) ≤ 9223372036854775807 := by omega
  clear hmax
  have HS : Hid (Row91 ((w.alloc (.cells z17 85)).alloc (.cells (vals (63#8 :: List.replicate 16 0#8)).toArray 85)) (w.heap.size + 1) (63#8 :: body l 0)) := Lib.hid (by
    have := heap_alloc_new (w.alloc (.cells z17 85)) (.cells (vals (63#8 :: List.replicate 16 0#8)).toArray 85)
    rw [World.size_alloc] at this
    exact this)
  have HB : Hid (Below (w.heap.size + 1) (w.alloc (.cells z17 85)) ((w.alloc (.cells z17 85)).alloc (.cells (vals (63#8 :: List.replicate 16 0#8)).toArray 85))) := Lib.hid ((Below.refl _ _).alloc (by simp) _)
  have HB0 : Hid (Below w.heap.size w (w.alloc (.cells z17 85))) := Lib.hid ((Below.refl _ w).alloc (Nat.le_refl _) _)
  have HLM : Hid ((vals (longAny l)).toArray.size = 17) := Lib.hid (row_any l)
  have HE := Lib.hid (ends l n hn w)
  have HP := Lib.hid (body_put l)
  clear hn hr ha
  go_enter Try.func48, Try.ntmps48
  go_wp2_with fail
  go_loopw [4] (fun i wr => ∃ k : Nat, k ≤ min n 16 ∧ i = .int .i64 k ∧ Row91 wr (w.heap.size + 1) (63#8 :: body l k) ∧ Below (w.heap.size + 1) (w.alloc (.cells z17 85)) wr) (fun i _ => 16 - (intOf i).toNat)
  case atStart => exact ⟨0, by omega, rfl, HS.out, HB.out⟩
  case round =>
    clear HS HB
    obtain ⟨k, hk, rfl, hrow, hbw⟩ := hrel
    by_cases hlt : k < min n 16
    · have k1 : k < 16 := by omega
      have k2 : k < n := by omega
      have HR := HT.out wr (HB0.out.trans (hbw.mono (by omega)))
      have hkl : k < l.length := by rw [HN.out]; omega
      rcases HR.cells with hx | ⟨b, off, rfl, hc⟩
      · rw [hx] at hkl; simp at hkl
      · have hcell := hc k hkl
        have hput := HP.out k hkl k1
        have hbl : (63#8 :: body l k).length = 17 := by simp [body_length l k (by rw [HN.out]; omega)]
        have hold := Row91.cell hrow (1 + k) (by omega)
        have hfree := Row91.free hrow (1 + k)
        obtain ⟨y, hy⟩ : ∃ y : B8, y = l.getD k 0 := ⟨_, rfl⟩
        rw [← hy] at hcell hput
        have HP2 := Lib.hid (Row91.put hrow (1 + k) y)
        rw [hput] at HP2
        have HBW := Lib.hid hbw
        obtain ⟨z, hz⟩ : ∃ z : B8, z = (63#8 :: body l k).getD (1 + k) 0 := ⟨_, rfl⟩
        rw [← hz] at hold
        clear hy hz hc hput hbl hrow hbw HR hkl
        go_wp2
        go_roundw
        case rel => exact ⟨k + 1, by omega, by go_num, HP2.out, HBW.out.setCell (Nat.le_refl _) _⟩
        case measure => simp [intOf]; omega
    · obtain rfl : k = min n 16 := by omega
      obtain ⟨y, c16, z16, hP, hZ, hB9⟩ := HE.out wr hrow hbw
      replace hP := Lib.hid hP
      replace hZ := Lib.hid hZ
      replace hB9 := Lib.hid hB9
      clear hrow hbw
      obtain ⟨K, hK⟩ : ∃ K, K = min n 16 := ⟨_, rfl⟩
      rw [← hK]
      go_wp2_with (first
        | (refine loadRow rfl (.tmp 3) rfl (w.heap.size + 1) rfl (vals (longAny l)).toArray 85 hP.out HLM.out ?_)
        | (refine storeRow rfl (.tmp 2) (.tmp 27) rfl w.heap.size rfl z17 (vals (longAny l)).toArray rfl 85 hZ.out HLM.out rfl (vals_all _) w.heap.size w hB9.out (Nat.le_refl _) ?_
           intro w9 hg9 hb9))
      all_goals refine bodyPost_ret (results_cell_row Try.results48 _ _ w.heap.size 85 _ (0, 0) _ rfl hg9 Try.underlying85 rfl (by rw [HLM.out]; exact i91)) rfl ⟨rfl, hb9⟩
end Go.Proofs.Ytbnjijlpbeplmaa.FrQr
