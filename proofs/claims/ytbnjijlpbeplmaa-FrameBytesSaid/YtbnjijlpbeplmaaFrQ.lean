/- Contracts of frames: long answers made of any bytes, by the program and by the document. -/
import Derived.Test.YtbnjijlpbeplmaaFrP
namespace Go.Proofs.Ytbnjijlpbeplmaa.FrQ
open Go.ChangeShapes Go.WideShapes Go.ChangeAt Go.RowKit
open CrcM CrcB CrcL CrcQ FrA FrB FrT FrD FrR FrL FrU
set_option linter.unusedVariables false
set_option maxHeartbeats 1000000

/-- The first bytes of a list and zeros behind them, sixteen in all. -/
def body (l : List B8) (k : Nat) : List B8 := l.take k ++ List.replicate (16 - k) 0#8
/-- The long answer of any bytes. -/
def longAny (l : List B8) : List B8 := longOf (body l (min l.length 16))
def z17 : Array Value := #[.int .u8 0, .int .u8 0, .int .u8 0, .int .u8 0, .int .u8 0, .int .u8 0, .int .u8 0, .int .u8 0, .int .u8 0, .int .u8 0, .int .u8 0, .int .u8 0, .int .u8 0, .int .u8 0, .int .u8 0, .int .u8 0, .int .u8 0]
theorem body_length (l : List B8) (k : Nat) (h : k ≤ min l.length 16) : (body l k).length = 16 := by simp [body]; omega
theorem longAny_length (l : List B8) : (longAny l).length = 17 := by simp [longAny, longOf, body_length]
theorem row_any (l : List B8) : (vals (longAny l)).toArray.size = 17 := by simp [vals, longAny_length]

theorem spliceRep (X : List B8) (N : Nat) : splice (vals (63#8 :: List.replicate N 0#8)) 1 (vals X) = vals (63#8 :: (X ++ List.replicate (N - X.length) 0#8)) := by
  unfold splice
  simp [vals, Nat.add_comm 1]

set_option maxRecDepth 100000 in
theorem longW (a : Option Addr) (l : List B8) (n c : Nat) (w : World) (hn : l.length = n) (hr : Rd w a l) (ha : ∀ x, 0 < l.length → a = some x → x.block < w.heap.size) :
    Calls Try.prog 47 #[.slice a n c] w fun e w' => e = .returned (.agg (vals (longAny l)).toArray) ∧ Below w.heap.size w w' := by
  have hmax := hr.1
  unfold maxLen at hmax
  obtain ⟨X, hX⟩ : ∃ X, X = l.take (min l.length 16) := ⟨_, rfl⟩
  have hXl : X.length = min n 16 := by rw [hX]; simp; omega
  have HT : Hid (∀ w', Below w.heap.size w w' → Rd w' a X) := Lib.hid fun w' hb' => by rw [hX]; exact Rd.take (Rd.below hr hb' ha) _
  obtain ⟨w1, hw1⟩ : ∃ w1, w1 = w.alloc (.cells z17 85) := ⟨_, rfl⟩
  have hs1 : w1.heap.size = w.heap.size + 1 := by rw [hw1]; simp
  obtain ⟨w2, hw2⟩ : ∃ w2, w2 = w1.alloc (.cells (vals (63#8 :: List.replicate 16 0#8)).toArray 85) := ⟨_, rfl⟩
  have HG0 : Hid (w1.heap[w.heap.size]? = some (.cells z17 85 (0, 0))) := Lib.hid (by rw [hw1]; exact heap_alloc_new _ _)
  have HG1 : Hid (w2.heap[w.heap.size + 1]? = some (.cells (vals (63#8 :: List.replicate 16 0#8)).toArray 85 (0, 0))) := Lib.hid (by rw [hw2, ← hs1]; exact heap_alloc_new _ _)
  have HB1 : Hid (Below (w.heap.size + 1) w1 w2) := Lib.hid (by rw [hw2]; exact (Below.refl _ _).alloc (by omega) _)
  have HB0 : Hid (Below w.heap.size w w1) := Lib.hid (by rw [hw1]; exact (Below.refl _ w).alloc (Nat.le_refl _) _)
  have HSRC : Hid (0 < (vals X).length → some (⟨w.heap.size + 1, 1, none⟩ : Addr) = some ⟨w.heap.size + 1, 1, none⟩ ∧ ∃ ad, a = some ad ∧ ∀ j v, (vals X)[j]? = some v → w2.cell? (ad.add j) = some v) := Lib.hid fun h0 => by
    have hR := HT.out w2 (HB0.out.trans (HB1.out.mono (by omega)))
    rcases hR.cells with h | ⟨b, off, rfl, hc⟩
    · rw [h] at h0; simp [vals] at h0
    · refine ⟨rfl, _, rfl, fun j v hj => ?_⟩
      have hj' : j < X.length := by have := (List.getElem?_eq_some_iff.1 hj).1; simpa [vals_length] using this
      rw [Addr.add_lit, hc j hj', ← hj]; simp [vals, hj']
  have HVL : Hid ((vals X).length = Nat.min n 16) := Lib.hid (by rw [vals_length, hXl])
  have HXL := Lib.hid hXl
  obtain ⟨m, hm⟩ : ∃ m, m = body l (min l.length 16) := ⟨_, rfl⟩
  have HML : Hid (m.length = 16) := Lib.hid (by rw [hm, body_length _ _ (Nat.le_refl _)])
  have HMX : Hid (splice (vals (63#8 :: List.replicate 16 0#8)) 1 (vals X) = vals (63#8 :: m)) := Lib.hid (by
    rw [spliceRep, hXl, hm]
    unfold body
    rw [← hX]
    have e : 16 - min l.length 16 = 16 - min n 16 := by omega
    rw [e])
  have HML2 : Hid (longAny l = longOf m) := Lib.hid (by rw [hm]; rfl)
  clear hm hX hXl hr ha hn
  obtain ⟨y, hy⟩ : ∃ y, y = m.getD 15 0 := ⟨_, rfl⟩
  have HY := Lib.hid hy
  clear hy
  subst hw2
  subst hw1
  go_enter Try.func47, Try.ntmps47
  rw [HML2.out]
  go_wp2_with (first
    | (refine wpList_copy_splice rfl (.tmp 5) (.tmp 6) 24 24 rfl 5 Try.underlying24 s5 _ _ 16 16 n c rfl rfl (w.heap.size + 1) 1 (vals (63#8 :: List.replicate 16 0#8)) 85 HG1.out (vals X) HVL.out HSRC.out (by simp [vals_length, HXL.out]; omega) (vals_one X) (w.heap.size + 1) _ HB1.out (Nat.le_refl _) ?_
       intro w5 hg5 hb5
       have HR5 : Hid (Row91 w5 (w.heap.size + 1) (63#8 :: m)) := Lib.hid (by
         have := hg5.out
         rw [HMX.out] at this
         exact this)
       have c16 : w5.cell? ⟨w.heap.size + 1, 16, none⟩ = some (.int .u8 y.toNat) := by
         have := Row91.cell HR5.out 16 (by simp [HML.out])
         rw [this, HY.out]; rfl
       have z16 := Row91.free HR5.out 16
       have HP : Hid ((w5.setCell ⟨w.heap.size + 1, 16, none⟩ (.int .u8 (bits .or .u8 (y.toNat : Int) 1))).heap[w.heap.size + 1]? = some (.cells (vals (longOf m)).toArray 85 (0, 0))) := Lib.hid (by
         rw [or1]
         have := Row91.put HR5.out 16 (y ||| 1#8)
         unfold longOf
         rw [← HY.out]; exact this)
       have HQ := Lib.hid (hb5.setCell (p := ⟨w.heap.size + 1, 16, none⟩) (Nat.le_refl _) (.int .u8 (bits .or .u8 (y.toNat : Int) 1)))
       have HZ : Hid ((w5.setCell ⟨w.heap.size + 1, 16, none⟩ (.int .u8 (bits .or .u8 (y.toNat : Int) 1))).heap[w.heap.size]? = some (.cells z17 85 (0, 0))) := Lib.hid ((HQ.out.block w.heap.size (by omega)).trans HG0.out)
       have HB9 := Lib.hid (HB0.out.trans (HQ.out.mono (by omega)))
       have HLM : Hid ((vals (longOf m)).toArray.size = 17) := Lib.hid (by simp [vals, longOf, HML.out])
       clear hg5 hb5)
    | (refine loadRow rfl (.tmp 3) rfl (w.heap.size + 1) rfl (vals (longOf m)).toArray 85 HP.out HLM.out ?_)
    | (refine storeRow rfl (.tmp 2) (.tmp 12) rfl w.heap.size rfl z17 (vals (longOf m)).toArray rfl 85 HZ.out HLM.out rfl (vals_all _) w.heap.size w HB9.out (Nat.le_refl _) ?_
       intro w9 hg9 hb9))
  refine bodyPost_ret (results_cell_row Try.results47 _ _ w.heap.size 85 _ (0, 0) _ rfl hg9 Try.underlying85 rfl (by rw [HLM.out]; exact i91)) rfl ⟨rfl, hb9⟩
end Go.Proofs.Ytbnjijlpbeplmaa.FrQ
