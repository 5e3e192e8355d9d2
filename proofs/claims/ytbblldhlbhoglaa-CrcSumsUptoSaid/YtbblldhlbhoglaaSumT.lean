/- The sums by tables. -/
import Derived.Test.YtbblldhlbhoglaaSumO
import Derived.Test.YtbblldhlbhoglaaSumR
import Derived.Test.YtbblldhlbhoglaaEndsW
import Derived.IntWalk
namespace Go.Proofs.Ytbblldhlbhoglaa.SumT
open Go.ChangeShapes Go.WideShapes Go.ChangeAt Go.RowKit
open CrcM CrcA CrcK CrcP SumF SumO
set_option linter.unusedVariables false
set_option maxHeartbeats 1000000

def Tables (cs : Array Value) : Prop := ∀ i, i < 256 → cs[3 + i]? = some (v7 i) ∧ cs[259 + i]? = some (v16 i)
def Fresh (cs : Array Value) : Prop := cs[0]? = some (.int .u32 0) ∧ cs[1]? = some (.int .i32 0)
def Done (cs : Array Value) : Prop := cs[0]? = some (.int .u32 1) ∧ Tables cs
/-- A sums' object at block g, that has told u sums. -/
def Sum (w : World) (g : Nat) (u : Int) : Prop := ∃ cs, Blk w g cs ∧ cs.size = 516 ∧ cs[515]? = some (.int .i64 u) ∧ (Fresh cs ∨ Done cs)

theorem ready_done (cs : Array Value) (hs : cs.size = 516) : Done (ready cs) ∧ (ready cs).size = 516 ∧ (ready cs)[515]? = cs[515]? := by
  have h1 : (fillA (cs.setIfInBounds 1 (.int .i32 1)) 256).size = 516 := by rw [fillA_size]; simp [hs]
  refine ⟨⟨?_, fun i hi => ⟨?_, ?_⟩⟩, ?_, ?_⟩
  · unfold ready
    rw [Array.getElem?_setIfInBounds_ne (by omega), Array.getElem?_setIfInBounds_self_of_lt (by omega)]
  · unfold ready
    rw [Array.getElem?_setIfInBounds_ne (by omega), Array.getElem?_setIfInBounds_ne (by omega)]
    exact fillA_7 _ (by simp [hs]) 256 i hi (by omega)
  · unfold ready
    rw [Array.getElem?_setIfInBounds_ne (by omega), Array.getElem?_setIfInBounds_ne (by omega)]
    exact fillA_16 _ (by simp [hs]) 256 i hi (by omega)
  · unfold ready; simp [h1]
  · unfold ready
    rw [Array.getElem?_setIfInBounds_ne (by omega), Array.getElem?_setIfInBounds_ne (by omega), fillA_far _ _ _ (by omega) (by omega), Array.getElem?_setIfInBounds_ne (by omega)]

/-- The first step of each method: the once. -/
theorem once (g : Nat) (u : Int) (w : World) (h : Sum w g u) :
    Calls Try.prog 21 #[.pointer (some ⟨g, 0, none⟩), .func (.func 22) #[.pointer (some ⟨g, 0, none⟩)] #[]] w fun e w' => e = .returned (.tuple #[]) ∧ (∃ cs, Blk w' g cs ∧ cs.size = 516 ∧ cs[515]? = some (.int .i64 u) ∧ Done cs) ∧ w.grownBy w' (some g) := by
  obtain ⟨cs, hb, hs, hu, hf | hd⟩ := h
  · refine Calls.mono (doFirst g cs w hb hs hf.1 hf.2) ?_
    rintro e w' ⟨he, hb', hg⟩
    obtain ⟨r1, r2, r3⟩ := ready_done cs hs
    exact ⟨he, ⟨_, hb', r2, r3.trans hu, r1⟩, hg⟩
  · refine Calls.mono (doDone ⟨g, 0, none⟩ 1 (by omega) _ w ((hb.cell 0).trans hd.1)) ?_
    rintro e w' ⟨he, rfl⟩
    exact ⟨he, ⟨cs, hb, hs, hu, hd⟩, World.grownBy.refl _ _⟩

theorem addOne (g : Nat) (u : Int) (w : World) (hc : w.cell? ⟨g, 515, none⟩ = some (.int .i64 u)) (hz : w.frozen? ⟨g, 515, none⟩ = false) (h0 : 0 ≤ u) (h1 : u ≤ 1000000) :
    Calls Try.prog 23 #[.pointer (some ⟨g, 515, none⟩), .int .i64 1] w fun e w' => e = .returned (.int .i64 (u + 1)) ∧ w' = w.setCell ⟨g, 515, none⟩ (.int .i64 (u + 1)) := by
  have hadd := run_call_add (P := Try.prog) Try.func27 (by kernel_rfl) (by kernel_rfl) (by kernel_rfl) .i64 (by kernel_rfl) (y := 1) (s := u + 1) hc hz (by simp only [go_sem]; exact congrArg (fun z => Result.ok z w) (congrArg _ (IntWalk.i64_in (u + 1) (by omega))))
  go_enter Try.func23, Try.ntmps23
  go_wp2
  go_ret
  exact ⟨rfl, rfl⟩

theorem uses (g : Nat) (u : Int) (w : World) (h : Sum w g u) :
    Calls Try.prog 16 #[.pointer (some ⟨g, 0, none⟩)] w fun e w' => e = .returned (.int .i64 u) ∧ w = w' := by
  obtain ⟨cs, hb, hs, hu, _⟩ := h
  have hl := run_call_load (P := Try.prog) Try.func28 (by kernel_rfl) (by kernel_rfl) (by kernel_rfl) .i64 (by kernel_rfl) ((hb.cell 515).trans hu)
  clear hb hs hu
  go_enter Try.func16, Try.ntmps16
  go_wp2
  go_ret
  exact ⟨rfl, rfl⟩

theorem Rd.grown {w w' : World} {a : Option Addr} {l : List B8} {g : Nat} (h : Rd w a l) (hg : w.grownBy w' (some g)) (ha : ∀ x, 0 < l.length → a = some x → x.block ≠ g) : Rd w' a l :=
  ⟨h.1, fun i hi => by
    obtain ⟨b, off, e, hc⟩ := h.2 i hi
    exact ⟨b, off, e, hg.cell hc (by simpa using ha _ (by omega) e)⟩⟩

theorem s7_tab (r x : B8) : s7 r x = s7 0 (r ^^^ x) := by unfold s7; simp
theorem s16_tab (r : B16) (x : B8) : s16 r x = (r <<< 8) ^^^ s16 0 ((r >>> 8).setWidth 8 ^^^ x) := by
  have ht : t16 r x = t16 0 ((r >>> 8).setWidth 8 ^^^ x) := by
    unfold t16
    have e : ((r >>> 8).setWidth 8 : B8).setWidth 16 = r >>> 8 := by
      apply BitVec.eq_of_toNat_eq
      have := r.isLt
      simp [BitVec.toNat_setWidth, BitVec.toNat_ushiftRight, Nat.shiftRight_eq_div_pow]
      omega
    rw [BitVec.setWidth_xor, e]; simp
  unfold s16
  rw [ht]
  simp [BitVec.xor_assoc]

set_option maxRecDepth 100000 in
theorem seven (g : Nat) (u : Int) (a : Option Addr) (l : List B8) (n c : Nat) (w : World) (hn : l.length = n) (h : Sum w g u) (h0 : 0 ≤ u) (h1 : u ≤ 1000000) (hr : Rd w a l) (ha : ∀ x, 0 < l.length → a = some x → x.block ≠ g) :
    Calls Try.prog 14 #[.pointer (some ⟨g, 0, none⟩), .slice a n c] w fun e w' => e = .returned (.int .u8 (sum7 l).toNat) ∧ Sum w' g (u + 1) ∧ w.grownBy w' (some g) := by
  have hm := hr.1
  rw [hn] at hm
  unfold maxLen at hm
  have HS := Lib.hid h
  have HR : Hid (∀ w', w.grownBy w' (some g) → Rd w' a l) := Lib.hid fun w' hg => Rd.grown hr hg ha
  have HN := Lib.hid hn
  have hmf : ∀ (fn : Fn) (first cap : Array Value) (w : World), (Instr.makeFunc fn first cap).run Try.prog w = .ok (.func fn first cap) w := fun _ _ _ _ => rfl
  clear h hr ha hn
  go_enter Try.func14, Try.ntmps14
  go_wp2_with fail
  refine Calls.mono (once g u w HS.out) ?_
  rintro e w1 ⟨rfl, ⟨cs, hb, hs, hu, hd⟩, hg⟩
  have HA := Lib.hid (addOne g u w1 ((hb.cell 515).trans hu) (hb.free 515) h0 h1)
  obtain ⟨w2, hw2⟩ : ∃ w2, w2 = w1.setCell ⟨g, 515, none⟩ (.int .i64 (u + 1)) := ⟨_, rfl⟩
  have hb2 := hb.put 515 (.int .i64 (u + 1))
  have hg2 := grown_set hg 515 (.int .i64 (u + 1))
  rw [← hw2] at hb2 hg2
  have HSum : Hid (Sum w2 g (u + 1)) := Lib.hid ⟨_, hb2, by simpa using hs, Array.getElem?_setIfInBounds_self_of_lt (by omega), .inr ⟨by rw [Array.getElem?_setIfInBounds_ne (by omega)]; exact hd.1, fun i hi => by
    rw [Array.getElem?_setIfInBounds_ne (by omega), Array.getElem?_setIfInBounds_ne (by omega)]; exact hd.2 i hi⟩⟩
  have HT : Hid (∀ i, i < 256 → w2.cell? ⟨g, 3 + i, none⟩ = some (.int .u8 (n7 i))) := Lib.hid fun i hi => by
    rw [hb2.cell (3 + i), Array.getElem?_setIfInBounds_ne (by omega)]; exact (hd.2 i hi).1
  have HG := Lib.hid hg2
  have HW2 := Lib.hid hw2
  clear hb hs hu hd hg hb2 hg2 hw2
  go_wp2_with fail
  refine Calls.mono HA.out ?_
  rintro e w' ⟨rfl, rfl⟩
  rw [← HW2.out]
  go_wp2_with fail
  by_cases hn0 : n = 0
  · subst hn0
    have hl : l = [] := List.length_eq_zero_iff.1 HN.out
    have HLL := Lib.hid hl
    clear hl
    go_loop [5, 7, 20] (fun s t i => i = .int .i64 0 ∧ s = .int .u8 0) (fun _ _ i => 0)
    case atStart => exact ⟨rfl, rfl⟩
    case round =>
      obtain ⟨rfl, rfl⟩ := hrel
      go_wp2
      go_ret
      exact ⟨ret_int (by rw [HLL.out]; rfl), HSum.out, HG.out⟩
  · obtain ⟨b, off, ea, _⟩ := (HR.out w2 HG.out).2 0 (by rw [HN.out]; omega)
    subst ea
    go_loop [5, 7, 20] (fun s t i => ∃ k : Nat, k ≤ n ∧ i = .int .i64 k ∧ s = .int .u8 (rem7 (l.take k)).toNat) (fun _ _ i => n - (intOf i).toNat)
    case atStart => exact ⟨0, by omega, rfl, rfl⟩
    case round =>
      obtain ⟨k, hk, rfl, rfl⟩ := hrel
      obtain ⟨R, hR⟩ : ∃ R, R = rem7 (l.take k) := ⟨_, rfl⟩
      have HRR := Lib.hid hR
      rw [← hR]
      have hb := R.isLt
      by_cases hlt : k < n
      · obtain ⟨b', off', e, hcell⟩ := (HR.out w2 HG.out).2 k (by rw [HN.out]; exact hlt)
        injection e with e
        injection e with e1 e2
        subst e1 e2
        obtain ⟨x, hx⟩ : ∃ x, x = l.getD k 0 := ⟨_, rfl⟩
        rw [← hx] at hcell
        obtain ⟨q, hq⟩ : ∃ q : Nat, q = (R ^^^ x).toNat := ⟨_, rfl⟩
        have hq256 : q < 256 := by have := (R ^^^ x).isLt; omega
        have hx8 := x8 R x
        rw [← hq] at hx8
        have htab := HT.out q hq256
        have HS7 : Hid (Value.int .u8 (n7 q) = .int .u8 (rem7 (l.take (k + 1))).toNat) := Lib.hid (by
          rw [rem7_snoc l k (by rw [HN.out]; exact hlt), ← hR, ← hx, s7_tab, n7, hq, BitVec.ofNat_toNat]; simp)
        have q0 : (0 : Int) ≤ (q : Int) := Int.natCast_nonneg _
        have q1 : (q : Int) < 256 := by omega
        clear hR hx hq
        go_wp2
        go_round
        case rel => exact ⟨k + 1, by omega, by go_num, HS7.out⟩
        case measure => simp [intOf]; omega
      · obtain rfl : k = n := by omega
        clear hR
        go_wp2
        go_ret
        exact ⟨ret_int (by rw [HRR.out, List.take_of_length_le (by rw [HN.out]; omega), sr8 _ 1 2 rfl]; rfl), HSum.out, HG.out⟩
set_option maxRecDepth 100000 in
theorem sixteen (g : Nat) (u : Int) (a : Option Addr) (l : List B8) (n c : Nat) (w : World) (hn : l.length = n) (h : Sum w g u) (h0 : 0 ≤ u) (h1 : u ≤ 1000000) (hr : Rd w a l) (ha : ∀ x, 0 < l.length → a = some x → x.block ≠ g) :
    Calls Try.prog 15 #[.pointer (some ⟨g, 0, none⟩), .slice a n c] w fun e w' => e = .returned (.int .u16 (sum16 l).toNat) ∧ Sum w' g (u + 1) ∧ w.grownBy w' (some g) := by
  have hm := hr.1
  rw [hn] at hm
  unfold maxLen at hm
  have HS := Lib.hid h
  have HR : Hid (∀ w', w.grownBy w' (some g) → Rd w' a l) := Lib.hid fun w' hg => Rd.grown hr hg ha
  have HN := Lib.hid hn
  have hmf : ∀ (fn : Fn) (first cap : Array Value) (w : World), (Instr.makeFunc fn first cap).run Try.prog w = .ok (.func fn first cap) w := fun _ _ _ _ => rfl
  clear h hr ha hn
  go_enter Try.func15, Try.ntmps15
  go_wp2_with fail
  refine Calls.mono (once g u w HS.out) ?_
  rintro e w1 ⟨rfl, ⟨cs, hb, hs, hu, hd⟩, hg⟩
  have HA := Lib.hid (addOne g u w1 ((hb.cell 515).trans hu) (hb.free 515) h0 h1)
  obtain ⟨w2, hw2⟩ : ∃ w2, w2 = w1.setCell ⟨g, 515, none⟩ (.int .i64 (u + 1)) := ⟨_, rfl⟩
  have hb2 := hb.put 515 (.int .i64 (u + 1))
  have hg2 := grown_set hg 515 (.int .i64 (u + 1))
  rw [← hw2] at hb2 hg2
  have HSum : Hid (Sum w2 g (u + 1)) := Lib.hid ⟨_, hb2, by simpa using hs, Array.getElem?_setIfInBounds_self_of_lt (by omega), .inr ⟨by rw [Array.getElem?_setIfInBounds_ne (by omega)]; exact hd.1, fun i hi => by
    rw [Array.getElem?_setIfInBounds_ne (by omega), Array.getElem?_setIfInBounds_ne (by omega)]; exact hd.2 i hi⟩⟩
  have HT : Hid (∀ i, i < 256 → w2.cell? ⟨g, 259 + i, none⟩ = some (.int .u16 (n16 i))) := Lib.hid fun i hi => by
    rw [hb2.cell (259 + i), Array.getElem?_setIfInBounds_ne (by omega)]; exact (hd.2 i hi).2
  have HG := Lib.hid hg2
  have HW2 := Lib.hid hw2
  clear hb hs hu hd hg hb2 hg2 hw2
  go_wp2_with fail
  refine Calls.mono HA.out ?_
  rintro e w' ⟨rfl, rfl⟩
  rw [← HW2.out]
  go_wp2_with fail
  by_cases hn0 : n = 0
  · subst hn0
    have hl : l = [] := List.length_eq_zero_iff.1 HN.out
    have HLL := Lib.hid hl
    clear hl
    go_loop [5, 7, 20] (fun s t i => i = .int .i64 0 ∧ s = .int .u16 0) (fun _ _ i => 0)
    case atStart => exact ⟨rfl, rfl⟩
    case round =>
      obtain ⟨rfl, rfl⟩ := hrel
      go_wp2
      go_ret
      exact ⟨ret_int (by rw [HLL.out]; rfl), HSum.out, HG.out⟩
  · obtain ⟨b, off, ea, _⟩ := (HR.out w2 HG.out).2 0 (by rw [HN.out]; omega)
    subst ea
    go_loop [5, 7, 20] (fun s t i => ∃ k : Nat, k ≤ n ∧ i = .int .i64 k ∧ s = .int .u16 (sum16 (l.take k)).toNat) (fun _ _ i => n - (intOf i).toNat)
    case atStart => exact ⟨0, by omega, rfl, rfl⟩
    case round =>
      obtain ⟨k, hk, rfl, rfl⟩ := hrel
      obtain ⟨R, hR⟩ : ∃ R, R = sum16 (l.take k) := ⟨_, rfl⟩
      have HRR := Lib.hid hR
      rw [← hR]
      have hb := R.isLt
      by_cases hlt : k < n
      · obtain ⟨b', off', e, hcell⟩ := (HR.out w2 HG.out).2 k (by rw [HN.out]; exact hlt)
        injection e with e
        injection e with e1 e2
        subst e1 e2
        obtain ⟨x, hx⟩ : ∃ x, x = l.getD k 0 := ⟨_, rfl⟩
        rw [← hx] at hcell
        obtain ⟨q, hq⟩ : ∃ q : Nat, q = ((R >>> 8).setWidth 8 ^^^ x : B8).toNat := ⟨_, rfl⟩
        have hq256 : q < 256 := by have := ((R >>> 8).setWidth 8 ^^^ x : B8).isLt; omega
        have hx8 : bits .xor .u8 ((R.toNat : Int) / (256 : Int)) (x.toNat : Int) = (q : Int) := by
          have h256 : (R.toNat : Int) / (256 : Int) = (((R >>> 8).setWidth 8 : B8).toNat : Int) := EndsW.u8_high R
          rw [h256, x8, hq]
        have hd0 : 0 ≤ (R.toNat : Int) / (256 : Int) := by omega
        have htab := HT.out q hq256
        have HS7 : Hid (bits .xor .u16 (IntKind.u16.wrap ((R.toNat : Int) * (256 : Int))) (n16 q) = ((sum16 (l.take (k + 1))).toNat : Int)) := Lib.hid (by
          rw [sl16 R 8 256 rfl, sum16_snoc l k (by rw [HN.out]; exact hlt), ← hR, ← hx, s16_tab, n16, hq, BitVec.ofNat_toNat, x16]; simp)
        have q0 : (0 : Int) ≤ (q : Int) := Int.natCast_nonneg _
        have q1 : (q : Int) < 256 := by omega
        clear hR hx hq
        go_wp2
        go_round
        case rel => exact ⟨k + 1, by omega, by go_num, by rw [← HS7.out]⟩
        case measure => simp [intOf]; omega
      · obtain rfl : k = n := by omega
        clear hR
        go_wp2
        go_ret
        exact ⟨ret_int (by rw [HRR.out, List.take_of_length_le (by rw [HN.out]; omega)]), HSum.out, HG.out⟩
end Go.Proofs.Ytbblldhlbhoglaa.SumT
