/- The law on frames of any command and any bytes: its walk. -/
import Derived.Test.YtbnjijlpbeplmaaFrK
import Derived.Test.YtbnjijlpbeplmaaReg
namespace Go.Proofs.Ytbnjijlpbeplmaa.FrI
open Go.ChangeShapes Go.WideShapes Go.ChangeAt Go.RowKit
open CrcM CrcB CrcL CrcQ FrA FrB FrT FrD FrR FrL FrU FrQ FrK FrP FrV
set_option linter.unusedVariables false
set_option maxHeartbeats 1000000

theorem E64 (b0 b1 b2 b3 b4 b5 : B8) (w : World) : (Op.equalIn 10000 64 (.agg #[.int .u8 b0.toNat, .int .u8 b1.toNat, .int .u8 b2.toNat, .int .u8 b3.toNat, .int .u8 b4.toNat, .int .u8 b5.toNat]) (.agg #[.int .u8 b0.toNat, .int .u8 b1.toNat, .int .u8 b2.toNat, .int .u8 b3.toNat, .int .u8 b4.toNat, .int .u8 b5.toNat])).run Try.prog w = .ok true w := eq6 w b0 b1 b2 b3 b4 b5 b0 b1 b2 b3 b4 b5 true (by simp)
theorem encV_agg (z : Int) (x : B32) : ∃ (b0 b1 b2 b3 b4 b5 : B8) (e : Int), encV z x = .tuple #[.agg #[.int .u8 b0.toNat, .int .u8 b1.toNat, .int .u8 b2.toNat, .int .u8 b3.toNat, .int .u8 b4.toNat, .int .u8 b5.toNat], .int .i64 e] := by
  unfold encV
  split
  · exact ⟨_, _, _, _, _, _, _, rfl⟩
  · exact ⟨_, _, _, _, _, _, _, rfl⟩
theorem readyOf_agg (x : B32) : ∃ b0 b1 b2 b3 b4 b5 : B8, readyOf x = .agg #[.int .u8 b0.toNat, .int .u8 b1.toNat, .int .u8 b2.toNat, .int .u8 b3.toNat, .int .u8 b4.toNat, .int .u8 b5.toNat] := by
  refine ⟨63, (x >>> 24).setWidth 8, (x >>> 16).setWidth 8, (x >>> 8).setWidth 8, x.setWidth 8, 255, ?_⟩
  unfold readyOf
  rw [num1, num2, num3, num4]
  rfl
theorem E85 (l : List B8) (h : l.length = 17) (w : World) : (Op.equalIn 10000 85 (.agg (vals l).toArray) (.agg (vals l).toArray)).run Try.prog w = .ok true w := by
  have h1 := run_equalIn_bytes (P := Try.prog) 9998 85 5 17 Try.underlying85 Try.underlying5 size5 (l.map fun b => ⟨b⟩) (l.map fun b => ⟨b⟩) (by simpa using h) (by simpa using h) (w := w)
  rw [List.map_map] at h1
  have e : (l.map fun b => (⟨b⟩ : UInt8)) = (l.map fun b => (⟨b⟩ : UInt8)) ↔ True := by simp
  simp only [beq_self_eq_true] at h1
  exact h1

theorem lawLong (z : Int) (x st : B32) (a : Option Addr) (n c : Nat) (w : World) (h : 2000 < n) :
    Calls Try.prog 8 #[.agg #[.int .i64 z, .int .u32 x.toNat], .slice a n c, .int .u32 st.toNat] w fun e w' => e = .returned (.bool true) ∧ Below w.heap.size w w' := by
  have h' : (2000 : Int) < (n : Int) := by omega
  go_enter Try.func8, Try.ntmps8
  go_wp2_with fail
  refine (FrB.known _).mono ?_
  rintro e' w2 ⟨rfl, b2⟩
  go_wp2
  go_returns
  exact ⟨rfl, ((Below.refl _ w).alloc (Nat.le_refl _) _).trans (b2.mono (by simp))⟩

set_option maxRecDepth 100000 in
theorem lawShort (z : Int) (x st : B32) (a : Option Addr) (l : List B8) (n c : Nat) (w : World) (hn : l.length = n) (hc : n ≤ c) (hr : Rd w a l) (ha : ∀ y, 0 < l.length → a = some y → y.block < w.heap.size) (hle : n ≤ 2000) :
    Calls Try.prog 8 #[.agg #[.int .i64 z, .int .u32 x.toNat], .slice a n c, .int .u32 st.toNat] w fun e w' => e = .returned (.bool true) ∧ Below w.heap.size w w' := by
  obtain ⟨w1, hw1⟩ : ∃ w1, w1 = w.alloc (.cells #[.int .i64 z, .int .u32 x.toNat] 63) := ⟨_, rfl⟩
  have m1 : Mem.Blk w1 w.heap.size 63 #[.int .i64 z, .int .u32 x.toNat] := by rw [hw1]; exact Mem.Blk.new w 63 _
  have D1 : Hid (Below w.heap.size w w1) := Lib.hid (by rw [hw1]; exact (Below.refl _ _).alloc (Nat.le_refl _) _)
  have H33 := Lib.hid (fun w => enc z x w)
  have H34 := Lib.hid (fun w => encR z x w)
  have HR : Hid (∀ w', Below w.heap.size w w' → Rd w' a l) := Lib.hid fun w' hb => Rd.below hr hb ha
  have HA : Hid (∀ w', Below w.heap.size w w' → ∀ y, 0 < l.length → a = some y → y.block < w'.heap.size) := Lib.hid fun w' hb y h e => Nat.lt_of_lt_of_le (ha y h e) hb.size
  have H35 := Lib.hid (fun w' hb => FrY.decW a l n c w' hn hc (HR.out w' hb) (HA.out w' hb))
  have H36 := Lib.hid (fun w' hb => FrY.decR a l n c w' hn hc (HR.out w' hb) (HA.out w' hb))
  have H37 := Lib.hid (fun w' hb => FrF.find a l n c w' hn (HR.out w' hb))
  have H38 := Lib.hid (fun w' hb => FrV.refFind a l n c w' hn (HR.out w' hb))
  have H39 := Lib.hid (fun w' hb => FrY.readW a l n c w' hn hc (HR.out w' hb))
  have H40 := Lib.hid (fun w' hb => FrY.readR a l n c w' hn hc (HR.out w' hb))
  have H41 := Lib.hid (fun w' hb => FrK.longW a l n c w' hn hc (HR.out w' hb) (HA.out w' hb))
  have H42 := Lib.hid (fun w' hb => FrK.longR a l n c w' hn hc (HR.out w' hb) (HA.out w' hb))
  have H43 := Lib.hid (fun w => FrP.response z _ (asByte' z) st w)
  have H44 := Lib.hid (fun w => FrP.responseR z _ (asByte' z) st w)
  have H45 := Lib.hid (fun w => FrV.ready st w)
  have H46 := Lib.hid (fun w => FrV.refReady st w)
  have H47 := Lib.hid (fun w' hb => FrQ.longW a l n c w' hn (HR.out w' hb) (HA.out w' hb))
  have H48 := Lib.hid (fun w' hb => FrQr.longR a l n c w' hn (HR.out w' hb) (HA.out w' hb))
  obtain ⟨b0, b1, b2, b3, b4, b5, ee, hV⟩ := encV_agg z x
  rw [hV] at H33 H34
  clear hV
  have e64 := E64 b0 b1 b2 b3 b4 b5
  have n64 : ∀ w : World, (binOp .neq 64 (.agg #[.int .u8 b0.toNat, .int .u8 b1.toNat, .int .u8 b2.toNat, .int .u8 b3.toNat, .int .u8 b4.toNat, .int .u8 b5.toNat]) (.agg #[.int .u8 b0.toNat, .int .u8 b1.toNat, .int .u8 b2.toNat, .int .u8 b3.toNat, .int .u8 b4.toNat, .int .u8 b5.toNat])).run Try.prog w = .ok (.bool false) w := fun w => by
    simp [go_sem, e64 w]
  have hA43 : ∃ A, frmV 0 (BitVec.ofInt 8 z) st = .agg A ∧ ∀ w : World, (Op.equalIn 10000 64 (.agg A) (.agg A)).run Try.prog w = .ok true w := by
    obtain ⟨d0, d1, d2, d3, d4, d5, e⟩ := frmV_agg 0 (BitVec.ofInt 8 z) st
    exact ⟨_, e, E64 d0 d1 d2 d3 d4 d5⟩
  have hA45 : ∃ A, readyOf st = .agg A ∧ ∀ w : World, (Op.equalIn 10000 64 (.agg A) (.agg A)).run Try.prog w = .ok true w := by
    obtain ⟨d0, d1, d2, d3, d4, d5, e⟩ := readyOf_agg st
    exact ⟨_, e, E64 d0 d1 d2 d3 d4 d5⟩
  have e85 := E85 (longAny l) (longAny_length l)
  obtain ⟨A43, hA43, e43⟩ := hA43
  obtain ⟨A45, hA45, e45⟩ := hA45
  rw [hA43] at H43 H44
  rw [hA45] at H45 H46
  generalize (vals (longAny l)).toArray = A47 at H47 H48 e85
  obtain ⟨T1, hT1⟩ : ∃ T, T = tell 1 l := ⟨_, rfl⟩
  obtain ⟨T0, hT0⟩ : ∃ T, T = tell 0 l := ⟨_, rfl⟩
  rw [← hT1] at H35 H36
  rw [← hT0] at H39 H40
  obtain ⟨p1, p2, p3⟩ := T1
  obtain ⟨q1, q2, q3⟩ := T0
  simp only at H35 H36 H39 H40
  generalize FrF.fnd l = F at H37 H38
  obtain ⟨RR, hRR⟩ : ∃ R, R = rl l := ⟨_, rfl⟩
  rw [← hRR] at H41 H42
  obtain ⟨RL, RE⟩ := RR
  unfold FrK.Told at H41 H42
  simp only at H41 H42
  have CV : Hid (∀ (w' : World) a' n' c', RL.length = n' → Rd w' a' RL → (convert 24 9 (.slice a' n' c')).run Try.prog w' = .ok (.string (strB RL)) w') := Lib.hid fun w' a' n' c' h h' => conv w' a' RL n' c' h h'
  generalize strB = S at CV
  have hgt : ¬ (2000 : Int) < (n : Int) := by omega
  replace e64 := Lib.hid e64
  replace n64 := Lib.hid n64
  replace e43 := Lib.hid e43
  replace e45 := Lib.hid e45
  replace e85 := Lib.hid e85
  clear hT1 hT0 hRR hA43 hA45 hn hc hr ha hle
  go_enter Try.func8, Try.ntmps8
  go_wp2_with fail
  rw [← hw1]
  replace hw1 := Lib.hid hw1
  refine (FrB.known _).mono ?_
  rintro e' w2 ⟨rfl, b2⟩
  have m2 := Mem.Blk.below m1 b2 m1.lt
  have D2 := Lib.hid (D1.out.trans (b2.mono D1.out.size))
  clear b2 m1
  have k0 := m2.cell 0
  have k1 := m2.cell 1
  go_wp2_with fail
  refine (H33.out _).mono ?_
  rintro e' w3 ⟨rfl, b3⟩
  have m3 := Mem.Blk.below m2 b3 m2.lt
  have D3 := Lib.hid (D2.out.trans (b3.mono D2.out.size))
  clear b3 m2 k0 k1
  obtain ⟨w4, hw4⟩ : ∃ w4, w4 = w3.alloc (.cells #[.int .u8 b0.toNat, .int .u8 b1.toNat, .int .u8 b2.toNat, .int .u8 b3.toNat, .int .u8 b4.toNat, .int .u8 b5.toNat] 64) := ⟨_, rfl⟩
  have x4 : Mem.Blk w4 w3.heap.size 64 #[.int .u8 b0.toNat, .int .u8 b1.toNat, .int .u8 b2.toNat, .int .u8 b3.toNat, .int .u8 b4.toNat, .int .u8 b5.toNat] := by rw [hw4]; exact Mem.Blk.new w3 64 _
  have m4 : Mem.Blk w4 w.heap.size 63 #[.int .i64 z, .int .u32 x.toNat] := by rw [hw4]; exact m3.alloc _
  have D4 : Hid (Below w.heap.size w w4) := Lib.hid (by rw [hw4]; exact D3.out.alloc D3.out.size _)
  have k0 := m4.cell 0
  have k1 := m4.cell 1
  rw [hw4] at k0 k1
  go_wp2_with fail
  rw [← hw4]
  rw [← hw4] at k0 k1
  replace hw4 := Lib.hid hw4
  refine (H34.out _).mono ?_
  rintro e' w5 ⟨rfl, b5'⟩
  have m5 := Mem.Blk.below m4 b5' m4.lt
  have x5 := Mem.Blk.below x4 b5' x4.lt
  have D5 := Lib.hid (D4.out.trans (b5'.mono D4.out.size))
  clear b5' m4 x4 k0 k1
  go_wp2_with fail
  obtain ⟨w6, hw6⟩ : ∃ w6, w6 = w5.alloc (.cells #[.int .u8 b0.toNat, .int .u8 b1.toNat, .int .u8 b2.toNat, .int .u8 b3.toNat, .int .u8 b4.toNat, .int .u8 b5.toNat] 64) := ⟨_, rfl⟩
  rw [← hw6]
  have y6 : Mem.Blk w6 w5.heap.size 64 #[.int .u8 b0.toNat, .int .u8 b1.toNat, .int .u8 b2.toNat, .int .u8 b3.toNat, .int .u8 b4.toNat, .int .u8 b5.toNat] := by rw [hw6]; exact Mem.Blk.new w5 64 _
  have x6 : Mem.Blk w6 w3.heap.size 64 #[.int .u8 b0.toNat, .int .u8 b1.toNat, .int .u8 b2.toNat, .int .u8 b3.toNat, .int .u8 b4.toNat, .int .u8 b5.toNat] := by rw [hw6]; exact x5.alloc _
  have m6 : Mem.Blk w6 w.heap.size 63 #[.int .i64 z, .int .u32 x.toNat] := by rw [hw6]; exact m5.alloc _
  have D6 : Hid (Below w.heap.size w w6) := Lib.hid (by rw [hw6]; exact D5.out.alloc D5.out.size _)
  replace hw6 := Lib.hid hw6
  clear m5 x5
  refine (H35.out _ D6.out).mono ?_
  rintro e' w7 ⟨rfl, b7⟩
  have m7 := Mem.Blk.below m6 b7 m6.lt
  have x7 := Mem.Blk.below x6 b7 x6.lt
  have y7 := Mem.Blk.below y6 b7 y6.lt
  have D7 := Lib.hid (D6.out.trans (b7.mono D6.out.size))
  clear b7 m6 x6 y6
  go_wp2_with fail
  obtain ⟨w8, hw8⟩ : ∃ w8, w8 = w7.alloc (.cells #[.int .i64 p1, .int .u32 p2] 63) := ⟨_, rfl⟩
  rw [← hw8]
  have d8 : Mem.Blk w8 w7.heap.size 63 #[.int .i64 p1, .int .u32 p2] := by rw [hw8]; exact Mem.Blk.new w7 63 _
  have y8 : Mem.Blk w8 w5.heap.size 64 #[.int .u8 b0.toNat, .int .u8 b1.toNat, .int .u8 b2.toNat, .int .u8 b3.toNat, .int .u8 b4.toNat, .int .u8 b5.toNat] := by rw [hw8]; exact y7.alloc _
  have x8 : Mem.Blk w8 w3.heap.size 64 #[.int .u8 b0.toNat, .int .u8 b1.toNat, .int .u8 b2.toNat, .int .u8 b3.toNat, .int .u8 b4.toNat, .int .u8 b5.toNat] := by rw [hw8]; exact x7.alloc _
  have m8 : Mem.Blk w8 w.heap.size 63 #[.int .i64 z, .int .u32 x.toNat] := by rw [hw8]; exact m7.alloc _
  have D8 : Hid (Below w.heap.size w w8) := Lib.hid (by rw [hw8]; exact D7.out.alloc D7.out.size _)
  replace hw8 := Lib.hid hw8
  clear m7 x7 y7
  refine (H36.out _ D8.out).mono ?_
  rintro e' w9 ⟨rfl, b9⟩
  have m9 := Mem.Blk.below m8 b9 m8.lt
  have x9 := Mem.Blk.below x8 b9 x8.lt
  have y9 := Mem.Blk.below y8 b9 y8.lt
  have d9 := Mem.Blk.below d8 b9 d8.lt
  have D9 := Lib.hid (D8.out.trans (b9.mono D8.out.size))
  clear b9 m8 x8 y8 d8
  obtain ⟨w10, hw10⟩ : ∃ w10, w10 = w9.alloc (.cells #[.int .i64 p1, .int .u32 p2] 69) := ⟨_, rfl⟩
  have h10 : Mem.Blk w10 w9.heap.size 69 #[.int .i64 p1, .int .u32 p2] := by rw [hw10]; exact Mem.Blk.new w9 69 _
  have d10 : Mem.Blk w10 w7.heap.size 63 #[.int .i64 p1, .int .u32 p2] := by rw [hw10]; exact d9.alloc _
  have y10 : Mem.Blk w10 w5.heap.size 64 #[.int .u8 b0.toNat, .int .u8 b1.toNat, .int .u8 b2.toNat, .int .u8 b3.toNat, .int .u8 b4.toNat, .int .u8 b5.toNat] := by rw [hw10]; exact y9.alloc _
  have x10 : Mem.Blk w10 w3.heap.size 64 #[.int .u8 b0.toNat, .int .u8 b1.toNat, .int .u8 b2.toNat, .int .u8 b3.toNat, .int .u8 b4.toNat, .int .u8 b5.toNat] := by rw [hw10]; exact x9.alloc _
  have m10 : Mem.Blk w10 w.heap.size 63 #[.int .i64 z, .int .u32 x.toNat] := by rw [hw10]; exact m9.alloc _
  have D10 : Hid (Below w.heap.size w w10) := Lib.hid (by rw [hw10]; exact D9.out.alloc D9.out.size _)
  clear m9 x9 y9 d9
  obtain ⟨x0, x1, x2, x3, x4, x5, xz⟩ := sixCells x10
  obtain ⟨y0, y1, y2, y3, y4, y5, yz⟩ := sixCells y10
  have dd0 := d10.cell 0
  have dd1 := d10.cell 1
  have hh0 := h10.cell 0
  have hh1 := h10.cell 1
  clear x10 y10 d10 h10 xz yz
  replace m10 := Lib.hid m10
  have n64' := n64.out
  have e64' := e64.out
  rw [hw10] at x0 x1 x2 x3 x4 x5 y0 y1 y2 y3 y4 y5 dd0 dd1 hh0 hh1
  go_wp2_with fail
  rw [← hw10]
  rw [← hw10] at x0 x1 x2 x3 x4 x5 y0 y1 y2 y3 y4 y5 dd0 dd1 hh0 hh1
  replace hw10 := Lib.hid hw10
  refine (H37.out _ D10.out).mono ?_
  rintro e' w10' ⟨rfl, hq⟩
  obtain rfl := hq.symm
  go_wp2_with fail
  refine (H38.out _ D10.out).mono ?_
  rintro e' w10' ⟨rfl, hq⟩
  obtain rfl := hq.symm
  clear n64' e64'
  go_wp2_with fail
  clear x0 x1 x2 x3 x4 x5 y0 y1 y2 y3 y4 y5 dd0 dd1 hh0 hh1
  refine (H39.out _ D10.out).mono ?_
  rintro e' w11 ⟨rfl, b11⟩
  have m11 := Lib.hid (Mem.Blk.below m10.out b11 m10.out.lt)
  have D11 := Lib.hid (D10.out.trans (b11.mono D10.out.size))
  clear b11 m10
  go_wp2_with fail
  refine (H40.out _ D11.out).mono ?_
  rintro e' w12 ⟨rfl, b12⟩
  have m12 := Lib.hid (Mem.Blk.below m11.out b12 m11.out.lt)
  have D12 := Lib.hid (D11.out.trans (b12.mono D11.out.size))
  clear b12 m11
  go_wp2_with fail
  refine (H41.out _ D12.out).mono ?_
  rintro e' w13 ⟨a13, n13, c13, rfl, l13, r13, t13, b13⟩
  have m13 := Lib.hid (Mem.Blk.below m12.out b13 m12.out.lt)
  have D13 := Lib.hid (D12.out.trans (b13.mono D12.out.size))
  replace l13 := Lib.hid l13
  replace r13 := Lib.hid r13
  replace t13 := Lib.hid t13
  clear b13 m12
  go_wp2_with fail
  refine (H42.out _ D13.out).mono ?_
  rintro e' w14 ⟨a14, n14, c14, rfl, l14, r14, t14, b14⟩
  have m14 := Lib.hid (Mem.Blk.below m13.out b14 m13.out.lt)
  have D14 := Lib.hid (D13.out.trans (b14.mono D13.out.size))
  replace r13 := Lib.hid (Rd.below r13.out b14 t13.out)
  replace t13 : Hid (∀ y, 0 < RL.length → a13 = some y → y.block < w14.heap.size) := Lib.hid fun y h e => Nat.lt_of_lt_of_le (t13.out y h e) b14.size
  replace l14 := Lib.hid l14
  replace r14 := Lib.hid r14
  replace t14 := Lib.hid t14
  clear b14 m13
  have AL : Hid (∀ w', Below w14.heap.size w14 w' → (w'.cell? ⟨w.heap.size, 0, none⟩ = some (.int .i64 z) ∧ (convert 24 9 (.slice a13 n13 c13)).run Try.prog w' = .ok (.string (S RL)) w') ∧ (convert 24 9 (.slice a14 n14 c14)).run Try.prog w' = .ok (.string (S RL)) w') := Lib.hid fun w' hb => ⟨⟨(Mem.Blk.below m14.out hb m14.out.lt).cell 0, CV.out w' a13 n13 c13 l13.out (Rd.below r13.out hb t13.out)⟩, CV.out w' a14 n14 c14 l14.out (Rd.below r14.out hb t14.out)⟩
  have DD : Hid (Below w14.heap.size w14 w14.drew) := Lib.hid (Below.refl _ _).drew
  clear HR HA H33 H34 H35 H36 H37 H38 H39 H40 H41 H42
  go_wp2_with fail
  have e43 := e43.out
  have e45 := e45.out
  have e85 := e85.out
  refine wp_region_held_drew (S := fun w' => (w'.cell? ⟨w.heap.size, 0, none⟩ = some (.int .i64 z) ∧ (convert 24 9 (.slice a13 n13 c13)).run Try.prog w' = .ok (.string (S RL)) w') ∧ (convert 24 9 (.slice a14 n14 c14)).run Try.prog w' = .ok (.string (S RL)) w') (by kernel_rfl) (AL.out _ DD.out) (fun hS => ?_)
  refine wpAnyH_take (i := 0) (v := ?_) (by simp only [List.getElem?_toArray, List.getElem?_cons_succ, List.getElem?_cons_zero]; rfl) (by kernel_rfl) (by kernel_rfl) (by kernel_rfl) (by exact fun _ _ _ h => h) (Or.inl ⟨by rfl, ?_⟩) hS ?_
  rotate_left
  · intro w hSw
    go_simp
    try with_reducible rfl
  try simp only [Act.put, List.setIfInBounds_toArray, List.set_cons_zero, List.set_cons_succ]
  refine wpAnyH_take (i := 1) (v := ?_) (by simp only [List.getElem?_toArray, List.getElem?_cons_succ, List.getElem?_cons_zero]; rfl) (by kernel_rfl) (by kernel_rfl) (by kernel_rfl) (by exact fun _ _ _ h => h) (Or.inl ⟨by rfl, ?_⟩) hS ?_
  rotate_left
  · intro w hSw
    go_simp
    try with_reducible rfl
  try simp only [Act.put, List.setIfInBounds_toArray, List.set_cons_zero, List.set_cons_succ]
  refine wpAnyH_take (i := 2) (v := ?_) (by simp only [List.getElem?_toArray, List.getElem?_cons_succ, List.getElem?_cons_zero]; rfl) (by kernel_rfl) (by kernel_rfl) (by kernel_rfl) (by exact fun _ _ _ h => h) (Or.inl ⟨by rfl, ?_⟩) hS ?_
  rotate_left
  · intro w hSw
    go_simp
    try with_reducible rfl
  try simp only [Act.put, List.setIfInBounds_toArray, List.set_cons_zero, List.set_cons_succ]
  refine wpAnyH_take (i := 3) (v := ?_) (by simp only [List.getElem?_toArray, List.getElem?_cons_succ, List.getElem?_cons_zero]; rfl) (by kernel_rfl) (by kernel_rfl) (by kernel_rfl) (by exact fun _ _ _ h => h) (Or.inl ⟨by rfl, ?_⟩) hS ?_
  rotate_left
  · intro w hSw
    go_simp
    try with_reducible rfl
  try simp only [Act.put, List.setIfInBounds_toArray, List.set_cons_zero, List.set_cons_succ]
  refine wpAnyH_take (i := 4) (v := ?_) (by simp only [List.getElem?_toArray, List.getElem?_cons_succ, List.getElem?_cons_zero]; rfl) (by kernel_rfl) (by kernel_rfl) (by kernel_rfl) (by exact fun _ _ _ h => h) (Or.inl ⟨by rfl, ?_⟩) hS ?_
  rotate_left
  · intro w hSw
    go_simp
    try with_reducible rfl
  try simp only [Act.put, List.setIfInBounds_toArray, List.set_cons_zero, List.set_cons_succ]
  refine wpAnyH_take (i := 5) (v := ?_) (by simp only [List.getElem?_toArray, List.getElem?_cons_succ, List.getElem?_cons_zero]; rfl) (by kernel_rfl) (by kernel_rfl) (by kernel_rfl) (by exact fun _ _ _ h => h) (Or.inl ⟨by rfl, ?_⟩) hS ?_
  rotate_left
  · intro w hSw
    go_simp
    try with_reducible rfl
  try simp only [Act.put, List.setIfInBounds_toArray, List.set_cons_zero, List.set_cons_succ]
  refine wpAnyH_take (i := 6) (v := ?_) (by simp only [List.getElem?_toArray, List.getElem?_cons_succ, List.getElem?_cons_zero]; rfl) (by kernel_rfl) (by kernel_rfl) (by kernel_rfl) (by exact fun _ _ _ h => h) (Or.inl ⟨by rfl, ?_⟩) hS ?_
  rotate_left
  · intro w hSw
    go_simp
    try with_reducible rfl
  try simp only [Act.put, List.setIfInBounds_toArray, List.set_cons_zero, List.set_cons_succ]
  refine wpAnyH_take (i := 7) (v := ?_) (by simp only [List.getElem?_toArray, List.getElem?_cons_succ, List.getElem?_cons_zero]; rfl) (by kernel_rfl) (by kernel_rfl) (by kernel_rfl) (by exact fun _ _ _ h => h) (Or.inl ⟨by rfl, ?_⟩) hS ?_
  rotate_left
  · intro w hSw
    go_simp
    try with_reducible rfl
  try simp only [Act.put, List.setIfInBounds_toArray, List.set_cons_zero, List.set_cons_succ]
  refine wpAnyH_take (i := 8) (v := ?_) (by simp only [List.getElem?_toArray, List.getElem?_cons_succ, List.getElem?_cons_zero]; rfl) (by kernel_rfl) (by kernel_rfl) (by kernel_rfl) (by exact fun _ _ _ h => h) (Or.inl ⟨by rfl, ?_⟩) hS ?_
  rotate_left
  · intro w hSw
    go_simp
    try with_reducible rfl
  try simp only [Act.put, List.setIfInBounds_toArray, List.set_cons_zero, List.set_cons_succ]
  refine wpAnyH_take (i := 9) (v := ?_) (by simp only [List.getElem?_toArray, List.getElem?_cons_succ, List.getElem?_cons_zero]; rfl) (by kernel_rfl) (by kernel_rfl) (by kernel_rfl) (by exact fun _ _ _ h => h) (Or.inl ⟨by rfl, ?_⟩) hS ?_
  rotate_left
  · intro w hSw
    go_simp
    try with_reducible rfl
  try simp only [Act.put, List.setIfInBounds_toArray, List.set_cons_zero, List.set_cons_succ]
  refine wpAnyH_take (i := 10) (v := ?_) (by simp only [List.getElem?_toArray, List.getElem?_cons_succ, List.getElem?_cons_zero]; rfl) (by kernel_rfl) (by kernel_rfl) (by kernel_rfl) (by exact fun _ _ _ h => h) (Or.inl ⟨by rfl, ?_⟩) hS ?_
  rotate_left
  · intro w hSw
    go_simp
    try with_reducible rfl
  try simp only [Act.put, List.setIfInBounds_toArray, List.set_cons_zero, List.set_cons_succ]
  refine wpAnyH_take (i := 11) (v := ?_) (by simp only [List.getElem?_toArray, List.getElem?_cons_succ, List.getElem?_cons_zero]; rfl) (by kernel_rfl) (by kernel_rfl) (by kernel_rfl) (by exact fun _ _ _ h => h) (Or.inl ⟨by rfl, ?_⟩) hS ?_
  rotate_left
  · intro w hSw
    go_simp
    try with_reducible rfl
  try simp only [Act.put, List.setIfInBounds_toArray, List.set_cons_zero, List.set_cons_succ]
  refine wpAnyH_take (i := 12) (v := ?_) (by simp only [List.getElem?_toArray, List.getElem?_cons_succ, List.getElem?_cons_zero]; rfl) (by kernel_rfl) (by kernel_rfl) (by kernel_rfl) (by exact fun _ _ _ h => h) (Or.inl ⟨by rfl, ?_⟩) hS ?_
  rotate_left
  · intro w hSw
    go_simp
    try with_reducible rfl
  try simp only [Act.put, List.setIfInBounds_toArray, List.set_cons_zero, List.set_cons_succ]
  refine wpAnyH_take (i := 13) (v := ?_) (by simp only [List.getElem?_toArray, List.getElem?_cons_succ, List.getElem?_cons_zero]; rfl) (by kernel_rfl) (by kernel_rfl) (by kernel_rfl) (by exact fun _ _ _ h => h) (Or.inl ⟨by rfl, ?_⟩) hS ?_
  rotate_left
  · intro w hSw
    go_simp
    try with_reducible rfl
  try simp only [Act.put, List.setIfInBounds_toArray, List.set_cons_zero, List.set_cons_succ]
  refine wpAnyH_take (i := 14) (v := ?_) (by simp only [List.getElem?_toArray, List.getElem?_cons_succ, List.getElem?_cons_zero]; rfl) (by kernel_rfl) (by kernel_rfl) (by kernel_rfl) (by exact fun _ _ _ h => h) (Or.inl ⟨by rfl, ?_⟩) hS ?_
  rotate_left
  · intro w hSw
    go_simp
    try with_reducible rfl
  try simp only [Act.put, List.setIfInBounds_toArray, List.set_cons_zero, List.set_cons_succ]
  refine wpAnyH_take (i := 15) (v := ?_) (by simp only [List.getElem?_toArray, List.getElem?_cons_succ, List.getElem?_cons_zero]; rfl) (by kernel_rfl) (by kernel_rfl) (by kernel_rfl) (by exact fun _ _ _ h => h) (Or.inl ⟨by rfl, ?_⟩) hS ?_
  rotate_left
  · intro w hSw
    go_simp
    try with_reducible rfl
  try simp only [Act.put, List.setIfInBounds_toArray, List.set_cons_zero, List.set_cons_succ]
  refine wpAnyH_take (i := 16) (v := ?_) (by simp only [List.getElem?_toArray, List.getElem?_cons_succ, List.getElem?_cons_zero]; rfl) (by kernel_rfl) (by kernel_rfl) (by kernel_rfl) (by exact fun _ _ _ h => h) (Or.inl ⟨by rfl, ?_⟩) hS ?_
  rotate_left
  · intro w hSw
    go_simp
    try with_reducible rfl
  try simp only [Act.put, List.setIfInBounds_toArray, List.set_cons_zero, List.set_cons_succ]
  refine wpAnyH_take (i := 17) (v := ?_) (by simp only [List.getElem?_toArray, List.getElem?_cons_succ, List.getElem?_cons_zero]; rfl) (by kernel_rfl) (by kernel_rfl) (by kernel_rfl) (by exact fun _ _ _ h => h) (Or.inl ⟨by rfl, ?_⟩) hS ?_
  rotate_left
  · intro w hSw
    go_simp
    try with_reducible rfl
  try simp only [Act.put, List.setIfInBounds_toArray, List.set_cons_zero, List.set_cons_succ]
  refine wpAnyH_take (i := 18) (v := ?_) (by simp only [List.getElem?_toArray, List.getElem?_cons_succ, List.getElem?_cons_zero]; rfl) (by kernel_rfl) (by kernel_rfl) (by kernel_rfl) (by exact fun _ _ _ h => h) (Or.inl ⟨by rfl, ?_⟩) hS ?_
  rotate_left
  · intro w hSw
    go_simp
    try with_reducible rfl
  try simp only [Act.put, List.setIfInBounds_toArray, List.set_cons_zero, List.set_cons_succ]
  refine wpAnyH_take (i := 19) (v := ?_) (by simp only [List.getElem?_toArray, List.getElem?_cons_succ, List.getElem?_cons_zero]; rfl) (by kernel_rfl) (by kernel_rfl) (by kernel_rfl) (by exact fun _ _ _ h => h) (Or.inl ⟨by rfl, ?_⟩) hS ?_
  rotate_left
  · intro w hSw
    go_simp
    try with_reducible rfl
  try simp only [Act.put, List.setIfInBounds_toArray, List.set_cons_zero, List.set_cons_succ]
  refine wpAnyH_take (i := 20) (v := ?_) (by simp only [List.getElem?_toArray, List.getElem?_cons_succ, List.getElem?_cons_zero]; rfl) (by kernel_rfl) (by kernel_rfl) (by kernel_rfl) (by exact fun _ _ _ h => h) (Or.inl ⟨by rfl, ?_⟩) hS ?_
  rotate_left
  · intro w hSw
    go_simp
    try with_reducible rfl
  try simp only [Act.put, List.setIfInBounds_toArray, List.set_cons_zero, List.set_cons_succ]
  refine wpAnyH_take (i := 21) (v := ?_) (by simp only [List.getElem?_toArray, List.getElem?_cons_succ, List.getElem?_cons_zero]; rfl) (by kernel_rfl) (by kernel_rfl) (by kernel_rfl) (by exact fun _ _ _ h => h) (Or.inl ⟨by rfl, ?_⟩) hS ?_
  rotate_left
  · intro w hSw
    go_simp
    try with_reducible rfl
  try simp only [Act.put, List.setIfInBounds_toArray, List.set_cons_zero, List.set_cons_succ]
  refine wpAnyH_take (i := 22) (v := ?_) (by simp only [List.getElem?_toArray, List.getElem?_cons_succ, List.getElem?_cons_zero]; rfl) (by kernel_rfl) (by kernel_rfl) (by kernel_rfl) (by exact fun _ _ _ h => h) (Or.inl ⟨by rfl, ?_⟩) hS ?_
  rotate_left
  · intro w hSw
    go_simp
    try with_reducible rfl
  try simp only [Act.put, List.setIfInBounds_toArray, List.set_cons_zero, List.set_cons_succ]
  refine wpAnyH_take (i := 23) (v := ?_) (by simp only [List.getElem?_toArray, List.getElem?_cons_succ, List.getElem?_cons_zero]; rfl) (by kernel_rfl) (by kernel_rfl) (by kernel_rfl) (by exact fun _ _ _ h => h) (Or.inl ⟨by rfl, ?_⟩) hS ?_
  rotate_left
  · intro w hSw
    go_simp
    try with_reducible rfl
  try simp only [Act.put, List.setIfInBounds_toArray, List.set_cons_zero, List.set_cons_succ]
  refine wpAnyH_take (i := 24) (v := ?_) (by simp only [List.getElem?_toArray, List.getElem?_cons_succ, List.getElem?_cons_zero]; rfl) (by kernel_rfl) (by kernel_rfl) (by kernel_rfl) (by exact fun _ _ _ h => h) (Or.inl ⟨by rfl, ?_⟩) hS ?_
  rotate_left
  · intro w hSw
    go_simp
    try with_reducible rfl
  try simp only [Act.put, List.setIfInBounds_toArray, List.set_cons_zero, List.set_cons_succ]
  refine wpAnyH_take (i := 25) (v := ?_) (by simp only [List.getElem?_toArray, List.getElem?_cons_succ, List.getElem?_cons_zero]; rfl) (by kernel_rfl) (by kernel_rfl) (by kernel_rfl) (by exact fun _ _ _ h => h) (Or.inl ⟨by rfl, ?_⟩) hS ?_
  rotate_left
  · intro w hSw
    go_simp
    try with_reducible rfl
  try simp only [Act.put, List.setIfInBounds_toArray, List.set_cons_zero, List.set_cons_succ]
  refine wpAnyH_take (i := 26) (v := ?_) (by simp only [List.getElem?_toArray, List.getElem?_cons_succ, List.getElem?_cons_zero]; rfl) (by kernel_rfl) (by kernel_rfl) (by kernel_rfl) (by exact fun _ _ _ h => h) (Or.inl ⟨by rfl, ?_⟩) hS ?_
  rotate_left
  · intro w hSw
    go_simp
    try with_reducible rfl
  try simp only [Act.put, List.setIfInBounds_toArray, List.set_cons_zero, List.set_cons_succ]
  refine wpAnyH_take (i := 27) (v := ?_) (by simp only [List.getElem?_toArray, List.getElem?_cons_succ, List.getElem?_cons_zero]; rfl) (by kernel_rfl) (by kernel_rfl) (by kernel_rfl) (by exact fun _ _ _ h => h) (Or.inl ⟨by rfl, ?_⟩) hS ?_
  rotate_left
  · intro w hSw
    go_simp
    try with_reducible rfl
  try simp only [Act.put, List.setIfInBounds_toArray, List.set_cons_zero, List.set_cons_succ]
  refine wpAnyH_take (i := 28) (v := ?_) (by simp only [List.getElem?_toArray, List.getElem?_cons_succ, List.getElem?_cons_zero]; rfl) (by kernel_rfl) (by kernel_rfl) (by kernel_rfl) (by exact fun _ _ _ h => h) (Or.inl ⟨by rfl, ?_⟩) hS ?_
  rotate_left
  · intro w hSw
    go_simp
    try with_reducible rfl
  try simp only [Act.put, List.setIfInBounds_toArray, List.set_cons_zero, List.set_cons_succ]
  refine wpAnyH_take (i := 30) (v := ?_) (by simp only [List.getElem?_toArray, List.getElem?_cons_succ, List.getElem?_cons_zero]; rfl) (by kernel_rfl) (by kernel_rfl) (by kernel_rfl) (by exact fun _ _ _ h => h) (Or.inl ⟨by rfl, ?_⟩) hS ?_
  rotate_left
  · intro w hSw
    go_simp
    try with_reducible rfl
  try simp only [Act.put, List.setIfInBounds_toArray, List.set_cons_zero, List.set_cons_succ]
  refine wpAnyH_take (i := 31) (v := ?_) (by simp only [List.getElem?_toArray, List.getElem?_cons_succ, List.getElem?_cons_zero]; rfl) (by kernel_rfl) (by kernel_rfl) (by kernel_rfl) (by exact fun _ _ _ h => h) (Or.inl ⟨by rfl, ?_⟩) hS ?_
  rotate_left
  · intro w hSw
    go_simp
    try with_reducible rfl
  try simp only [Act.put, List.setIfInBounds_toArray, List.set_cons_zero, List.set_cons_succ]
  refine wpAnyH_take (i := 32) (v := ?_) (by simp only [List.getElem?_toArray, List.getElem?_cons_succ, List.getElem?_cons_zero]; rfl) (by kernel_rfl) (by kernel_rfl) (by kernel_rfl) (by exact fun _ _ _ h => h) (Or.inl ⟨by rfl, ?_⟩) hS ?_
  rotate_left
  · intro w hSw
    go_simp
    try with_reducible rfl
  try simp only [Act.put, List.setIfInBounds_toArray, List.set_cons_zero, List.set_cons_succ]
  refine wpAnyH_ready (rs := [29]) (by kernel_rfl) (by simp) ?_
  refine AllReadyH.cons (by simp only [List.getElem?_toArray, List.getElem?_cons_succ, List.getElem?_cons_zero]; rfl) (fun K hK => ?_) AllReadyH.nil
  go_simp
  go_at_call 43
  refine (H43.out _).mono ?_
  rintro e' w15 ⟨rfl, b15⟩
  have E15 : Hid (Below w14.heap.size w14 w15) := Lib.hid (DD.out.trans (b15.mono DD.out.size))
  refine hK.out _ _ (AL.out w15 E15.out) (fun hS => ?_)
  clear hK K
  try simp only [Act.put, List.setIfInBounds_toArray, List.set_cons_zero, List.set_cons_succ]
  refine wpAnyH_ready (rs := [33]) (by kernel_rfl) (by simp) ?_
  refine AllReadyH.cons (by simp only [List.getElem?_toArray, List.getElem?_cons_succ, List.getElem?_cons_zero]; rfl) (fun K hK => ?_) AllReadyH.nil
  go_simp
  go_at_call 44
  refine (H44.out _).mono ?_
  rintro e' w16 ⟨rfl, b16⟩
  have E16 : Hid (Below w14.heap.size w14 w16) := Lib.hid (E15.out.trans (b16.mono E15.out.size))
  refine hK.out _ _ (AL.out w16 E16.out) (fun hS => ?_)
  clear hK K
  try simp only [Act.put, List.setIfInBounds_toArray, List.set_cons_zero, List.set_cons_succ]
  refine wpAnyH_take (i := 34) (v := ?_) (by simp only [List.getElem?_toArray, List.getElem?_cons_succ, List.getElem?_cons_zero]; rfl) (by kernel_rfl) (by kernel_rfl) (by kernel_rfl) (by exact fun _ _ _ h => h) (Or.inl ⟨by rfl, ?_⟩) hS ?_
  rotate_left
  · intro w hSw
    go_simp
    try with_reducible rfl
  try simp only [Act.put, List.setIfInBounds_toArray, List.set_cons_zero, List.set_cons_succ]
  refine wpAnyH_take (i := 35) (v := ?_) (by simp only [List.getElem?_toArray, List.getElem?_cons_succ, List.getElem?_cons_zero]; rfl) (by kernel_rfl) (by kernel_rfl) (by kernel_rfl) (by exact fun _ _ _ h => h) (Or.inl ⟨by rfl, ?_⟩) hS ?_
  rotate_left
  · intro w hSw
    go_simp
    try with_reducible rfl
  try simp only [Act.put, List.setIfInBounds_toArray, List.set_cons_zero, List.set_cons_succ]
  refine wpAnyH_take (i := 36) (v := ?_) (by simp only [List.getElem?_toArray, List.getElem?_cons_succ, List.getElem?_cons_zero]; rfl) (by kernel_rfl) (by kernel_rfl) (by kernel_rfl) (by exact fun _ _ _ h => h) (Or.inl ⟨by rfl, ?_⟩) hS ?_
  rotate_left
  · intro w hSw
    go_simp
    try with_reducible rfl
  try simp only [Act.put, List.setIfInBounds_toArray, List.set_cons_zero, List.set_cons_succ]
  refine wpAnyH_take (i := 37) (v := ?_) (by simp only [List.getElem?_toArray, List.getElem?_cons_succ, List.getElem?_cons_zero]; rfl) (by kernel_rfl) (by kernel_rfl) (by kernel_rfl) (by exact fun _ _ _ h => h) (Or.inl ⟨by rfl, ?_⟩) hS ?_
  rotate_left
  · intro w hSw
    go_simp
    try with_reducible rfl
  try simp only [Act.put, List.setIfInBounds_toArray, List.set_cons_zero, List.set_cons_succ]
  refine wpAnyH_take (i := 39) (v := ?_) (by simp only [List.getElem?_toArray, List.getElem?_cons_succ, List.getElem?_cons_zero]; rfl) (by kernel_rfl) (by kernel_rfl) (by kernel_rfl) (by exact fun _ _ _ h => h) (Or.inl ⟨by rfl, ?_⟩) hS ?_
  rotate_left
  · intro w hSw
    go_simp
    try with_reducible rfl
  try simp only [Act.put, List.setIfInBounds_toArray, List.set_cons_zero, List.set_cons_succ]
  refine wpAnyH_ready (rs := [38]) (by kernel_rfl) (by simp) ?_
  refine AllReadyH.cons (by simp only [List.getElem?_toArray, List.getElem?_cons_succ, List.getElem?_cons_zero]; rfl) (fun K hK => ?_) AllReadyH.nil
  go_simp
  go_at_call 45
  refine (H45.out _).mono ?_
  rintro e' w17 ⟨rfl, b17⟩
  have E17 : Hid (Below w14.heap.size w14 w17) := Lib.hid (E16.out.trans (b17.mono E16.out.size))
  refine hK.out _ _ (AL.out w17 E17.out) (fun hS => ?_)
  clear hK K
  try simp only [Act.put, List.setIfInBounds_toArray, List.set_cons_zero, List.set_cons_succ]
  refine wpAnyH_ready (rs := [40]) (by kernel_rfl) (by simp) ?_
  refine AllReadyH.cons (by simp only [List.getElem?_toArray, List.getElem?_cons_succ, List.getElem?_cons_zero]; rfl) (fun K hK => ?_) AllReadyH.nil
  go_simp
  go_at_call 46
  refine (H46.out _).mono ?_
  rintro e' w18 ⟨rfl, b18⟩
  have E18 : Hid (Below w14.heap.size w14 w18) := Lib.hid (E17.out.trans (b18.mono E17.out.size))
  refine hK.out _ _ (AL.out w18 E18.out) (fun hS => ?_)
  clear hK K
  try simp only [Act.put, List.setIfInBounds_toArray, List.set_cons_zero, List.set_cons_succ]
  refine wpAnyH_take (i := 41) (v := ?_) (by simp only [List.getElem?_toArray, List.getElem?_cons_succ, List.getElem?_cons_zero]; rfl) (by kernel_rfl) (by kernel_rfl) (by kernel_rfl) (by exact fun _ _ _ h => h) (Or.inl ⟨by rfl, ?_⟩) hS ?_
  rotate_left
  · intro w hSw
    go_simp
    try with_reducible rfl
  try simp only [Act.put, List.setIfInBounds_toArray, List.set_cons_zero, List.set_cons_succ]
  refine wpAnyH_take (i := 42) (v := ?_) (by simp only [List.getElem?_toArray, List.getElem?_cons_succ, List.getElem?_cons_zero]; rfl) (by kernel_rfl) (by kernel_rfl) (by kernel_rfl) (by exact fun _ _ _ h => h) (Or.inl ⟨by rfl, ?_⟩) hS ?_
  rotate_left
  · intro w hSw
    go_simp
    try with_reducible rfl
  try simp only [Act.put, List.setIfInBounds_toArray, List.set_cons_zero, List.set_cons_succ]
  refine wpAnyH_take (i := 43) (v := ?_) (by simp only [List.getElem?_toArray, List.getElem?_cons_succ, List.getElem?_cons_zero]; rfl) (by kernel_rfl) (by kernel_rfl) (by kernel_rfl) (by exact fun _ _ _ h => h) (Or.inl ⟨by rfl, ?_⟩) hS ?_
  rotate_left
  · intro w hSw
    go_simp
    try with_reducible rfl
  try simp only [Act.put, List.setIfInBounds_toArray, List.set_cons_zero, List.set_cons_succ]
  refine wpAnyH_take (i := 44) (v := ?_) (by simp only [List.getElem?_toArray, List.getElem?_cons_succ, List.getElem?_cons_zero]; rfl) (by kernel_rfl) (by kernel_rfl) (by kernel_rfl) (by exact fun _ _ _ h => h) (Or.inl ⟨by rfl, ?_⟩) hS ?_
  rotate_left
  · intro w hSw
    go_simp
    try with_reducible rfl
  try simp only [Act.put, List.setIfInBounds_toArray, List.set_cons_zero, List.set_cons_succ]
  refine wpAnyH_take (i := 46) (v := ?_) (by simp only [List.getElem?_toArray, List.getElem?_cons_succ, List.getElem?_cons_zero]; rfl) (by kernel_rfl) (by kernel_rfl) (by kernel_rfl) (by exact fun _ _ _ h => h) (Or.inl ⟨by rfl, ?_⟩) hS ?_
  rotate_left
  · intro w hSw
    go_simp
    try with_reducible rfl
  try simp only [Act.put, List.setIfInBounds_toArray, List.set_cons_zero, List.set_cons_succ]
  refine wpAnyH_ready (rs := [45]) (by kernel_rfl) (by simp) ?_
  refine AllReadyH.cons (by simp only [List.getElem?_toArray, List.getElem?_cons_succ, List.getElem?_cons_zero]; rfl) (fun K hK => ?_) AllReadyH.nil
  go_simp
  go_at_call 47
  refine (H47.out _ (D14.out.trans (E18.out.mono D14.out.size))).mono ?_
  rintro e' w19 ⟨rfl, b19⟩
  have E19 : Hid (Below w14.heap.size w14 w19) := Lib.hid (E18.out.trans (b19.mono E18.out.size))
  refine hK.out _ _ (AL.out w19 E19.out) (fun hS => ?_)
  clear hK K
  try simp only [Act.put, List.setIfInBounds_toArray, List.set_cons_zero, List.set_cons_succ]
  refine wpAnyH_ready (rs := [47]) (by kernel_rfl) (by simp) ?_
  refine AllReadyH.cons (by simp only [List.getElem?_toArray, List.getElem?_cons_succ, List.getElem?_cons_zero]; rfl) (fun K hK => ?_) AllReadyH.nil
  go_simp
  go_at_call 48
  refine (H48.out _ (D14.out.trans (E19.out.mono D14.out.size))).mono ?_
  rintro e' w20 ⟨rfl, b20⟩
  have E20 : Hid (Below w14.heap.size w14 w20) := Lib.hid (E19.out.trans (b20.mono E19.out.size))
  refine hK.out _ _ (AL.out w20 E20.out) (fun hS => ?_)
  clear hK K
  try simp only [Act.put, List.setIfInBounds_toArray, List.set_cons_zero, List.set_cons_succ]
  refine wpAnyH_take (i := 48) (v := ?_) (by simp only [List.getElem?_toArray, List.getElem?_cons_succ, List.getElem?_cons_zero]; rfl) (by kernel_rfl) (by kernel_rfl) (by kernel_rfl) (by exact fun _ _ _ h => h) (Or.inl ⟨by rfl, ?_⟩) hS ?_
  rotate_left
  · intro w hSw
    go_simp
    try with_reducible rfl
  try simp only [Act.put, List.setIfInBounds_toArray, List.set_cons_zero, List.set_cons_succ]
  refine wpAnyH_take (i := 49) (v := ?_) (by simp only [List.getElem?_toArray, List.getElem?_cons_succ, List.getElem?_cons_zero]; rfl) (by kernel_rfl) (by kernel_rfl) (by kernel_rfl) (by exact fun _ _ _ h => h) (Or.inl ⟨by rfl, ?_⟩) hS ?_
  rotate_left
  · intro w hSw
    go_simp
    try with_reducible rfl
  try simp only [Act.put, List.setIfInBounds_toArray, List.set_cons_zero, List.set_cons_succ]
  refine wpAnyH_take (i := 50) (v := ?_) (by simp only [List.getElem?_toArray, List.getElem?_cons_succ, List.getElem?_cons_zero]; rfl) (by kernel_rfl) (by kernel_rfl) (by kernel_rfl) (by exact fun _ _ _ h => h) (Or.inl ⟨by rfl, ?_⟩) hS ?_
  rotate_left
  · intro w hSw
    go_simp
    try with_reducible rfl
  try simp only [Act.put, List.setIfInBounds_toArray, List.set_cons_zero, List.set_cons_succ]
  refine wpAnyH_done (by kernel_rfl) ?_ _
  go_wp2
  go_ret
  exact ⟨rfl, D14.out.trans (E20.out.mono D14.out.size)⟩

/-- The law. -/
theorem law (z v s : Int) (a : Option Addr) (len cap : Nat) (zs : List Int) (w : World) (hr : IsRow .u8 w a len cap zs) (wv : (Lit.int .u32 v).wf = true) (ws : (Lit.int .u32 s).wf = true) :
    Calls Try.prog 8 #[.agg #[.int .i64 z, .int .u32 v], .slice a len cap, .int .u32 s] w fun e w' => e = .returned (.bool true) ∧ Below w.heap.size w w' := by
  have hv : 0 ≤ v ∧ v ≤ 4294967295 := by simpa [Lit.wf, IntKind.min, IntKind.max, IntKind.signed, IntKind.bits] using wv
  have hs : 0 ≤ s ∧ s ≤ 4294967295 := by simpa [Lit.wf, IntKind.min, IntKind.max, IntKind.signed, IntKind.bits] using ws
  obtain ⟨x, rfl⟩ : ∃ x : B32, v = (x.toNat : Int) := ⟨BitVec.ofNat 32 v.toNat, by rw [BitVec.toNat_ofNat]; omega⟩
  obtain ⟨st, rfl⟩ : ∃ x : B32, s = (x.toNat : Int) := ⟨BitVec.ofNat 32 s.toNat, by rw [BitVec.toNat_ofNat]; omega⟩
  by_cases h : 2000 < len
  · exact lawLong z x st a len cap w h
  · obtain ⟨l, hl, hrd, hc, hlt⟩ := IsRow.bytes hr
    exact lawShort z x st a l len cap w hl hc hrd (fun y h => hlt y (by omega)) (by omega)
end Go.Proofs.Ytbnjijlpbeplmaa.FrI
