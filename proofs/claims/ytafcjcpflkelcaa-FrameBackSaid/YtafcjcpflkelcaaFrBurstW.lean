/- The walk of the law on bursts in frames. -/
import Derived.Test.YtafcjcpflkelcaaFrD
import Derived.Test.YtafcjcpflkelcaaFrM
namespace Go.Proofs.Ytafcjcpflkelcaa.FrBurstW
open Go.ChangeShapes Go.WideShapes Go.ChangeAt Go.RowKit
open CrcM CrcB CrcL CrcQ FrA FrB FrT FrG FrM FrD
set_option linter.unusedVariables false
set_option maxHeartbeats 1000000

/-- The two cells of a command that lies in a variable of the call's. -/
theorem argCells {w w' : World} (z : Int) (x : B32) (hb : Below (w.heap.size + 1) (w.alloc (.cells #[.int .i64 z, .int .u32 x.toNat] 69)) w') :
    w'.cell? ⟨w.heap.size, 0, none⟩ = some (.int .i64 z) ∧ w'.cell? ⟨w.heap.size, 1, none⟩ = some (.int .u32 x.toNat) := by
  have hw := hb.block w.heap.size (by omega)
  rw [heap_alloc_new] at hw
  exact ⟨(twoCells hw).1, (twoCells hw).2.1⟩

theorem I64.of {z : Int} (h : (Lit.int .i64 z).wf = true) : -9223372036854775808 ≤ z ∧ z ≤ 9223372036854775807 := by
  simpa [Lit.wf, IntKind.min, IntKind.max, IntKind.signed, IntKind.bits] using h
theorem U32.of {z : Int} (h : (Lit.int .u32 z).wf = true) : 0 ≤ z ∧ z ≤ 4294967295 := by
  simpa [Lit.wf, IntKind.min, IntKind.max, IntKind.signed, IntKind.bits] using h
theorem U8.of {z : Int} (h : (Lit.int .u8 z).wf = true) : 0 ≤ z ∧ z ≤ 255 := by
  simpa [Lit.wf, IntKind.min, IntKind.max, IntKind.signed, IntKind.bits] using h

theorem early (z : Int) (x : B32) (bit p : Int) (w : World) (h : z < 0 ∨ 63 < z ∨ bit < 0 ∨ 47 < bit) :
    Calls Try.prog 12 #[.agg #[.int .i64 z, .int .u32 x.toNat], .int .i64 bit, .int .u8 p] w fun e w' => e = .returned (.bool true) ∧ Below w.heap.size w w' := by
  have key : ∀ w', Below (w.heap.size + 1) (w.alloc (.cells #[.int .i64 z, .int .u32 x.toNat] 69)) w' → Below w.heap.size w w' := fun w' hb => ((Below.refl _ w).alloc (Nat.le_refl _) _).trans (hb.mono (by omega))
  have HK := Lib.hid key
  clear key
  have hc : ∀ w', Below (w.heap.size + 1) (w.alloc (.cells #[.int .i64 z, .int .u32 x.toNat] 69)) w' → _ := fun w' hb => argCells z x hb
  have HC := Lib.hid hc
  clear hc
  have go : ∀ (d1 d2 d3 d4 : Bool), decide (z < 0) = d1 → decide (63 < z) = d2 → decide (bit < 0) = d3 → decide (47 < bit) = d4 → (d1 || d2 || d3 || d4) = true →
      Calls Try.prog 12 #[.agg #[.int .i64 z, .int .u32 x.toNat], .int .i64 bit, .int .u8 p] w fun e w' => e = .returned (.bool true) ∧ Below w.heap.size w w' := by
    intro d1 d2 d3 d4 h1 h2 h3 h4 hh
    cases d1 <;> cases d2 <;> cases d3 <;> cases d4 <;> first | (exact absurd hh (by decide)) | (
      clear hh
      go_enter Try.func12, Try.ntmps12
      go_wp2_with fail
      refine Calls.mono (known _) ?_
      rintro e w' ⟨rfl, hb⟩
      simp only [World.size_alloc] at hb
      obtain ⟨c0, c1⟩ := HC.out _ hb
      have hbb := HK.out _ hb
      clear hb
      go_wp2
      go_ret
      exact ⟨rfl, hbb⟩)
  refine go _ _ _ _ rfl rfl rfl rfl ?_
  simp only [Bool.or_eq_true, decide_eq_true_eq]
  omega

theorem and_one8 (p k : Nat) (hp : p < 256) : (bits .and .u8 ((p : Int) / 2 ^ k) 1 == 1) = p.testBit k := by
  have e : (p : Int) / 2 ^ k = ((p / 2 ^ k : Nat) : Int) := by simp
  have hlt : p / 2 ^ k < 256 := Nat.lt_of_le_of_lt (Nat.div_le_self _ _) hp
  rw [e, show (1 : Int) = ((1 : Nat) : Int) from rfl, u8_and_nat _ _ hlt (by omega), Nat.testBit_eq_decide_div_mod_eq, Nat.and_one_is_mod]
  rw [Bool.eq_iff_iff]; simp; omega

/-- A block of bytes that is known whole. -/
def Row (w : World) (g : Nat) (l : List B8) : Prop := w.heap[g]? = some (.cells (vals l).toArray 70 (0, 0))
theorem Row.lt {w g l} (h : Row w g l) : g < w.heap.size := by
  rcases Nat.lt_or_ge g w.heap.size with hlt | hge
  · exact hlt
  · unfold Row at h; rw [Array.getElem?_eq_none hge] at h; cases h
theorem Row.cell {w g l} (h : Row w g l) (i : Nat) (hi : i < l.length) : w.cell? ⟨g, i, none⟩ = some (.int .u8 (l.getD i 0).toNat) := by
  rw [cell_of_row w g i _ 70 _ h]; simp [vals, hi]
theorem Row.free {w g l} (h : Row w g l) (i : Nat) : w.frozen? ⟨g, i, none⟩ = false := by
  unfold Row at h; simp [World.frozen?, h]
theorem Row.put {w g l} (h : Row w g l) (i : Nat) (y : B8) : Row (w.setCell ⟨g, i, none⟩ (.int .u8 y.toNat)) g (l.set i y) := by
  unfold Row at h ⊢
  simp [World.setCell, Array.getElem?_modify, h, vals, List.map_set]
theorem Row.rd {w g l} (h : Row w g l) (hl : l.length ≤ maxLen) : Rd w (some ⟨g, 0, none⟩) l :=
  Rd.of_cells h hl fun i hi => by simp [vals, hi]
theorem Row.six {w : World} {g : Nat} {b0 b1 b2 b3 b4 b5 : B8} (h : Row w g [b0, b1, b2, b3, b4, b5]) :
    w.cell? ⟨g, 0, none⟩ = some (.int .u8 b0.toNat) ∧ w.cell? ⟨g, 1, none⟩ = some (.int .u8 b1.toNat) ∧ w.cell? ⟨g, 2, none⟩ = some (.int .u8 b2.toNat) ∧ w.cell? ⟨g, 3, none⟩ = some (.int .u8 b3.toNat) ∧ w.cell? ⟨g, 4, none⟩ = some (.int .u8 b4.toNat) ∧ w.cell? ⟨g, 5, none⟩ = some (.int .u8 b5.toNat) :=
  ⟨h.cell 0 (by simp), h.cell 1 (by simp), h.cell 2 (by simp), h.cell 3 (by simp), h.cell 4 (by simp), h.cell 5 (by simp)⟩

set_option maxRecDepth 100000 in
theorem late (i : B8) (hi : i.toNat ≤ 63) (x : B32) (bit p : Nat) (w : World) (hbit : bit ≤ 47) (hp : p < 256) :
    Calls Try.prog 12 #[.agg #[.int .i64 i.toNat, .int .u32 x.toNat], .int .i64 bit, .int .u8 p] w fun e w' => e = .returned (.bool true) ∧ Below w.heap.size w w' := by
  have key : ∀ w', Below (w.heap.size + 1) (w.alloc (.cells #[.int .i64 i.toNat, .int .u32 x.toNat] 69)) w' → Below w.heap.size w w' := fun w' hb => ((Below.refl _ w).alloc (Nat.le_refl _) _).trans (hb.mono (by omega))
  have HK := Lib.hid key
  clear key
  have hc : ∀ w', Below (w.heap.size + 1) (w.alloc (.cells #[.int .i64 i.toNat, .int .u32 x.toNat] 69)) w' → _ := fun w' hb => argCells i.toNat x hb
  have HC := Lib.hid hc
  clear hc
  have hx := x.isLt
  have hb0 : (0 : Int) ≤ (bit : Int) := Int.natCast_nonneg _
  go_enter Try.func12, Try.ntmps12
  go_wp2_with fail
  refine Calls.mono (known _) ?_
  rintro e w2 ⟨rfl, hb⟩
  simp only [World.size_alloc] at hb
  obtain ⟨c0, c1⟩ := HC.out _ hb
  go_wp2_with fail
  refine Calls.mono (encode i hi x _) ?_
  rintro e w3 ⟨b0, b1, b2, b3, b4, b5, hf, rfl, hb3⟩
  have h1 := hb.size
  have h2 := hb3.size
  rw [World.size_alloc] at h1
  have hb4 := hb.trans (hb3.mono h1)
  have HB := Lib.hid hb4
  have hs3 : w.heap.size < w3.heap.size := by omega
  clear h1 h2
  clear hb hb3 c0 c1 hb4
  unfold six
  obtain ⟨X, hX⟩ : ∃ X, X = [b0, b1, b2, b3, b4, b5] := ⟨_, rfl⟩
  have hXl : X.length = 6 := by rw [hX]; rfl
  have HX := Lib.hid hX
  have HF := Lib.hid hf
  clear hX hf
  go_wp2_with fail
  go_loopw [10] (fun i wr => ∃ k : Nat, k ≤ min 7 (48 - bit) ∧ i = .int .i64 k ∧ Row wr (w3.heap.size + 1) (turn X bit p k) ∧ Below (w3.heap.size + 1) (w3.alloc (.cells #[.int .u8 b0.toNat, .int .u8 b1.toNat, .int .u8 b2.toNat, .int .u8 b3.toNat, .int .u8 b4.toNat, .int .u8 b5.toNat] 70)) wr) (fun i _ => 7 - (intOf i).toNat)
  case atStart =>
    refine ⟨0, Nat.zero_le _, rfl, ?_, (Below.refl _ _).alloc (by simp) _⟩
    rw [show turn X bit p 0 = X from rfl, HX.out]
    have := heap_alloc_new (w3.alloc (.cells #[.int .u8 b0.toNat, .int .u8 b1.toNat, .int .u8 b2.toNat, .int .u8 b3.toNat, .int .u8 b4.toNat, .int .u8 b5.toNat] 70)) (.cells #[.int .u8 b0.toNat, .int .u8 b1.toNat, .int .u8 b2.toNat, .int .u8 b3.toNat, .int .u8 b4.toNat, .int .u8 b5.toNat] 70)
    rw [World.size_alloc] at this
    exact this
  case round =>
    obtain ⟨k, hk, rfl, hrow, hbw⟩ := hrel
    by_cases hlt : k < min 7 (48 - bit)
    · have k1 : k < 7 := by omega
      have k2 : (bit : Int) + (k : Int) < 48 := by omega
      have hA := and_one8 p k hp
      by_cases ht : p.testBit k = true
      · rw [ht] at hA
        obtain ⟨q, hq⟩ : ∃ q : Nat, q = (bit + k) / 8 := ⟨_, rfl⟩
        obtain ⟨s, hs⟩ : ∃ s : Nat, s = (bit + k) % 8 := ⟨_, rfl⟩
        have hq6 : q < 6 := by omega
        have hs8 : s < 8 := by omega
        have hq' : ((bit : Int) + (k : Int)) / 8 = (q : Int) := by omega
        have hs' : ((bit : Int) + (k : Int)) % 8 = (s : Int) := by omega
        have hlen : (turn X bit p k).length = 6 := by rw [turn_length, hXl]
        have hcell := hrow.cell q (by omega)
        have hfree := hrow.free q
        obtain ⟨y, hy⟩ : ∃ y : B8, y = (turn X bit p k).getD q 0 := ⟨_, rfl⟩
        rw [← hy] at hcell
        have HXX : Hid (bits .xor .u8 (y.toNat : Int) (128 / 2 ^ s) = ((y ^^^ (0x80#8 >>> s)).toNat : Int)) := Lib.hid (by
          rw [← x8]; congr 1
          simp [BitVec.toNat_ushiftRight, Nat.shiftRight_eq_div_pow])
        have HP := Lib.hid (hrow.put q (y ^^^ (0x80#8 >>> s)))
        have HTT : Hid ((turn X bit p k).set q (y ^^^ (0x80#8 >>> s)) = turn X bit p (k + 1)) := Lib.hid (by
          conv => rhs; unfold turn
          rw [if_pos ht, hy, hq, hs]; rfl)
        have HBW := Lib.hid hbw
        clear hq hs hy ht hlen hrow hbw
        go_wp2
        go_roundw
        case rel => exact ⟨k + 1, by omega, by go_num, by rw [HXX.out, ← HTT.out]; exact HP.out, HBW.out.setCell (Nat.le_refl _) _⟩
        case measure => simp [intOf]; omega
      · have ht' : p.testBit k = false := by simpa using ht
        rw [ht'] at hA
        have HTT : Hid (turn X bit p k = turn X bit p (k + 1)) := Lib.hid (by
          conv => rhs; unfold turn
          rw [if_neg ht])
        have HW := Lib.hid hrow
        clear ht ht' hrow
        go_wp2
        go_roundw
        case rel => exact ⟨k + 1, by omega, by go_num, by rw [← HTT.out]; exact HW.out, hbw⟩
        case measure => simp [intOf]; omega
    · have hyl : (turn X bit p k).length = 6 := by rw [turn_length, hXl]
      obtain ⟨Y, hY⟩ : ∃ Y, Y = turn X bit p k := ⟨_, rfl⟩
      rw [← hY] at hrow hyl
      obtain ⟨y0, y1, y2, y3, y4, y5, hYe⟩ : ∃ y0 y1 y2 y3 y4 y5, Y = [y0, y1, y2, y3, y4, y5] := by
        match Y, hyl with
        | [y0, y1, y2, y3, y4, y5], _ => exact ⟨y0, y1, y2, y3, y4, y5, rfl⟩
      have hgX := frm_good 1 i x (by decide) hi b0 b1 b2 b3 b4 b5 HF.out
      have hiff : FrD.Good 1 y0 y1 y2 y3 y4 y5 → [b0, b1, b2, b3, b4, b5] = [y0, y1, y2, y3, y4, y5] := fun hg => by
        have := burstFrame X Y hXl bit p k (by omega) (by omega) hY (by rw [HX.out]; exact hgX.2.2.1) (by rw [HX.out]; exact hgX.2.1) (by rw [hYe]; exact hg.2.2) (by rw [hYe]; exact hg.2.1)
        rw [← HX.out, ← hYe, this]
      rw [hYe] at hrow
      have hlt2 := hrow.lt
      have HD := Lib.hid (FrD.decode (w3.heap.size + 1) 0 6 y0 y1 y2 y3 y4 y5 wr (by omega) hlt2 (hrow.rd (by simp [maxLen])))
      have HR := Lib.hid hrow
      have HBW := Lib.hid hbw
      have HG := Lib.hid hgX
      have HI := Lib.hid hiff
      clear hrow hbw hgX hiff hY hYe hyl
      have kk : decide ((k : Int) < 7) = true ∧ ¬ ((bit : Int) + (k : Int) < 48) ∨ decide ((k : Int) < 7) = false := by
        by_cases h7 : k < 7
        · exact .inl ⟨by simp; omega, by omega⟩
        · exact .inr (by simp; omega)
      have fin : ∀ (V N K : Nat) (w5 : World), Below wr.heap.size wr w5 →
          (w5.cell? ⟨w.heap.size, 0, none⟩ = some (.int .i64 i.toNat) ∧ w5.cell? ⟨w.heap.size, 1, none⟩ = some (.int .u32 x.toNat)) ∧ Row w5 w3.heap.size [b0, b1, b2, b3, b4, b5] ∧ Row w5 (w3.heap.size + 1) [y0, y1, y2, y3, y4, y5] ∧ w3.heap.size + 1 < w5.heap.size ∧ Below w.heap.size w w5 := by
        intro V N K w5 hb5
        have hbw := HBW.out
        have e1 : Below (w.heap.size + 1) (w.alloc (.cells #[.int .i64 i.toNat, .int .u32 x.toNat] 69)) w5 := (HB.out).trans (((Below.refl _ w3).alloc hs3 _).trans ((hbw.trans (hb5.mono (by omega))).mono (by omega)))
        refine ⟨HC.out _ e1, ?_, ?_, ?_, HK.out _ e1⟩
        · have h1 := hbw.block w3.heap.size (by omega)
          rw [heap_alloc_new] at h1
          exact (hb5.block _ (by omega)).trans h1
        · exact (hb5.block _ (by omega)).trans HR.out
        · have := hb5.size; omega
      have HFIN := Lib.hid fin
      clear fin
      rcases kk with ⟨kk1, kk2⟩ | kk1
      all_goals
        go_wp2_with fail
        refine Calls.mono HD.out ?_
        rintro e w5 ⟨hb5, V, N, K, rfl, hV, hN, hh⟩
        rcases hh with ⟨hg, rfl, hv, hn⟩ | ⟨hg, hk, rfl, rfl⟩
        · have e := HI.out hg
          have E := fun w => eq6 w b0 b1 b2 b3 b4 b5 y0 y1 y2 y3 y4 y5 true (by simp [e])
          simp only [List.cons.injEq, and_true] at e
          obtain ⟨g0, g1, g2, g3, g4, g5⟩ := e
          have V' : V = i.toNat := by rw [hv, ← g0]; exact HG.out.2.2.2.1
          have N' : N = x.toNat := by rw [hn, ← g1, ← g2, ← g3, ← g4]; exact HG.out.2.2.2.2
          subst V' N'
          obtain ⟨⟨a0, a1⟩, r1, r2, hs5, hbe⟩ := HFIN.out 0 0 0 (w5.alloc (.cells #[.int .i64 i.toNat, .int .u32 x.toNat] 69)) (hb5.alloc hb5.size _)
          obtain ⟨m0, m1, m2, m3, m4, m5⟩ := r1.six
          obtain ⟨n0, n1, n2, n3, n4, n5⟩ := r2.six
          clear hb5 r1 r2 hs5
          clear hv hn hg g0 g1 g2 g3 g4 g5
          unfold six at E
          go_wp2
          go_ret
          exact ⟨rfl, hbe⟩
        · have e : ¬ ([b0, b1, b2, b3, b4, b5] = [y0, y1, y2, y3, y4, y5]) := fun e => hg (by
            simp only [List.cons.injEq, and_true] at e
            obtain ⟨rfl, rfl, rfl, rfl, rfl, rfl⟩ := e
            exact ⟨HG.out.1, HG.out.2.1, HG.out.2.2.1⟩)
          have E := fun w => eq6 w b0 b1 b2 b3 b4 b5 y0 y1 y2 y3 y4 y5 false (by
            constructor
            · intro h; exact absurd h e
            · intro h; cases h)
          clear hg e
          obtain ⟨⟨a0, a1⟩, r1, r2, hs5, hbe⟩ := HFIN.out 0 0 0 (w5.alloc (.cells #[.int .i64 0, .int .u32 0] 69)) (hb5.alloc hb5.size _)
          obtain ⟨m0, m1, m2, m3, m4, m5⟩ := r1.six
          obtain ⟨n0, n1, n2, n3, n4, n5⟩ := r2.six
          clear hb5 r1 r2 hs5
          unfold six at E
          rcases hk with rfl | rfl
          all_goals
            go_wp2
            go_ret
            exact ⟨rfl, hbe⟩
end Go.Proofs.Ytafcjcpflkelcaa.FrBurstW
