/- The law of blocks that are joined. -/
import Derived.Test.YtbnjijlpbeplmaaTkG
import Derived.Deep.Slices
import Derived.ChangeSame
import Derived.ChangeSlices
namespace Go.Proofs.Ytbnjijlpbeplmaa.TkL
open Go.ChangeShapes Go.WideShapes Go.ChangeAt Go.RowKit
open CrcM CrcB CrcL CrcQ TokA TokB TokC TokD TokE TokG TkM TkE TkF TkG
set_option linter.unusedVariables false
set_option maxHeartbeats 2000000

/-- One row of bytes that came in. -/
def One' (w : World) (v : Value) (x : List B8) : Prop := ∃ a c, v = .slice a x.length c ∧ Rd w a x ∧ ∀ y, 0 < x.length → a = some y → y.block < w.heap.size
theorem One'.below {w w' : World} {v : Value} {x : List B8} (h : One' w v x) (hb : Below w.heap.size w w') : One' w' v x := by
  obtain ⟨a, c, e, hr, hl⟩ := h
  exact ⟨a, c, e, Rd.below hr hb hl, fun y h0 e => Nat.lt_of_lt_of_le (hl y h0 e) hb.size⟩
/-- Rows of bytes that came in. -/
def Arg (w : World) (a : Option Addr) (l : List (List B8)) : Prop :=
  ∀ i, i < l.length → ∃ b off u, a = some ⟨b, off, none⟩ ∧ w.cell? ⟨b, off + i, none⟩ = some u ∧ b < w.heap.size ∧ One' w u (l.getD i [])
theorem Arg.below {w w' : World} {a : Option Addr} {l : List (List B8)} (h : Arg w a l) (hb : Below w.heap.size w w') : Arg w' a l := fun i hi => by
  obtain ⟨b, off, u, e, hc, hl, hu⟩ := h i hi
  exact ⟨b, off, u, e, (hb.cell (p := ⟨b, off + i, none⟩) hl).trans hc, Nat.lt_of_lt_of_le hl hb.size, hu.below hb⟩

theorem RowsOf.put {w : World} {base B : Nat} {v s s' : Value} {xss : List (List B8)} (h : RowsOf w base v xss) (hB : Mem.Blk w B 92 #[s]) (hs : ∀ k n, s ≠ .int k n) (hbase : B < base) : RowsOf (w.setCell ⟨B, 0, none⟩ s') base v xss := by
  obtain ⟨vs, ho, hi⟩ := h
  have hg : w.grownBy (w.setCell ⟨B, 0, none⟩ s') (some B) := ⟨rfl, rfl, rfl, by simp [World.setCell], fun i hi hne => Below.heap_setCell w ⟨B, 0, none⟩ s' i (fun e => hne (by rw [e]))⟩
  refine ⟨vs, World.ownsRow.kept (row := some B) ho hg (.inr fun e => by have := (World.ownsRow.lt ho _ e).1; omega), fun i hi' => ?_⟩
  obtain ⟨u, h1, ⟨a, c, e, hr, hl⟩, h3⟩ := hi i hi'
  refine ⟨u, h1, ⟨a, c, e, ⟨hr.1, fun j hj => ?_⟩, fun y hy => Nat.lt_of_lt_of_le (hl y hy) hg.size⟩, h3⟩
  obtain ⟨b, off, ea, hc⟩ := hr.2 j hj
  refine ⟨b, off, ea, ?_⟩
  by_cases hb : b = B
  · subst hb
    rw [hB.cell] at hc
    have h0 : off + j = 0 := by
      rcases Nat.eq_zero_or_pos (off + j) with h0 | h0
      · exact h0
      · rw [Array.getElem?_eq_none (by simp; omega)] at hc; cases hc
    rw [h0] at hc
    simp at hc
    exact absurd hc (hs _ _)
  · exact hg.cell hc (by simpa using hb)

theorem cntA (stop : Int) (n : Nat) (h : stop < 0) (h1 : 1 < n) : (cnt stop n : Int) = 1 := by unfold cnt; (repeat' split) <;> omega
theorem cntB (stop : Int) (n : Nat) (h : stop < 0) (h1 : ¬ 1 < n) : (cnt stop n : Int) = n := by unfold cnt; (repeat' split) <;> omega
theorem cntC (stop : Int) (n : Nat) (h : 0 ≤ stop) (h1 : stop < n) : (cnt stop n : Int) = stop + 1 := by unfold cnt; (repeat' split) <;> omega
theorem cntD (stop : Int) (n : Nat) (h : 0 ≤ stop) (h1 : ¬ stop < n) : (cnt stop n : Int) = n := by unfold cnt; (repeat' split) <;> omega
theorem s5 : (Try.prog.info? 5).map (·.size) = some 1 := by kernel_rfl
theorem run_made (k : Nat) (hk : k ≤ 200) (w : World) : (Instr.makeSlice 24 (.int .i64 (k : Int)) (.int .i64 (k : Int))).run Try.prog w = .ok (.slice (some ⟨w.heap.size, 0, none⟩) k k) (w.alloc (.cells (madeCells #[.int .u8 0] k) 5)) := by
  obtain ⟨i, hi, hz, hs, hb⟩ := i5
  have h := run_make (P := Try.prog) w 24 5 i (.int .u8 0) Try.underlying24 hi hz .i64 .i64 (k : Int) (k : Int) (by omega) (by omega) (by rw [hb]; omega) (by omega)
  simpa [hs, Value.cells] using h
theorem made_vals (k : Nat) : madeCells #[.int .u8 0] k = (vals (List.replicate k 0#8)).toArray := by
  apply Array.toList_inj.1
  rw [toList_madeCells_one]
  simp [vals]
theorem splice_pad (k : Nat) (x : List B8) : splice (vals (List.replicate k 0#8)) 0 (vals (x.take k)) = vals (padB k x) := by
  unfold splice padB
  rw [vals_append, List.take_zero, List.nil_append, Nat.zero_add, vals_length, List.length_take]
  congr 1
  unfold vals
  rw [← List.map_drop, List.drop_replicate]
  congr 2
  omega

theorem early (a : Option Addr) (n c : Nat) (s stop : Int) (w : World) (h : 60 < n ∨ s < 0 ∨ 200 < s) :
    Calls Try.prog 10 #[.slice a n c, .int .i64 s, .int .i64 stop] w fun e w' => e = .returned (.bool true) ∧ Below w.heap.size w w' := by
  have B0 := Lib.hid ((Below.refl w.heap.size w).alloc (Nat.le_refl _) (.cells #[.int .i64 stop] 3))
  rcases (show 60 < n ∨ (¬ 60 < n ∧ s < 0) ∨ (¬ 60 < n ∧ ¬ s < 0 ∧ 200 < s) by omega) with h1 | ⟨h1, h2⟩ | ⟨h1, h2, h3⟩
  · have d1 : (60 : Int) < (n : Int) := by omega
    go_enter Try.func10, Try.ntmps10
    go_wp2_with fail
    refine (known_any _).mono ?_
    rintro e w1 ⟨rfl, b1⟩
    have BE := Lib.hid (B0.out.trans (b1.mono B0.out.size))
    clear b1
    go_wp2
    go_ret
    exact ⟨rfl, BE.out⟩
  · have d1 : ¬ (60 : Int) < (n : Int) := by omega
    go_enter Try.func10, Try.ntmps10
    go_wp2_with fail
    refine (known_any _).mono ?_
    rintro e w1 ⟨rfl, b1⟩
    have BE := Lib.hid (B0.out.trans (b1.mono B0.out.size))
    clear b1
    go_wp2
    go_ret
    exact ⟨rfl, BE.out⟩
  · have d1 : ¬ (60 : Int) < (n : Int) := by omega
    go_enter Try.func10, Try.ntmps10
    go_wp2_with fail
    refine (known_any _).mono ?_
    rintro e w1 ⟨rfl, b1⟩
    have BE := Lib.hid (B0.out.trans (b1.mono B0.out.size))
    clear b1
    go_wp2
    go_ret
    exact ⟨rfl, BE.out⟩

theorem pad_get (l : List (List B8)) (k j : Nat) (h : j < l.length) : (l.map (padB k)).take (j + 1) = (l.map (padB k)).take j ++ [padB k (l.getD j [])] := by
  have e : l.getD j [] = l[j] := by simp [h]
  rw [e, List.take_succ_eq_append_getElem (by simpa using h)]
  simp
theorem drewN_below {B : Nat} {a w : World} (h : Below B a w) (n : Nat) : Below B a (w.drewN n) := ⟨h.os, h.tape, h.output, h.size, h.block⟩

set_option maxRecDepth 100000 in
theorem law (a : Option Addr) (l : List (List B8)) (n c k : Nat) (stop : Int) (w : World) (hn : l.length = n) (hr : Arg w a l) (hk : k ≤ 200) (h60 : n ≤ 60) :
    Calls Try.prog 10 #[.slice a n c, .int .i64 (k : Int), .int .i64 stop] w fun e w' => e = .returned (.bool true) ∧ Below w.heap.size w w' := by
  have HA : Hid (∀ w', Below w.heap.size w w' → Arg w' a l) := Lib.hid fun w' hb => hr.below hb
  have HS0 := Lib.hid (Mem.Blk.new w 3 #[.int .i64 stop])
  have B0 := Lib.hid ((Below.refl w.heap.size w).alloc (Nat.le_refl _) (.cells #[.int .i64 stop] 3))
  have HP := Lib.hid (pad_get l k)
  have hPL : Hid ((l.map (padB k)).length = n) := Lib.hid (by simp [hn])
  have hPk : Hid (∀ x ∈ l.map (padB k), x.length = k) := Lib.hid fun x hx => by
    obtain ⟨y, _, rfl⟩ := List.mem_map.1 hx
    exact padB_len k y
  have d60 : ¬ (60 : Int) < (n : Int) := by omega
  have dk0 : ¬ (k : Int) < 0 := by omega
  have dk2 : ¬ (200 : Int) < (k : Int) := by omega
  replace hn := Lib.hid hn
  clear hr
  generalize hPS : l.map (padB k) = PS at *
  replace hPS := Lib.hid hPS
  go_enter Try.func10, Try.ntmps10
  go_wp2_with fail
  refine (known_any _).mono ?_
  rintro e w1 ⟨rfl, b1⟩
  have B1 := Lib.hid (B0.out.trans (b1.mono B0.out.size))
  have HS1 := Lib.hid (HS0.out.below b1 HS0.out.lt)
  have hsz : Hid (w.heap.size < w1.heap.size) := Lib.hid HS1.out.lt
  have C7 := Lib.hid (Mem.Blk.new w1 92 #[.slice none 0 0])
  have D7 : Hid (Below w1.heap.size w1 (w1.alloc (.cells #[.slice none 0 0] 92))) := Lib.hid ((Below.refl _ _).alloc (Nat.le_refl _) _)
  clear b1
  go_wp2
  go_loopw [8] (fun i wr => ∃ (j : Nat) (v' : Value), j ≤ n ∧ i = .int .i64 j ∧ Mem.Blk wr w1.heap.size 92 #[v'] ∧ RowsOf wr (w1.heap.size + 1) v' (PS.take j) ∧ Below w1.heap.size w1 wr) (fun i _ => n - (intOf i).toNat)
  case atStart => exact ⟨0, _, by omega, rfl, C7.out, RowsOf.nil _ _, D7.out⟩
  case round =>
    clear C7 D7
    obtain ⟨j, v', hj, rfl, hC, hR, hD⟩ := hrel
    by_cases hlt : j < n
    · have hjl : j < l.length := by rw [hn.out]; exact hlt
      have hlt' : (j : Int) < (n : Int) := by omega
      have hW := B1.out.trans (hD.mono B1.out.size)
      obtain ⟨b, off, u, rfl, hc, hbw, ua, uc, rfl, ur, ul⟩ := HA.out wr hW j hjl
      have hsn := Lib.hid (HP.out j hjl)
      have hTl : Hid ((PS.take j).length ≤ 100000) := Lib.hid (by rw [List.length_take, hPL.out]; omega)
      obtain ⟨vs, ho, _⟩ := id hR
      have hnb : Hid (∀ g, v'.ownBlock = some g → w1.heap.size + 1 ≤ g ∧ g < wr.heap.size) := Lib.hid fun g e => World.ownsRow.lt ho g e
      have hvs : Hid (∀ k n, v' ≠ .int k n) := Lib.hid fun k n e => by obtain ⟨a2, c2, e2, _⟩ := hR.shape; rw [e2] at e; cases e
      generalize l.getD j [] = x at *
      have hmk := run_made k hk wr
      have HG : Hid ((wr.alloc (.cells (madeCells #[.int .u8 0] k) 5)).heap[wr.heap.size]? = some (.cells (vals (List.replicate k 0#8)).toArray 5 (0, 0))) := Lib.hid (by rw [← made_vals]; exact heap_alloc_new wr _)
      have HBW : Hid (Below wr.heap.size wr (wr.alloc (.cells (madeCells #[.int .u8 0] k) 5))) := Lib.hid ((Below.refl _ _).alloc (Nat.le_refl _) _)
      have hl1 : Hid ((vals (x.take k)).length = Nat.min x.length k) := Lib.hid (by rw [vals_length, List.length_take]; exact Nat.min_comm _ _)
      have hl2 : Hid (0 + (vals (x.take k)).length ≤ (vals (List.replicate k 0#8)).length) := Lib.hid (by rw [vals_length, vals_length, List.length_take, List.length_replicate]; omega)
      have hl3 : Hid (0 < (vals (x.take k)).length → (some ⟨wr.heap.size, 0, none⟩ : Option Addr) = some ⟨wr.heap.size, 0, none⟩ ∧ ∃ ad, ua = some ad ∧ ∀ j v, (vals (x.take k))[j]? = some v → (wr.alloc (.cells (madeCells #[.int .u8 0] k) 5)).cell? (ad.add j) = some v) := Lib.hid fun h0 => ⟨rfl, by
        rw [vals_length, List.length_take] at h0
        obtain ⟨b', off', eb, _⟩ := ur.2 0 (by omega)
        refine ⟨_, eb, fun i v hv => ?_⟩
        have hi : i < (x.take k).length := by have := (List.getElem?_eq_some_iff.1 hv).1; simpa [vals_length] using this
        rw [List.length_take] at hi
        obtain ⟨b2, off2, eb2, hcc⟩ := ur.2 i (by omega)
        rw [eb] at eb2
        injection eb2 with eb2
        injection eb2 with i1 i2
        subst i1 i2
        have hbl := ul _ (by omega) eb
        rw [Addr.add_lit, (HBW.out.cell (p := ⟨b', off' + i, none⟩) hbl), hcc, ← hv]
        have hxi : i < x.length := by omega
        have hik : i < k := by omega
        simp [vals, hxi, hik]⟩
      have hsp := Lib.hid (splice_pad k x)
      have hpl := Lib.hid (padB_len k x)
      replace hC := Lib.hid hC
      replace hR := Lib.hid hR
      replace hD := Lib.hid hD
      have hcW : (wr.alloc (.cells (madeCells #[.int .u8 0] k) 5)).cell? ⟨b, off + j, none⟩ = some (.slice ua x.length uc) := (HBW.out.cell (p := ⟨b, off + j, none⟩) hbw).trans hc
      clear ur ul ho hbw hc
      go_wp2_with (first
        | (refine wpList_copy_splice rfl (.tmp 38) (.tmp 42) 24 24 rfl 5 Try.underlying24 s5 _ _ k k _ uc rfl rfl wr.heap.size 0 (vals (List.replicate k 0#8)) 5 HG.out (vals (x.take k)) hl1.out hl3.out hl2.out (vals_one _) wr.heap.size wr HBW.out (Nat.le_refl _) ?_
           intro w5 hg5 hb5
           rw [hsp.out] at hg5
           have HO5 : Hid (One w5 (.slice (some ⟨wr.heap.size, 0, none⟩) k k) (padB k x)) := Lib.hid ⟨some ⟨wr.heap.size, 0, none⟩, k, by rw [hpl.out], Rd.of_whole hg5.out (by rw [hpl.out]; simp only [maxLen]; omega) (fun i hi => by simp [vals, hi]), fun y e => by
             injection e with e
             subst e
             exact Mem.Blk.lt (t := 5) hg5.out⟩
           have HC5 := Lib.hid (hC.out.below hb5 hC.out.lt)
           have HR5 := Lib.hid (RowsOf.below hR.out hb5)
           have D5 := Lib.hid (hD.out.trans (hb5.mono hD.out.size))
           have c7 := HC5.out.cell 0
           have hszz : Hid (wr.heap.size ≤ w5.heap.size) := Lib.hid hb5.size
           clear hg5 hb5)
        | (at_builtin
           refine wpList_more rfl (.tmp 44) (.tmp 46) rfl (w1.heap.size + 1) v' (PS.take j) rfl (RowsOf.below HR5.out ((Below.refl _ _).alloc (Nat.le_refl _) _)) (.slice (some ⟨wr.heap.size, 0, none⟩) k k) (padB k x) (One.below HO5.out ((Below.refl _ _).alloc (Nat.le_refl _) _)) (fun a' n' c' e h => by
             injection e with e1
             injection e1 with e1
             subst e1
             have := (hnb.out _ h).2
             exact absurd this (by simp)) w5.heap.size rfl (by simp) hTl.out (by have := D5.out.size; have := HC5.out.lt; simp; omega) ?_
           intro v3 w6 hv3 hg6
           obtain ⟨a3, c3, e3, _⟩ := hv3.shape
           generalize (PS.take j ++ [padB k x]).length = n3 at e3
           subst e3
           have HC6 : Hid (Mem.Blk w6 w1.heap.size 92 #[v']) := Lib.hid ((hg6.block _ (by have := HC5.out.lt; simp; omega) (by intro e; have := (hnb.out _ e.symm).1; omega)).trans (HC5.out.alloc _))
           have c76 := HC6.out.cell 0
           have z76 := HC6.out.frozen 0
           have D6 := Lib.hid ((D5.out.alloc D5.out.size (.cells #[.slice (some ⟨wr.heap.size, 0, none⟩) k k] 24)).grown hg6 (by have := D5.out.size; simp; omega) (fun g e => by have := (hnb.out g e).1; omega))
           have HP7 := Lib.hid (HC6.out.put 0 (.slice a3 n3 c3))
           have HR7 : Hid (RowsOf (w6.setCell ⟨w1.heap.size, 0, none⟩ (.slice a3 n3 c3)) (w1.heap.size + 1) (.slice a3 n3 c3) (PS.take (j + 1))) := Lib.hid (by rw [hsn.out]; exact RowsOf.put hv3 HC6.out hvs.out (by omega))
           have D7 := Lib.hid (D6.out.setCell (p := ⟨w1.heap.size, 0, none⟩) (Nat.le_refl _) (.slice a3 n3 c3))
           clear hv3 hg6 c7))
      go_roundw
      case rel => exact ⟨j + 1, _, by omega, by go_num, HP7.out, HR7.out, D7.out⟩
      case measure => simp [intOf]; omega
    · obtain rfl : j = n := by omega
      have et : PS.take j = PS := by rw [← hPL.out, List.take_length]
      rw [et] at hR
      obtain ⟨a', c', rfl, _⟩ := hR.shape
      rw [hPL.out] at hC
      have cN := hC.cell 0
      have J := Lib.hid (joinW _ PS _ wr hR k hPk.out hk (by rw [hPL.out]; omega))
      rw [hPL.out] at J
      have hJL := Lib.hid (joinL_len PS k hPk.out)
      have hspl := Lib.hid (spl_join k (by omega) PS [] ((joinL PS).length + 1) hPk.out (by
        rw [hJL.out]
        have : PS.length * 1 ≤ PS.length * (k + 3) := Nat.mul_le_mul (Nat.le_refl _) (by omega)
        omega))
      have hJ2 : Hid ((joinL PS).length ≤ 100000) := Lib.hid (by
        rw [hJL.out]
        have : PS.length * (k + 3) ≤ 60 * 203 := Nat.mul_le_mul (by rw [hPL.out]; omega) (by omega)
        omega)
      rw [List.nil_append, List.length_nil] at hspl
      have hRl : RowsOf wr (w1.heap.size + 1) (.slice a' j c') PS := by rw [hPL.out] at hR; exact hR
      replace hR := Lib.hid hRl
      replace hC := Lib.hid hC
      replace hD := Lib.hid hD
      clear et hRl
      go_wp2_with fail
      refine J.out.mono ?_
      rintro e w3 ⟨ja, jc, rfl, HJ, b3⟩
      have HR3 := Lib.hid (RowsOf.below hR.out b3)
      have HC3 := Lib.hid (hC.out.below b3 hC.out.lt)
      have D3 := Lib.hid (hD.out.trans (b3.mono hD.out.size))
      have S := Lib.hid (splitJ ja (joinL PS) (joinL PS).length jc (k : Int) w3 rfl (Own.rd HJ).1 (Own.rd HJ).2.2.1 (Own.rd HJ).2.2.2 (fun y _ e => own_lt HJ y e) hJ2.out)
      rw [hspl.out] at S
      generalize (joinL PS).length = N at *
      clear b3 HJ cN J
      go_wp2_with fail
      refine S.out.mono ?_
      rintro e w4 ⟨v4, rfl, HV4, b4⟩
      have HR4 := Lib.hid (RowsOf.below HR3.out b4)
      have HC4 := Lib.hid (HC3.out.below b4 HC3.out.lt)
      have D4 := Lib.hid (D3.out.trans (b4.mono D3.out.size))
      have RW := Lib.hid (rowsW v4 _ _ _ PS w4 HV4 HR4.out (by rw [hPL.out]; omega))
      have c74 := HC4.out.cell 0
      clear b4 HV4 S
      go_wp2_with fail
      refine RW.out.mono ?_
      rintro e w5 ⟨rfl, q, rfl⟩
      have hj5 := D4.out.size
      have HR5 : Hid (RowsOf (w4.drewN q) (w1.heap.size + 1) (.slice a' j c') PS) := Lib.hid (RowsOf.below HR4.out (drewN_below (Below.refl _ _) q))
      have HC5 : Hid (Mem.Blk (w4.drewN q) w1.heap.size 92 #[.slice a' j c']) := Lib.hid HC4.out
      have D5 := Lib.hid (drewN_below D4.out q)
      generalize w4.drewN q = w5 at *
      have cA := HC5.out.cell 0
      have cS : w5.cell? ⟨w.heap.size, 0, none⟩ = some (.int .i64 stop) := (D5.out.cell (p := ⟨w.heap.size, 0, none⟩) hsz.out).trans (HS1.out.cell 0)
      have E := Lib.hid (eachLaw w5 w5.heap.size (Nat.le_refl _) a' c' PS _ (by rw [hPL.out]; exact HR5.out) w1.heap.size w.heap.size stop (by rw [hPL.out]; exact cA) HC5.out.lt cS (Nat.lt_of_lt_of_le hsz.out D5.out.size) (by rw [hPL.out]; omega) (fun x hx => by rw [hPk.out x hx]; omega)
        ((w5.alloc (.cells #[.int .i64 0] 3)).alloc (.cells #[.bool true] 4)) (((Below.refl _ _).alloc (Nat.le_refl _) _).alloc (by simp) _) ((Mem.Blk.new w5 3 _).alloc _) (by have := Mem.Blk.new (w5.alloc (.cells #[.int .i64 0] 3)) 4 #[.bool true]; rwa [World.size_alloc] at this))
      rw [hPL.out] at E
      have hmf : ∀ (fn : Fn) (first cap : Array Value) (w : World), (Instr.makeFunc fn first cap).run Try.prog w = .ok (.func fn first cap) w := fun _ _ _ _ => rfl
      have cA2 : ((w5.alloc (.cells #[.int .i64 0] 3)).alloc (.cells #[.bool true] 4)).cell? ⟨w1.heap.size, 0, none⟩ = some (.slice a' j c') := (HC5.out.alloc _ |>.alloc _).cell 0
      have hcS : Hid (∀ w', Below w5.heap.size w5 w' → w'.cell? ⟨w.heap.size, 0, none⟩ = some (.int .i64 stop) ∧ w'.cell? ⟨w1.heap.size, 0, none⟩ = some (.slice a' j c')) := Lib.hid fun w' hb' =>
        ⟨(hb'.cell (p := ⟨w.heap.size, 0, none⟩) (Nat.lt_of_lt_of_le hsz.out D5.out.size)).trans cS, (hb'.cell (p := ⟨w1.heap.size, 0, none⟩) HC5.out.lt).trans cA⟩
      clear c74 RW hj5
      go_wp2_with fail
      refine E.out.mono ?_
      rintro e w6 ⟨rfl, HK, HO, b6⟩
      obtain ⟨cS6, cA6⟩ := hcS.out w6 b6
      have BE := Lib.hid (B1.out.trans ((D5.out.trans (b6.mono D5.out.size)).mono B1.out.size))
      replace HK := Lib.hid HK
      replace HO := Lib.hid HO
      clear b6 E cA2 cA cS
      by_cases hs0 : stop < 0
      · by_cases hj1 : 1 < j
        · skip
          have hN : Hid ((cnt stop j : Int) = 1) := Lib.hid (by exact cntA _ _ (by omega) (by omega))
          rw [hN.out] at HK
          have cK := HK.out.cell 0
          have cO := HO.out.cell 0
          have hj1p : (1 : Int) < (j : Int) := by omega
          clear hN
          go_wp2
          go_ret
          exact ⟨Mem.ret_bool (by simp), BE.out⟩
        · skip
          have hN : Hid ((cnt stop j : Int) = (j : Int)) := Lib.hid (by exact cntB _ _ (by omega) (by omega))
          rw [hN.out] at HK
          have cK := HK.out.cell 0
          have cO := HO.out.cell 0
          have hj1p : ¬ (1 : Int) < (j : Int) := by omega
          clear hN
          go_wp2
          go_ret
          exact ⟨Mem.ret_bool (by simp), BE.out⟩
      · by_cases hsj : stop < (j : Int)
        · skip
          have hN : Hid ((cnt stop j : Int) = stop + 1) := Lib.hid (by exact cntC _ _ (by omega) (by omega))
          rw [hN.out] at HK
          have cK := HK.out.cell 0
          have cO := HO.out.cell 0
          have hwr : IntKind.i64.wrap (stop + 1) = stop + 1 := IntWalk.i64_in _ (by omega)
          have hs1 : (0 : Int) ≤ stop := by omega
          clear hN
          go_wp2
          go_ret
          exact ⟨Mem.ret_bool (by simp), BE.out⟩
        · skip
          have hN : Hid ((cnt stop j : Int) = (j : Int)) := Lib.hid (by exact cntD _ _ (by omega) (by omega))
          rw [hN.out] at HK
          have cK := HK.out.cell 0
          have cO := HO.out.cell 0
          have hs1 : (0 : Int) ≤ stop := by omega
          clear hN
          go_wp2
          go_ret
          exact ⟨Mem.ret_bool (by simp), BE.out⟩

theorem all (a : Option Addr) (l : List (List B8)) (n c : Nat) (s stop : Int) (w : World) (hn : l.length = n) (hr : Arg w a l) :
    Calls Try.prog 10 #[.slice a n c, .int .i64 s, .int .i64 stop] w fun e w' => e = .returned (.bool true) ∧ Below w.heap.size w w' := by
  by_cases h : 60 < n ∨ s < 0 ∨ 200 < s
  · exact early a n c s stop w h
  · obtain ⟨k, rfl⟩ := Int.eq_ofNat_of_zero_le (show 0 ≤ s by omega)
    exact law a l n c k stop w hn hr (by omega) (by omega)

open Go.Deep in
theorem openRR {H : Type} {enc : TypeId × Value → H} {w : World} {base fuel : Nat} {held : Bool} {a : Option Addr} {len cap : Nat} {x : DataW H × List MemPlace}
    (h : DataW.trod enc Try.prog w base (fun _ => true) held fuel 92 [.slice a len cap] = some x) : ∃ l : List (List B8), l.length = len ∧ Arg w a l := by
  rcases open_slice1 Try.underlying92 (by kernel_rfl) h with ⟨hcs, _⟩ | ⟨a', len', cap', m, n, V, D, Pl, hcs, _, hl, hm, hmm, _, hi⟩
  · simp at hcs
    obtain ⟨rfl, rfl, rfl⟩ := hcs
    exact ⟨[], rfl, fun i hi => absurd hi (by simp)⟩
  · simp at hcs
    obtain ⟨rfl, rfl, rfl⟩ := hcs
    have hmc : m = cap := by simpa using hmm
    subst hmc
    obtain ⟨b, off, spot⟩ := a'
    have key : ∀ i, i < len → ∃ x : List B8, ∃ b' off' u, (some ⟨b, off, spot⟩ : Option Addr) = some ⟨b', off', none⟩ ∧ w.cell? ⟨b', off' + i, none⟩ = some u ∧ b' < w.heap.size ∧ One' w u x := by
      intro i hil
      obtain ⟨hc, ht⟩ := hi i (by omega)
      have hspot : spot = none := by simpa [Addr.add] using World.cell?_spot (hi 0 (by omega)).1
      subst hspot
      rw [Addr.add_lit] at hc
      have hbl := World.block_lt_of_cell? w _ hc
      rcases open_ints Try.underlying24 Try.underlying5 (by kernel_rfl) ht with ⟨hv, _⟩ | ⟨x, l, c, zs, hv, _, hl, hm, hz, _, hcell, hwz⟩
      · exact ⟨[], b, off, _, rfl, hc, hbl, none, 0, by simpa using hv, ⟨by simp [maxLen], fun i hi => absurd hi (by simp)⟩, fun y h0 => absurd h0 (by simp)⟩
      · have hrow : IsRow .u8 w (some x) l c zs := .inr ⟨x, rfl, hl, hm, by simpa using hz, hcell, hwz⟩
        obtain ⟨lb, h1, h2, _, h4⟩ := hrow.bytes
        exact ⟨lb, b, off, _, rfl, hc, hbl, some x, c, by rw [h1]; simpa using hv, h2, fun y h0 e => h4 y (by omega) e⟩
    refine ⟨(List.range len).map fun i => if hi : i < len then Classical.choose (key i hi) else [], by simp, fun i hil => ?_⟩
    have hil' : i < len := by simpa using hil
    obtain ⟨b2, off2, u, e, h1, h2, h3⟩ := Classical.choose_spec (key i hil')
    refine ⟨b2, off2, u, e, h1, h2, ?_⟩
    simpa [hil'] using h3
end Go.Proofs.Ytbnjijlpbeplmaa.TkL
