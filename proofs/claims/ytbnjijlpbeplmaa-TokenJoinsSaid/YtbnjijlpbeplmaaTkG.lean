/- Blocks on the wire, each told to stop: walked. -/
import Derived.Test.YtbnjijlpbeplmaaTkF
import Derived.StillTailTactics
namespace Go.Proofs.Ytbnjijlpbeplmaa.TkG
open Go.ChangeShapes Go.WideShapes Go.ChangeAt Go.RowKit
open CrcM CrcB CrcL CrcQ TokA TokB TokC TokD TokE TokG TkM TkE TkF
set_option linter.unusedVariables false
set_option maxHeartbeats 2000000

set_option maxRecDepth 100000 in
theorem lawC (w0 : World) (B : Nat) (hBw : w0.heap.size ≤ B) (a : Option Addr) (c : Nat) (xss : List (List B8)) (base : Nat) (hr : RowsOf w0 base (.slice a xss.length c) xss) (gA gS : Nat) (stop : Int) (hA : w0.cell? ⟨gA, 0, none⟩ = some (.slice a xss.length c)) (hAl : gA < w0.heap.size)
    (hS : w0.cell? ⟨gS, 0, none⟩ = some (.int .i64 stop)) (hSl : gS < w0.heap.size) (i : Nat) (hi : i < xss.length) (h60 : xss.length ≤ 60) (u : Value) (w : World) (hu : One w u (xss.getD i [])) (hb : Below w0.heap.size w0 w) (hK : Mem.Blk w B 3 #[.int .i64 (i : Int)]) (hO : Mem.Blk w (B + 1) 4 #[.bool true]) :
    Calls Try.prog 61 #[.int .i64 (i : Int), u, .pointer (some ⟨B + 1, 0, none⟩), .pointer (some ⟨B, 0, none⟩), .pointer (some ⟨gA, 0, none⟩), .pointer (some ⟨gS, 0, none⟩)] w fun e w' => e = .returned (.bool (decide ((i : Int) + 1 ≤ stop))) ∧ Mem.Blk w' B 3 #[.int .i64 ((i : Int) + 1)] ∧ Mem.Blk w' (B + 1) 4 #[.bool true] ∧ Below w0.heap.size w0 w' := by
  obtain ⟨g, u2, rfl, hc, hu2⟩ := RowsOf.at_ (RowsOf.below hr hb) i hi
  obtain ⟨a1, c1, rfl, r1, l1⟩ := hu
  obtain ⟨a2, c2, rfl, r2, l2⟩ := hu2
  have e1 := conv w.drew a1 (xss.getD i []) _ c1 rfl (Rd.below r1 (Below.refl w.heap.size w).drew (fun y _ e => l1 y e))
  have e2 := conv w.drew a2 (xss.getD i []) _ c2 rfl (Rd.below r2 (Below.refl w.heap.size w).drew (fun y _ e => l2 y e))
  generalize strB (xss.getD i []) = s at e1 e2
  generalize (xss.getD i []).length = len at *
  have cg : w.drew.cell? ⟨g, i, none⟩ = some (.slice a2 len c2) := hc
  have cA : w.drew.cell? ⟨gA, 0, none⟩ = some (.slice (some ⟨g, 0, none⟩) xss.length c) := (hb.cell (p := ⟨gA, 0, none⟩) hAl).trans hA
  have cK : w.drew.cell? ⟨B, 0, none⟩ = some (.int .i64 (i : Int)) := hK.cell 0
  have cO : w.drew.cell? ⟨B + 1, 0, none⟩ = some (.bool true) := hO.cell 0
  have zO : w.drew.frozen? ⟨B + 1, 0, none⟩ = false := hO.frozen 0
  have K1 : Mem.Blk (w.drew.setCell ⟨B + 1, 0, none⟩ (.bool true)) B 3 #[.int .i64 (i : Int)] := Mem.Blk.far (w := w.drew) hK (by simp) _
  have cK1 := K1.cell 0
  have zK1 := K1.frozen 0
  have HK2 := Lib.hid (K1.put 0 (.int .i64 ((i : Int) + 1)))
  have O1 : Mem.Blk (w.drew.setCell ⟨B + 1, 0, none⟩ (.bool true)) (B + 1) 4 #[.bool true] := Mem.Blk.put (w := w.drew) hO 0 (.bool true)
  have HO2 := Lib.hid (O1.far (p := ⟨B, 0, none⟩) (by simp) (.int .i64 ((i : Int) + 1)))
  have HB2 : Hid (Below w0.heap.size w0 ((w.drew.setCell ⟨B + 1, 0, none⟩ (.bool true)).setCell ⟨B, 0, none⟩ (.int .i64 ((i : Int) + 1)))) := Lib.hid ((hb.drew.setCell (p := ⟨B + 1, 0, none⟩) (by show w0.heap.size ≤ B + 1; omega) (.bool true)).setCell (p := ⟨B, 0, none⟩) hBw (.int .i64 ((i : Int) + 1)))
  have cK2 := HK2.out.cell 0
  have cS2 : ((w.drew.setCell ⟨B + 1, 0, none⟩ (.bool true)).setCell ⟨B, 0, none⟩ (.int .i64 ((i : Int) + 1))).cell? ⟨gS, 0, none⟩ = some (.int .i64 stop) := (HB2.out.cell (p := ⟨gS, 0, none⟩) hSl).trans hS
  have hi' : (i : Int) < (xss.length : Int) := by omega
  generalize xss.length = m at *
  have hw : IntKind.i64.wrap ((i : Int) + 1) = (i : Int) + 1 := IntWalk.i64_in _ (by omega)
  clear hc r1 l1 r2 l2 hA hS hK hO K1 O1 hr hAl hSl hb
  go_enter Try.func61, Try.ntmps61
  go_wp2_with fail
  refine wp_region_still_tail 22 (by kernel_rfl) (by kernel_rfl) ?_
  simp only [List.take_succ_cons, List.take_zero, List.drop_succ_cons, List.drop_zero]
  change wpStill _ _ (World.drew w) (fun a' => wpList _ _ _ _ a' (World.drew w)) _ _
  generalize World.drew w = wd at *
  repeat still_step
  try refine wpStill_nil ?_
  change wpList _ _ _ _ _ wd
  go_wp2
  go_ret
  exact ⟨rfl, HK2.out, HO2.out, HB2.out⟩

set_option maxRecDepth 100000 in
theorem eachLaw (w0 : World) (B : Nat) (hBw : w0.heap.size ≤ B) (a : Option Addr) (c : Nat) (xss : List (List B8)) (base : Nat) (hr : RowsOf w0 base (.slice a xss.length c) xss) (gA gS : Nat) (stop : Int) (hA : w0.cell? ⟨gA, 0, none⟩ = some (.slice a xss.length c)) (hAl : gA < w0.heap.size)
    (hS : w0.cell? ⟨gS, 0, none⟩ = some (.int .i64 stop)) (hSl : gS < w0.heap.size) (h60 : xss.length ≤ 60) (hx : ∀ x ∈ xss, x.length ≤ 10000) (w : World) (hb : Below w0.heap.size w0 w) (hK : Mem.Blk w B 3 #[.int .i64 0]) (hO : Mem.Blk w (B + 1) 4 #[.bool true]) :
    Calls Try.prog 60 #[.slice a xss.length c, .func (.func 61) #[] #[.pointer (some ⟨B + 1, 0, none⟩), .pointer (some ⟨B, 0, none⟩), .pointer (some ⟨gA, 0, none⟩), .pointer (some ⟨gS, 0, none⟩)]] w fun e w' => e = .returned (.tuple #[]) ∧ Mem.Blk w' B 3 #[.int .i64 (cnt stop xss.length : Int)] ∧ Mem.Blk w' (B + 1) 4 #[.bool true] ∧ Below w0.heap.size w0 w' := by
  have HC : Hid (∀ w' i, Below w0.heap.size w0 w' → i < xss.length → ∃ g u, a = some ⟨g, 0, none⟩ ∧ w'.cell? ⟨g, i, none⟩ = some u ∧ One w' u (xss.getD i [])) := Lib.hid fun w' i hb' hi => RowsOf.at_ (RowsOf.below hr hb') i hi
  have HX : Hid (∀ i, i < xss.length → (xss.getD i []).length ≤ 10000) := Lib.hid fun i hi => hx _ (by rw [List.getD_eq_getElem?_getD, List.getElem?_eq_getElem hi]; exact List.getElem_mem _)
  have HW : Hid (∀ (i : Nat) (u : Value) (w : World), i < xss.length → One w u (xss.getD i []) → Below w0.heap.size w0 w → Mem.Blk w B 3 #[.int .i64 (i : Int)] → Mem.Blk w (B + 1) 4 #[.bool true] →
    Calls Try.prog 61 #[.int .i64 (i : Int), u, .pointer (some ⟨B + 1, 0, none⟩), .pointer (some ⟨B, 0, none⟩), .pointer (some ⟨gA, 0, none⟩), .pointer (some ⟨gS, 0, none⟩)] w fun e w' => e = .returned (.bool (decide ((i : Int) + 1 ≤ stop))) ∧ Mem.Blk w' B 3 #[.int .i64 ((i : Int) + 1)] ∧ Mem.Blk w' (B + 1) 4 #[.bool true] ∧ Below w0.heap.size w0 w') := Lib.hid fun i u w hi hu hb hK hO =>
    lawC w0 B hBw a c xss base hr gA gS stop hA hAl hS hSl i hi h60 u w hu hb hK hO
  have HE := Lib.hid (cnt_stop stop xss.length)
  have HF := Lib.hid (cnt_end stop xss.length)
  generalize cnt stop xss.length = N at *
  clear hr hA hS hx
  generalize xss.length = m at *
  replace hb := Lib.hid hb
  replace hK := Lib.hid hK
  replace hO := Lib.hid hO
  go_enter Try.func60, Try.ntmps60
  go_wp2
  go_loopw [8] (fun i wr => ∃ j : Nat, j ≤ m ∧ i = .int .i64 j ∧ (j = 0 ∨ (j : Int) ≤ stop) ∧ Mem.Blk wr B 3 #[.int .i64 (j : Int)] ∧ Mem.Blk wr (B + 1) 4 #[.bool true] ∧ Below w0.heap.size w0 wr) (fun i _ => m - (intOf i).toNat)
  case atStart => exact ⟨0, by omega, rfl, .inl rfl, hK.out, hO.out, hb.out⟩
  case round =>
    clear hK hO hb
    obtain ⟨j, hj, rfl, hst, hK, hO, hb⟩ := hrel
    by_cases hlt : j < m
    · have hlt' : (j : Int) < (m : Int) := by omega
      obtain ⟨g, u, rfl, hc, hu⟩ := HC.out wr j hb hlt
      have hlen := HX.out j hlt
      have HWj := Lib.hid (fun u w => HW.out j u w hlt)
      have HEj := Lib.hid (HE.out j hlt hst)
      clear hst
      generalize xss.getD j [] = x at *
      replace hu := Lib.hid hu
      replace hK := Lib.hid hK
      replace hO := Lib.hid hO
      replace hb := Lib.hid hb
      by_cases hle : (j : Int) + 1 ≤ stop
      · rw [decide_eq_true hle] at HWj
        go_wp2_with (first
          | (go_at_call 89
             refine (cloneOne u x wr hu.out hlen).mono ?_
             rintro e w1 ⟨u', rfl, hu', b1⟩
             have J := Lib.hid (HWj.out u' w1 hu' (hb.out.trans (b1.mono hb.out.size)) (hK.out.below b1 hK.out.lt) (hO.out.below b1 hO.out.lt))
             clear hu' b1)
          | (go_at_call 61
             refine J.out.mono ?_
             rintro e w2 ⟨rfl, hK2, hO2, hb2⟩
             replace hK2 := Lib.hid hK2
             replace hO2 := Lib.hid hO2
             replace hb2 := Lib.hid hb2))
        go_roundw
        case rel => exact ⟨j + 1, by omega, by go_num, .inr (by omega), hK2.out, hO2.out, hb2.out⟩
        case measure => simp [intOf]; omega
      · rw [decide_eq_false hle] at HWj
        have hN := HEj.out (by omega)
        replace hN := Lib.hid hN
        go_wp2_with (first
          | (go_at_call 89
             refine (cloneOne u x wr hu.out hlen).mono ?_
             rintro e w1 ⟨u', rfl, hu', b1⟩
             have J := Lib.hid (HWj.out u' w1 hu' (hb.out.trans (b1.mono hb.out.size)) (hK.out.below b1 hK.out.lt) (hO.out.below b1 hO.out.lt))
             clear hu' b1)
          | (go_at_call 61
             refine J.out.mono ?_
             rintro e w2 ⟨rfl, hK2, hO2, hb2⟩
             replace hK2 := Lib.hid hK2
             replace hO2 := Lib.hid hO2
             replace hb2 := Lib.hid hb2))
        refine bodyPost_ret (results_none rfl _ _ _) rfl ?_
        exact ⟨rfl, by rw [hN.out]; exact hK2.out, hO2.out, hb2.out⟩
    · obtain rfl : j = m := by omega
      have hN := Lib.hid (HF.out hst)
      clear hst
      replace hK := Lib.hid hK
      replace hO := Lib.hid hO
      replace hb := Lib.hid hb
      go_wp2
      go_end0
      exact ⟨rfl, by rw [hN.out]; exact hK.out, hO.out, hb.out⟩
end Go.Proofs.Ytbnjijlpbeplmaa.TkG
