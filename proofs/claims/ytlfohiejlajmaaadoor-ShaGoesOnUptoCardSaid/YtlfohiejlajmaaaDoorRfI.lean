/- The law of sums. -/
import Derived.Test.YtlfohiejlajmaaaDoorRfH
namespace Go.Proofs.YtlfohiejlajmaaaDoor.RfI
open Go.ChangeShapes Go.WideShapes Go.ChangeAt Go.RowKit
open ShM ShA ShB ShC ShD ShE ShF ShG ShH ShI ShJ ShK ShL ShN ShO ShP ShS RfF RfG RfH Mem
open ShT (Rd vals vals_length vals_one)
set_option linter.unusedVariables false
set_option maxHeartbeats 4000000

theorem gEql27 (x y : Operand) (A B : Array Value) (w : World) : (eqGuard .eql 27 x y (.agg A) (.agg B)).run Tryd.prog w = .ok () w := by kernel_rfl
theorem eql27 (a b : List ShM.B8) (w : World) : (binOp .eql 27 (.agg (b32 a)) (.agg (b32 b))).run Tryd.prog w = .ok (.bool (decide (∀ i ∈ List.range 32, a.getD i 0 = b.getD i 0))) w := by
  obtain ⟨i, hi, hs⟩ : ∃ i, Tryd.prog.info? 5 = some i ∧ i.size = 1 := ⟨_, rfl, rfl⟩
  have hc : Tryd.prog.cellsOf 5 = 1 := by kernel_rfl
  have h1 : (binOp .eql 27 (.agg (b32 a)) (.agg (b32 b))).run Tryd.prog w = ((Op.equalIn 10000 27 (.agg (b32 a)) (.agg (b32 b))).run Tryd.prog w).andThen fun r w => .ok (.bool r) w := by
    simp only [binOp, Sem.run_bind, Sem.run_pure]
    rfl
  rw [h1, show (10000 : Nat) = 9998 + 1 + 1 from rfl, run_equalIn_array w (9998 + 1) (b32 a) (b32 b) Tryd.underlying27 hi, hc, eqItems_b 9998 a b w _ fun j hj => List.mem_range.1 hj]
  rfl
theorem eqSame27 {ops : Array Oper} {rest : List Oper} {op : Oper} {a : Act} {w : World} {Q : Exit → Act → World → Prop} (x y : Operand) (ho : op.op = .binOp .eql 27 x y 27) (A : Array Value) (hA : ∃ l, A = b32 l) (h1 : a.eval x = .agg A) (h2 : a.eval y = .agg A) (hgd : Region.wanted op (yielded ops a.tmps) = true)
    (h : wpList Tryd.prog ops Q rest (a.put op.dst (.bool true)) w) : wpList Tryd.prog ops Q (op :: rest) a w :=
  BigFrame.wpList_want hgd fun _ hK => by
    obtain ⟨l, rfl⟩ := hA
    have hg := gEql27 x y (b32 l) (b32 l) w
    have he := eql27 l l w
    rw [decide_eq_true (fun _ _ => rfl)] at he
    unfold Oper.wp execOp
    simp only [ho, h1, h2, Sem.run_bind, Sem.run_pure, Result.andThen_ok, hg, he]
    exact hK _ _ h

set_option maxRecDepth 100000 in
theorem sums (key : List ShM.B8) (ak : Option Addr) (nk ck : Nat) (ps : List (List ShM.B8)) (a : Option Addr) (n c : Nat) (w : World) (hl : Laid w) (hnk : key.length = nk) (hk : ShN.One w (.slice ak nk ck) key) (hn : ps.length = n) (ha : Arg w a ps) (hb : ps.flatten.length ≤ 1500000) (hnm : n ≤ 2000000) :
    Calls Tryd.prog 3 #[.slice ak nk ck, .slice a n c] w fun e w' => e = .returned (.bool true) ∧ Below w.heap.size w w' := by
  have HKN := Lib.hid (knownW w hl)
  have HJ := Lib.hid (fun w' (hbb : Below w.heap.size w w') => joinedW ps a n c w' hn (ha.below hbb) hb hnm)
  obtain ⟨SV, hSV⟩ : ∃ SV, SV = b32 (ShM.sum ps.flatten) := ⟨_, rfl⟩
  obtain ⟨MV, hMV⟩ : ∃ MV, MV = b32 (mac key ps.flatten) := ⟨_, rfl⟩
  have HOF : Hid (∀ w', Below w.heap.size w w' → n ≤ 1000000 → Calls Tryd.prog 9 #[.slice a n c] w' fun e w'' => e = .returned (.agg SV) ∧ Below w'.heap.size w' w'') := Lib.hid fun w' hbb h1 => by rw [hSV]; exact ofW ps a n c w' (hl.below hbb) hn (ha.below hbb) h1
  have HRS : Hid (∀ w' a' c', ShN.One w' (.slice a' ps.flatten.length c') ps.flatten → ps.flatten.length ≤ 4096 → Calls Tryd.prog 10 #[.slice a' ps.flatten.length c'] w' fun e w'' => e = .returned (.agg SV) ∧ Below w'.heap.size w' w'') := Lib.hid fun w' a' c' h1 h2 => by rw [hSV]; exact refSum ps.flatten a' _ c' w' rfl h1 (by omega)
  have HMA : Hid (∀ w', Below w.heap.size w w' → n ≤ 1000000 → Calls Tryd.prog 11 #[.slice ak nk ck, .slice a n c] w' fun e w'' => e = .returned (.agg MV) ∧ Below w'.heap.size w' w'') := Lib.hid fun w' hbb h1 => by rw [hMV]; exact macW key ak nk ck ps a n c w' (hl.below hbb) hnk (hk.below hbb) hn (ha.below hbb) h1
  have HRM : Hid (∀ w' a' c', Below w.heap.size w w' → nk ≤ 4096 → ShN.One w' (.slice a' ps.flatten.length c') ps.flatten → ps.flatten.length ≤ 4096 → Calls Tryd.prog 12 #[.slice ak nk ck, .slice a' ps.flatten.length c'] w' fun e w'' => e = .returned (.agg MV) ∧ Below w'.heap.size w' w'') := Lib.hid fun w' a' c' hbb h0 h1 h2 => by rw [hMV]; exact refMac key ps.flatten ak nk ck a' _ c' w' hnk (hk.below hbb) rfl h1 (by omega) (by omega)
  have eS : Hid (∃ l, SV = b32 l) := Lib.hid ⟨_, hSV⟩
  have eM : Hid (∃ l, MV = b32 l) := Lib.hid ⟨_, hMV⟩
  have hkm : nk ≤ 9223372036854775807 := by
    obtain ⟨_, _, e, _, h1, h2, _⟩ := hk
    injection e with _ e2 e3
    simp only [maxLen] at h2; omega
  obtain ⟨T, hT⟩ : ∃ T, T = ps.flatten.length := ⟨_, rfl⟩
  rw [← hT] at HRS HRM
  have HJP : Hid (∀ e w', JPost ps n e w' → ∃ v ok, e = .returned (.tuple #[v, .bool ok]) ∧ (ok = true → ∃ a' c', v = .slice a' T c' ∧ ShN.One w' (.slice a' T c') ps.flatten ∧ T ≤ 4096 ∧ n ≤ 500)) := Lib.hid fun e w' h => by rw [hT]; exact h
  replace hSV := Lib.hid hSV
  replace hMV := Lib.hid hMV
  replace hT := Lib.hid hT
  clear hl hk ha hn hnk hb
  go_enter Tryd.func3, Tryd.ntmps3
  go_wp2_with fail
  refine HKN.out.mono ?_
  rintro e w1 ⟨rfl, b1⟩
  have B1 := Lib.hid b1
  clear b1
  go_wp2_with fail
  refine (HJ.out w1 B1.out).mono ?_
  rintro e w2 ⟨hJP, b2⟩
  obtain ⟨v, ok, rfl, hok⟩ := HJP.out e w2 hJP
  have B2 := Lib.hid (B1.out.trans (b2.mono B1.out.size))
  clear b2 hJP
  cases ok with
  | false =>
    clear hok
    go_wp2_with fail
    go_ret
    exact ⟨rfl, B2.out⟩
  | true =>
    obtain ⟨a', c', rfl, hone, hT1, hn5⟩ := hok rfl
    have ONE := Lib.hid hone
    have hT2 := Lib.hid hT1
    have hn2 := Lib.hid hn5
    clear hok hone hT1 hn5
    by_cases hbig : 4096 < nk
    · have hbig' : (4096 : Int) < (nk : Int) := by omega
      go_wp2_with fail
      go_ret
      exact ⟨rfl, B2.out⟩
    · have hbig' : ¬ (4096 : Int) < (nk : Int) := by omega
      go_wp2_with fail
      refine (HOF.out w2 B2.out (by have := hn2.out; omega)).mono ?_
      rintro e w3 ⟨rfl, b3⟩
      have B3 := Lib.hid (B2.out.trans (b3.mono B2.out.size))
      have ONE3 := Lib.hid (ONE.out.below b3)
      clear b3
      go_wp2_with fail
      refine (HRS.out w3 a' c' ONE3.out hT2.out).mono ?_
      rintro e w4 ⟨rfl, b4⟩
      have B4 := Lib.hid (B3.out.trans (b4.mono B3.out.size))
      have ONE4 := Lib.hid (ONE3.out.below b4)
      clear b4
      go_wp2_with ((with_reducible show wpList _ _ _ (Oper.mk _ (Op.binOp .eql 27 (.tmp 22) (.tmp 24) 27) _ _ _ _ :: _) _ _); refine RfI.eqSame27 (.tmp 22) (.tmp 24) rfl SV eS.out rfl rfl rfl ?_)
      refine (HMA.out w4 B4.out (by have := hn2.out; omega)).mono ?_
      rintro e w5 ⟨rfl, b5⟩
      have B5 := Lib.hid (B4.out.trans (b5.mono B4.out.size))
      have ONE5 := Lib.hid (ONE4.out.below b5)
      clear b5
      go_wp2_with fail
      refine (HRM.out w5 a' c' B5.out (by omega) ONE5.out hT2.out).mono ?_
      rintro e w6 ⟨rfl, b6⟩
      have B6 := Lib.hid (B5.out.trans (b6.mono B5.out.size))
      clear b6
      go_wp2_with ((with_reducible show wpList _ _ _ (Oper.mk _ (Op.binOp .eql 27 (.tmp 29) (.tmp 32) 27) _ _ _ _ :: _) _ _); refine RfI.eqSame27 (.tmp 29) (.tmp 32) rfl MV eM.out rfl rfl rfl ?_)
      go_ret
      exact ⟨by simp, B6.out⟩
end Go.Proofs.YtlfohiejlajmaaaDoor.RfI
