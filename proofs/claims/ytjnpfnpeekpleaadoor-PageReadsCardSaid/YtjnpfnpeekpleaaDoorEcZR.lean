/- Rows of bytes as words: the document's checks of a row. -/
import Derived.Test.YtjnpfnpeekpleaaDoorEcZ
import Derived.Test.YtjnpfnpeekpleaaDoorEcS
namespace Go.Proofs.YtjnpfnpeekpleaaDoor.EcZR
open Go.ChangeShapes Go.WideShapes Go.ChangeAt Go.RowKit
open EcM EcA EcB EcC EcT EcX EcY EcZ EcS
set_option linter.unusedVariables false
set_option maxHeartbeats 1000000

set_option maxRecDepth 100000 in
theorem wordsR (a : Option Addr) (l : List B8) (n c : Nat) (w : World) (hn : l.length = n) (hr : Rd w a l) (ha : ∀ x, 0 < l.length → a = some x → x.block < w.heap.size) (h1 : n ≤ 10000) :
    Calls Tryd.prog 19 #[.slice a n c] w fun e w' => ∃ a' c', e = .returned (.slice a' (cnt n) c') ∧ Own w' w.heap.size (.slice a' (cnt n) c') (wordsTo l (cnt n)) ∧ Below w.heap.size w w' := by
  have hcn : cnt n ≤ 2000 := by unfold cnt; omega
  have hlt : ∀ k, k < cnt n ↔ 8 * k < n := fun k => by unfold cnt; omega
  have HK := Lib.hid (EcR.columnsR w)
  have H8 : Hid (∀ w' (k : Nat), Below w.heap.size w w' → k ≤ 10000 → Calls Tryd.prog 30 #[.slice a n c, .int .i64 (k : Int)] w' fun e w'' => e = .returned (.int .u64 (wd l (8 * k) : Int)) ∧ w' = w'') := Lib.hid fun w' k hb' hk =>
    (wordR a l n c k w' hn (Rd.below hr hb' ha) (by omega) (by omega)).mono fun e w'' h => ⟨h.1, h.2.symm⟩
  have HCk := Lib.hid (fun (k : Nat) a c w' h => checkR (wd l (8 * k)) (wd_lt _ _) a c w' h)
  have hsn := Lib.hid (wordsTo_succ l)
  have hln := Lib.hid (wordsTo_len l)
  have h0 : Hid (wordsTo l 0 = []) := Lib.hid rfl
  have hclt := Lib.hid (fun (k : Nat) => chk_lt (wd l (8 * k)))
  clear hr
  generalize wordsTo l = W at hsn hln h0 ⊢
  generalize hG : (fun k => chk (wd l (8 * k))) = G
  have eg : ∀ k, chk (wd l (8 * k)) = G k := fun k => by rw [← hG]
  simp only [eg] at HCk hsn hclt
  clear eg hG
  generalize hQ : (fun k => wd l (8 * k)) = Q
  have eq' : ∀ k, wd l (8 * k) = Q k := fun k => by rw [← hQ]
  simp only [eq'] at HCk H8
  clear eq' hQ
  generalize hm : cnt n = m at *
  replace hm := Lib.hid hm
  replace hn := Lib.hid hn
  replace hlt := Lib.hid hlt
  go_enter Tryd.func19, Tryd.ntmps19
  go_wp2_with fail
  refine HK.out.mono ?_
  rintro e w1 ⟨ac, cc, rfl, ho, hb1⟩
  replace ho := Lib.hid (Cols.of ho)
  go_wp2_with fail
  go_loopw [4, 5] (fun v i wr => ∃ k : Nat, k ≤ m ∧ i = .int .i64 (k : Int) ∧ ∃ a' c', v = .slice a' k c' ∧ Own wr w1.heap.size (.slice a' k c') (W k) ∧ Below w1.heap.size w1 wr) (fun _ i _ => (m - (intOf i).toNat))
  case atStart => exact ⟨0, by omega, rfl, _, _, rfl, by rw [h0.out]; exact Own.nil _ _, Below.refl _ _⟩
  case round =>
    obtain ⟨k, hk, rfl, a', c', rfl, hv, hb⟩ := hrel
    replace hv := Lib.hid hv
    by_cases hlt' : k < m
    · have h8 : 8 * k < n := (hlt.out k).1 hlt'
      have h8' : 8 * (k : Int) < n := by omega
      have hs' := Lib.hid (hsn.out k)
      have hgl := Lib.hid (byte_of_lt (G k) (hclt.out k))
      have hcw := Lib.hid (Cols.below ho.out hb)
      have hbw := Lib.hid (hb1.trans (hb.mono hb1.size))
      go_wp2_with fail
      refine (H8.out _ k hbw.out (by omega)).mono ?_
      rintro e w2 ⟨rfl, rfl⟩
      go_wp2_with fail
      refine (HCk.out k _ _ _ hcw.out).mono ?_
      rintro e w3 ⟨rfl, hww⟩
      obtain rfl := hww.symm
      have hl2 := Lib.hid (hln.out (k + 1))
      go_wp2_with (first
        | (at_builtin
           refine wpList_app rfl (.tmp 14) (.tmp 20) rfl w1.heap.size (.slice a' k c') (W k) rfl (hv.out.alloc _) _ [BitVec.ofNat 8 (G k)] 1 _ rfl rfl (EcT.one _ (BitVec.ofNat 8 (G k)) _ _ (by simp) hgl.out) (W (k + 1)) (k + 1) hs'.out.symm hl2.out (by omega) (by have := hb.size; simp; omega) ?_
           intro a1 c1 w3 hv1 hr1 hg1 hn1
           clear hr1 hn1
           have d3 := (hb.alloc hb.size _).grown hg1 (by have := hb.size; simp; omega) (hv.out.blocks · · |>.1)
           replace hv1 := Lib.hid hv1
           clear hg1))
      go_roundw
      case rel => exact ⟨k + 1, by omega, by go_num, a1, c1, by go_num, hv1.out, d3⟩
      case measure => simp [intOf]; omega
    · obtain rfl : k = m := by omega
      have h8 : ¬ 8 * k < n := fun h => hlt' ((hlt.out k).2 h)
      go_wp2
      go_ret
      refine ⟨a', c', rfl, ?_, hb1.trans (hb.mono hb1.size)⟩
      exact Own.base hv.out hb1.size
end Go.Proofs.YtjnpfnpeekpleaaDoor.EcZR
