/- Blocks on the wire, joined: walked. -/
import Derived.Test.YtbnjijlpbeplmaaTkE
namespace Go.Proofs.Ytbnjijlpbeplmaa.TkF
open Go.ChangeShapes Go.WideShapes Go.ChangeAt Go.RowKit
open CrcM CrcB CrcL CrcQ TokA TokB TokC TokD TokE TokG TkM TkE
set_option linter.unusedVariables false
set_option maxHeartbeats 2000000

theorem RowsOf.at_ {w : World} {base : Nat} {a : Option Addr} {n c : Nat} {xss : List (List B8)} (h : RowsOf w base (.slice a n c) xss) (i : Nat) (hi : i < xss.length) :
    ∃ g u, a = some ⟨g, 0, none⟩ ∧ w.cell? ⟨g, i, none⟩ = some u ∧ One w u (xss.getD i []) := by
  obtain ⟨a', c', e, hsh⟩ := h.shape
  injection e with e1 e2 e3
  subst e1
  exact hsh i hi

set_option maxRecDepth 100000 in
theorem eachJoin (v : Value) (xss : List (List B8)) (base : Nat) (w0 : World) (hr : RowsOf w0 base v xss) (k : Nat) (hk : ∀ x ∈ xss, x.length = k) (hk2 : k ≤ 200) (hl : xss.length ≤ 60) (B : Nat) (hBw : w0.heap.size ≤ B) (w : World) (hb : Below w0.heap.size w0 w) (hB : Mem.Blk w B 24 #[.slice none 0 0]) :
    Calls Try.prog 60 #[v, .func (.func 91) #[] #[.pointer (some ⟨B, 0, none⟩)]] w fun e w' => e = .returned (.tuple #[]) ∧ ∃ v', Mem.Blk w' B 24 #[v'] ∧ Own w' (B + 1) v' (joinL xss) ∧ Below w0.heap.size w0 w' := by
  obtain ⟨a, c, rfl, _⟩ := hr.shape
  have HC : Hid (∀ w' i, Below w0.heap.size w0 w' → i < xss.length → ∃ g u, a = some ⟨g, 0, none⟩ ∧ w'.cell? ⟨g, i, none⟩ = some u ∧ One w' u (xss.getD i [])) := Lib.hid fun w' i hb' hi => RowsOf.at_ (RowsOf.below hr hb') i hi
  have HK : Hid (∀ i, i < xss.length → (xss.getD i []).length = k) := Lib.hid fun i hi => hk _ (by rw [List.getD_eq_getElem?_getD, List.getElem?_eq_getElem hi]; exact List.getElem_mem _)
  have HS : Hid (∀ j, j < xss.length → joinL (xss.take (j + 1)) = joinL (xss.take j) ++ laid (xss.getD j [])) := Lib.hid (joinL_snoc xss)
  have HL : Hid (∀ j, j < xss.length → (joinL (xss.take j) ++ laid (xss.getD j [])).length ≤ 1000000) := Lib.hid fun j hj => by
    rw [← joinL_snoc xss j hj, joinL_len _ k (fun x hx => hk x (List.mem_of_mem_take hx)), List.length_take]
    have : min (j + 1) xss.length * (k + 3) ≤ 60 * 203 := Nat.mul_le_mul (by omega) (by omega)
    omega
  have HT : Hid (xss.take xss.length = xss) := Lib.hid (List.take_length)
  generalize hm : xss.length = m at *
  clear hr hk
  replace hm := Lib.hid hm
  replace hb := Lib.hid hb
  replace hB := Lib.hid hB
  go_enter Try.func60, Try.ntmps60
  go_wp2
  go_loopw [8] (fun i wr => ∃ (j : Nat) (v' : Value), j ≤ m ∧ i = .int .i64 j ∧ Mem.Blk wr B 24 #[v'] ∧ Own wr (B + 1) v' (joinL (xss.take j)) ∧ Below w0.heap.size w0 wr) (fun i _ => m - (intOf i).toNat)
  case atStart => exact ⟨0, _, by omega, rfl, hB.out, Own.nil _ _, hb.out⟩
  case round =>
    obtain ⟨j, v', hj, rfl, hB, hV, hb⟩ := hrel
    by_cases hlt : j < m
    · have hlt' : (j : Int) < (m : Int) := by omega
      obtain ⟨g, u, rfl, hc, hu⟩ := HC.out wr j hb hlt
      have hlen := HK.out j hlt
      have hroom := HL.out j hlt
      have hsn := Lib.hid (HS.out j hlt)
      generalize xss.getD j [] = x at *
      replace hu := Lib.hid hu
      replace hB := Lib.hid hB
      replace hV := Lib.hid hV
      replace hb := Lib.hid hb
      go_wp2_with (first
        | (go_at_call 89
           refine (cloneOne u x wr hu.out (by omega)).mono ?_
           rintro e w1 ⟨u', rfl, hu', b1⟩
           have J := Lib.hid (joinOne B w0 hBw (j : Int) u' v' x (joinL (xss.take j)) k _ w1 hu' hlen (by omega) (hB.out.below b1 hB.out.lt) (own_below hV.out b1) rfl hroom (hb.out.trans (b1.mono hb.out.size)))
           clear hu' b1)
        | (go_at_call 91
           refine J.out.mono ?_
           rintro e w2 ⟨rfl, v2, hB2, hV2, hb2⟩
           replace hB2 := Lib.hid hB2
           replace hV2 := Lib.hid hV2
           replace hb2 := Lib.hid hb2))
      go_roundw
      case rel => exact ⟨j + 1, v2, by omega, by go_num, hB2.out, by rw [hsn.out]; exact hV2.out, hb2.out⟩
      case measure => simp [intOf]; omega
    · obtain rfl : j = m := by omega
      have hV' : Hid (Own wr (B + 1) v' (joinL xss)) := Lib.hid (by rw [← HT.out]; exact hV)
      replace hB := Lib.hid hB
      replace hb := Lib.hid hb
      clear hV
      go_wp2
      go_end0
      exact ⟨rfl, v', hB.out, hV'.out, hb.out⟩

set_option maxRecDepth 100000 in
theorem joinW (v : Value) (xss : List (List B8)) (base : Nat) (w : World) (hr : RowsOf w base v xss) (k : Nat) (hk : ∀ x ∈ xss, x.length = k) (hk2 : k ≤ 200) (hl : xss.length ≤ 60) :
    Calls Try.prog 59 #[v] w fun e w' => ∃ a c, e = .returned (.slice a (joinL xss).length c) ∧ Own w' (w.heap.size + 1) (.slice a (joinL xss).length c) (joinL xss) ∧ Below w.heap.size w w' := by
  have hmf : ∀ (fn : Fn) (first cap : Array Value) (w : World), (Instr.makeFunc fn first cap).run Try.prog w = .ok (.func fn first cap) w := fun _ _ _ _ => rfl
  have H := Lib.hid (eachJoin v xss base w hr k hk hk2 hl w.heap.size (Nat.le_refl _) (w.alloc (.cells #[.slice none 0 0] 24)) ((Below.refl _ _).alloc (Nat.le_refl _) _) (Mem.Blk.new w 24 _))
  clear hr hk
  go_enter Try.func59, Try.ntmps59
  go_wp2_with fail
  refine H.out.mono ?_
  rintro e w1 ⟨rfl, v1, hB, hV, hb⟩
  have c := hB.cell 0
  obtain ⟨a', c', rfl, _⟩ := hV.shape
  replace hV := Lib.hid hV
  replace hb := Lib.hid hb
  clear hB
  go_wp2
  go_ret
  exact ⟨a', c', rfl, hV.out, hb.out⟩
end Go.Proofs.Ytbnjijlpbeplmaa.TkF
