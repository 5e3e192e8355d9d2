/- Blocks as the document's; all pages. -/
import Derived.Test.YtbnjijlpbeplmaaPkA
import Derived.Test.YtbnjijlpbeplmaaReg
namespace Go.Proofs.Ytbnjijlpbeplmaa.PkD
open Go.ChangeShapes Go.WideShapes Go.ChangeAt Go.RowKit
open WearVM Mem WearC WearD WearE WearF WearV1 PkA
set_option linter.unusedVariables false
set_option maxHeartbeats 2000000

theorem info57 : (Try.prog.info? 57).map (fun i => (i.zero, i.size, i.bytes)) = some (some (.agg (cs zero)), 7, 40) := by kernel_rfl
theorem parts57 : ∃ i, Try.prog.info? 57 = some i ∧ i.zero = some (.agg (cs zero)) ∧ i.size = 7 ∧ i.bytes = 40 := by
  have h := info57
  cases hi : Try.prog.info? 57 with
  | none => rw [hi] at h; cases h
  | some i =>
    rw [hi] at h
    simp only [Option.map_some, Option.some.injEq, Prod.mk.injEq] at h
    exact ⟨i, rfl, h.1, h.2.1, h.2.2⟩

def flat (l : List WearVM.Blk) : List Value := l.flatMap fun x => (cs x).toList
theorem flat_snoc (l : List WearVM.Blk) (j : Nat) (h : j < l.length) : flat (l.take (j + 1)) = flat (l.take j) ++ (cs (l.getD j zero)).toList := by
  have e : l.getD j zero = l[j] := by simp [h]
  rw [e, List.take_succ_eq_append_getElem h]
  unfold flat
  rw [List.flatMap_append, List.flatMap_singleton]
theorem cs_len (x : WearVM.Blk) : (cs x).toList.length = 7 := rfl
theorem flat_get : ∀ (l : List WearVM.Blk) (i k : Nat), i < l.length → k < 7 → (flat l)[i * 7 + k]? = (cs (l.getD i zero)).toList[k]?
  | [], _, _, h, _ => absurd h (by simp)
  | x :: l, 0, k, _, hk => by
    simp only [flat, List.flatMap_cons, Nat.zero_mul, Nat.zero_add]
    rw [List.getElem?_append_left (by rw [cs_len]; exact hk)]
    rfl
  | x :: l, i + 1, k, h, hk => by
    have := flat_get l i k (by simpa using h) hk
    simp only [flat, List.flatMap_cons] at this ⊢
    rw [List.getElem?_append_right (by rw [cs_len]; omega), cs_len, show (i + 1) * 7 + k - 7 = i * 7 + k by omega, this]
    rfl
theorem own_RdB {w : World} {base : Nat} {v : Value} {n : Nat} {l : List WearVM.Blk} (h : w.ownsRow base 57 7 v n (flat l)) (hn : l.length = n) : ∃ a c, v = .slice a n c ∧ RdB w a l := by
  obtain ⟨h1, h2⟩ := h
  rcases h2 with ⟨rfl, rfl⟩ | ⟨g, cap, cur, rfl, hb, hg, hc, hm, hs, ht⟩
  · obtain rfl : l = [] := List.length_eq_zero_iff.1 hn
    exact ⟨none, 0, rfl, by simp [maxLen], fun i hi => absurd hi (by simp)⟩
  · refine ⟨_, _, rfl, by omega, fun i hi => ⟨g, 0, rfl, ?_, ?_⟩⟩
    · rcases Nat.lt_or_ge g w.heap.size with h | h
      · exact h
      · rw [Array.getElem?_eq_none h] at hg; cases hg
    · intro k u hk
      have hk7 : k < 7 := by have := (List.getElem?_eq_some_iff.1 hk).1; rwa [cs_len] at this
      have hf := flat_get l i k hi hk7
      rw [hk, ← ht, List.getElem?_take, if_pos (by omega)] at hf
      rw [cell_of_row w g (0 + i * 7 + k) cur 57 (0, 0) hg, Nat.zero_add]
      simpa using hf

set_option maxRecDepth 100000 in
theorem ofR (a : Option Addr) (l : List WearVM.Blk) (n c : Nat) (w : World) (hn : l.length = n) (hr : RdB w a l) (h200 : n ≤ 200) :
    Calls Try.prog 21 #[.slice a n c] w fun e w' => ∃ a' c', e = .returned (.slice a' n c') ∧ RdB w' a' l ∧ Below w.heap.size w w' := by
  obtain ⟨i0, hi, hz0, hz1, hz2⟩ := parts57
  have HR := Lib.hid hr
  have hN := Lib.hid hn
  clear hr hn
  go_enter Try.func21, Try.ntmps21
  go_wp2
  go_loopw [4, 3] (fun i v wr => ∃ (j : Nat) (v' : Value), v' = v ∧ j ≤ n ∧ i = .int .i64 j ∧ wr.ownsRow w.heap.size 57 7 v' j (flat (l.take j)) ∧ Below w.heap.size w wr) (fun i _ _ => n - (intOf i).toNat)
  case atStart => exact ⟨0, _, rfl, by omega, rfl, World.ownsRow_nil _ _ _ _, Below.refl _ _⟩
  case round =>
    obtain ⟨j, v0, rfl, hj, rfl, hO, hB⟩ := hrel
    by_cases hlt : j < n
    · have hjl : j < l.length := by rw [hN.out]; exact hlt
      obtain ⟨b, off, rfl, _⟩ := HR.out.2 j hjl
      have hlt' : (j : Int) < (n : Int) := by omega
      have d := PkA.RdB.sev (HR.out.below hB) j hjl
      have hsn := Lib.hid (flat_snoc l j hjl)
      obtain ⟨x, hx⟩ : ∃ x, x = l.getD j zero := ⟨_, rfl⟩
      rw [← hx] at d hsn
      clear hx
      obtain ⟨n1, l1, p1, k1, o1, e1, b1⟩ := x
      obtain ⟨d0, d1, d2, d3, d4, d5, d6⟩ := d
      dsimp only at d0 d1 d2 d3 d4 d5 d6
      unfold cs at hsn
      dsimp only at hsn
      replace hO := Lib.hid hO
      go_wp2_with (first
        | (at_builtin
           go_loud (refine wpList_append_own _ rfl (.tmp 16) (.tmp 32) 41 rfl w.heap.size 57 i0 (.agg (cs zero)) 7 40 Try.underlying41 hi hz0 hz1 hz2 rfl (by decide) v0 j (flat (l.take j)) rfl ((hO.out.alloc _).alloc _) ⟨wr.heap.size + 1, 0, none⟩ 1 1 [.int .i64 n1, .int .i64 l1, .int .i64 p1, .int .i64 k1, .bool o1, .bool e1, .bool b1] (by first | rfl | simp) rfl ?c1 ?c2 (by simp only [maxLen]; omega) (by omega) (by have := hB.size; simp; omega) ?c3)
           case c1 =>
             intro k u hk
             have h := (Mem.Blk.new (wr.alloc (.cells #[.int .i64 n1, .int .i64 l1, .int .i64 p1, .int .i64 k1, .bool o1, .bool e1, .bool b1] 55)) 57 #[.int .i64 n1, .int .i64 l1, .int .i64 p1, .int .i64 k1, .bool o1, .bool e1, .bool b1]).cell k
             rw [World.size_alloc] at h
             rw [Addr.add_lit, Nat.zero_add, h, ← hk]
             simp
           case c2 => intro u hu; simp at hu; rcases hu with rfl | rfl | rfl | rfl | rfl | rfl | rfl <;> rfl
           intro v1 w4 hv1 hg1 hz1'
           have hb2 := ((hB.alloc hB.size _).alloc (by have := hB.size; simp; omega) _).grown hg1 (by have := hB.size; simp; omega) (fun k hk => (World.ownsRow.lt hO.out k hk).1)
           have HV1 := Lib.hid hv1
           clear hv1 hg1 hz1'))
      go_roundw
      case rel => exact ⟨j + 1, v1, rfl, by omega, by go_num, by rw [hsn.out]; exact HV1.out, hb2⟩
      case measure => simp [intOf] <;> omega
    · obtain rfl : j = n := by omega
      have et : l.take j = l := by rw [← hN.out, List.take_length]
      rw [et] at hO
      obtain ⟨a', c', rfl, hR'⟩ := own_RdB hO hN.out
      replace hB := Lib.hid hB
      replace hR' := Lib.hid hR'
      go_wp2
      go_ret
      exact ⟨a', c', rfl, hR'.out, hB.out⟩

def tot (l : List WearVM.Blk) : Int × Int := l.foldl (fun s b => if right b = true then (s.1 + b.live, s.2 + b.pages) else s) (0, 0)
theorem tot_yes (l : List WearVM.Blk) (j : Nat) (h : j < l.length) (hr : right (l.getD j zero) = true) : tot (l.take (j + 1)) = ((tot (l.take j)).1 + (l.getD j zero).live, (tot (l.take j)).2 + (l.getD j zero).pages) := by
  rw [List.take_succ_eq_append_getElem h]
  have e : l.getD j zero = l[j] := by simp [h]
  rw [e] at hr ⊢
  simp only [tot, List.foldl_append, List.foldl_cons, List.foldl_nil]
  rw [if_pos hr]
theorem tot_no (l : List WearVM.Blk) (j : Nat) (h : j < l.length) (hr : right (l.getD j zero) = false) : tot (l.take (j + 1)) = tot (l.take j) := by
  rw [List.take_succ_eq_append_getElem h]
  have e : l.getD j zero = l[j] := by simp [h]
  rw [e] at hr
  simp only [tot, List.foldl_append, List.foldl_cons, List.foldl_nil]
  rw [hr]
  rfl
theorem tot_bd (l : List WearVM.Blk) : ∀ j, j ≤ l.length → 0 ≤ (tot (l.take j)).1 ∧ (tot (l.take j)).1 ≤ 256 * j ∧ 0 ≤ (tot (l.take j)).2 ∧ (tot (l.take j)).2 ≤ 256 * j
  | 0, _ => by simp [tot]
  | j + 1, h => by
    have ih := tot_bd l j (by omega)
    cases hr : right (l.getD j zero) with
    | false => rw [tot_no l j (by omega) hr]; omega
    | true =>
      rw [tot_yes l j (by omega) hr]
      have := right_iff.1 hr
      dsimp only
      omega

set_option maxRecDepth 100000 in
theorem totalR (a : Option Addr) (l : List WearVM.Blk) (n c : Nat) (w : World) (hn : l.length = n) (hr : RdB w a l) (h200 : n ≤ 200) :
    Calls Try.prog 29 #[.slice a n c] w fun e w' => e = .returned (.tuple #[.int .i64 (tot l).1, .int .i64 (tot l).2]) ∧ Below w.heap.size w w' := by
  have HR := Lib.hid hr
  have hN := Lib.hid hn
  have HBd := Lib.hid (tot_bd l)
  obtain ⟨⟨TA, TQ⟩, hTT⟩ : ∃ q, q = tot l := ⟨_, rfl⟩
  rw [← hTT]
  replace hTT := Lib.hid hTT
  clear hr hn
  go_enter Try.func29, Try.ntmps29
  go_wp2
  go_loopw [6, 4, 5] (fun i a p wr => ∃ (j : Nat) (A Q : Int), j ≤ n ∧ i = .int .i64 j ∧ a = .int .i64 A ∧ p = .int .i64 Q ∧ (A, Q) = tot (l.take j) ∧ Below w.heap.size w wr) (fun i _ _ _ => n - (intOf i).toNat)
  case atStart => exact ⟨0, 0, 0, by omega, rfl, rfl, rfl, rfl, Below.refl _ _⟩
  case round =>
    obtain ⟨j, A, Q, hj, rfl, rfl, rfl, hT, hB⟩ := hrel
    by_cases hlt : j < n
    · have hjl : j < l.length := by rw [hN.out]; exact hlt
      obtain ⟨b, off, rfl, _⟩ := HR.out.2 j hjl
      have hlt' : (j : Int) < (n : Int) := by omega
      have hbd := HBd.out j (by omega)
      have d := PkA.RdB.sev (HR.out.below hB) j hjl
      have AJ : Hid (∀ w', Below w.heap.size w w' → Sev w' b (off + j * 7) (l.getD j zero)) := Lib.hid fun w' h => PkA.RdB.sev (HR.out.below h) j hjl
      have ty := Lib.hid (tot_yes l j hjl)
      have tn := Lib.hid (tot_no l j hjl)
      rw [← hT] at hbd ty tn
      obtain ⟨x, hx⟩ : ∃ x, x = l.getD j zero := ⟨_, rfl⟩
      rw [← hx] at d AJ ty tn
      replace hT := Lib.hid hT
      replace hB := Lib.hid hB
      clear hx
      cases hR : right x with
      | false =>
        have HM := Lib.hid (rightR_as false x hR)
        have hT' := Lib.hid (tn.out hR)
        clear ty tn AJ hR hbd
        obtain ⟨n1, l1, p1, k1, o1, e1, b1⟩ := x
        obtain ⟨d0, d1, d2, d3, d4, d5, d6⟩ := d
        dsimp only at d0 d1 d2 d3 d4 d5 d6
        go_wp2_with fail
        refine (HM.out _).mono ?_
        rintro e' wD1 ⟨rfl, bD1⟩
        have D1 := Lib.hid (hB.out.trans (bD1.mono hB.out.size))
        clear bD1 d0 d1 d2 d3 d4 d5 d6
        go_wp2
        go_roundw
        case rel => exact ⟨j + 1, A, Q, by omega, by go_num, rfl, rfl, hT'.out.symm, D1.out⟩
        case measure => simp [intOf] <;> omega
      | true =>
        have HM := Lib.hid (rightR_as true x hR)
        have hT' := Lib.hid (ty.out hR)
        have hri := right_iff.1 hR
        clear ty tn hR
        obtain ⟨n1, l1, p1, k1, o1, e1, b1⟩ := x
        obtain ⟨d0, d1, d2, d3, d4, d5, d6⟩ := d
        dsimp only at d0 d1 d2 d3 d4 d5 d6 hri hbd hT'
        go_wp2_with fail
        refine (HM.out _).mono ?_
        rintro e' wD1 ⟨rfl, bD1⟩
        have D1 := Lib.hid (hB.out.trans (bD1.mono hB.out.size))
        clear bD1 d0 d1 d2 d3 d4 d5 d6
        obtain ⟨d0, d1, d2, d3, d4, d5, d6⟩ := AJ.out _ D1.out
        dsimp only at d0 d1 d2 d3 d4 d5 d6
        go_wp2
        go_roundw
        case rel => exact ⟨j + 1, A + l1, Q + p1, by omega, by go_num, by go_num, by go_num, hT'.out.symm, D1.out⟩
        case measure => simp [intOf] <;> omega
    · obtain rfl : j = n := by omega
      have et : l.take j = l := by rw [← hN.out, List.take_length]
      rw [et, ← hTT.out] at hT
      obtain ⟨rfl, rfl⟩ := Prod.mk.inj hT
      replace hB := Lib.hid hB
      clear hT
      go_wp2
      go_ret2
      exact ⟨rfl, hB.out⟩
end Go.Proofs.Ytbnjijlpbeplmaa.PkD
