/- Groups: what lasts of them. -/
import Derived.Test.YtleflegbdnmgeaaGdB
import Derived.Laws.CopyOwn
import Derived.Lib.SliceRun
namespace Go.Proofs.Ytleflegbdnmgeaa.GdC
open Go.ChangeShapes Go.WideShapes Go.ChangeAt Go.RowKit
open GdT GdA GdB
set_option linter.unusedVariables false
set_option maxHeartbeats 1000000

theorem Gd.rd {w g q n L} (h : Gd w g q n L) : Rd w (some ⟨q, 0, none⟩) L := ⟨by have := h.2.2.2; unfold maxLen; omega, fun i hi => ⟨q, 0, rfl, by rw [Nat.zero_add]; exact h.cell i (by rw [h.2.2.2.1] at hi; exact hi)⟩⟩

theorem clone (q n c : Nat) (l : List B8) (w : World) (hn : l.length = n) (hr : Rd w (some ⟨q, 0, none⟩) l) (hq : q < w.heap.size) (h0 : 1 ≤ n) (h1 : n ≤ 10000) :
    Calls Try.prog 26 #[.slice (some ⟨q, 0, none⟩) n c] w fun e w' => ∃ g5 c', e = .returned (.slice (some ⟨g5, 0, none⟩) n c') ∧ Own w' w.heap.size (.slice (some ⟨g5, 0, none⟩) n c') l ∧ w.heap.size ≤ g5 ∧ Below w.heap.size w w' := by
  have hb2 := (Below.refl w.heap.size w).alloc (Nat.le_refl _) (.cells #[] 5)
  have HO := Lib.hid (Own.made w w.heap.size (Nat.le_refl _) #[] 0 [] rfl (Nat.zero_le _) rfl)
  have HR : Hid (∀ w', Below w.heap.size w w' → Rd w' (some ⟨q, 0, none⟩) l) := Lib.hid fun w' hb' => Rd.below hr hb' (fun x _ e => by injection e with e; subst e; exact hq)
  have HL := Lib.hid hn
  have hnil : ∀ w : World, (binOp .eql 38 (.slice (some ⟨q, 0, none⟩) n c) (.slice none 0 0)).run Try.prog w = .ok (.bool false) w := fun w => by
    have := Lib.run_eql_slice_nil (P := Try.prog) w 38 5 (some ⟨q, 0, none⟩) n c 0 0 Try.underlying38
    simpa using this
  clear hr hn
  go_enter Try.func26, Try.ntmps26
  go_wp2_with (first
    | (at_builtin
       refine wpList_app rfl (.tmp 5) (.tmp 6) rfl w.heap.size (.slice (some ⟨w.heap.size, 0, none⟩) 0 0) [] rfl HO.out (some ⟨q, 0, none⟩) l n c rfl HL.out (HR.out _ hb2) l n rfl HL.out (by omega) hb2.size ?_
       intro a1 c1 w2 hv1 hr1 hg1 hn1
       have hb3 := Lib.hid (hb2.grown hg1 hb2.size (HO.out.blocks · · |>.1))
       obtain ⟨g5, o5, e5, _⟩ := (Own.rd hv1).1.2 0 (by rw [HL.out]; omega)
       subst e5
       have ho : o5 = 0 := by
         obtain ⟨a2, c2, e, _, _, _, hz, _⟩ := hv1.shape
         injection e with e1
         have := hz _ (e1.symm.trans rfl)
         injection this
       subst ho
       have hge : w.heap.size ≤ g5 := (hn1 _ rfl).1
       replace hv1 := Lib.hid hv1
       clear hr1 hg1 hn1))
  go_ret
  exact ⟨g5, c1, rfl, hv1.out, hge, hb3.out⟩

theorem take_snoc' (l : List B8) (k : Nat) (h : k < l.length) : l.take (k + 1) = l.take k ++ [l.getD k 0] := by
  rw [List.take_succ_eq_append_getElem h]; simp [List.getD, h]

def lst (x : B8) : B8 := if x = 2 then 0 else x
def part (L : List B8) (k : Nat) : List B8 := (L.take k).map lst ++ L.drop k
theorem part_zero (L : List B8) : part L 0 = L := by simp [part]
theorem part_all (L : List B8) : part L L.length = L.map lst := by simp [part]
theorem part_length (L : List B8) (k : Nat) (h : k ≤ L.length) : (part L k).length = L.length := by simp [part]; omega
theorem part_at (L : List B8) (k : Nat) (h : k < L.length) : (part L k).getD k 0 = L.getD k 0 := by
  have hk : (List.map lst (L.take k)).length = k := by simp; omega
  unfold part
  rw [List.getD_eq_getElem?_getD, List.getElem?_append_right (by omega), hk]
  simp
theorem part_succ (L : List B8) (k : Nat) (h : k < L.length) : (part L k).set k (lst (L.getD k 0)) = part L (k + 1) := by
  have hk : (List.map lst (L.take k)).length = k := by simp; omega
  unfold part
  rw [List.set_append_right _ _ (by omega), hk, Nat.sub_self]
  have e : L.drop k = L.getD k 0 :: L.drop (k + 1) := by
    rw [List.drop_eq_getElem_cons h]; simp [h]
  rw [e, List.set_cons_zero, take_snoc' L k h]
  simp
theorem part_same (L : List B8) (k : Nat) (h : k < L.length) (hz : lst (L.getD k 0) = L.getD k 0) : part L k = part L (k + 1) := by
  rw [← part_succ L k h, hz, ← part_at L k h]
  apply List.ext_getElem
  · simp
  · intro i h1 h2
    rw [List.getElem_set]
    split
    · rename_i e
      subst e
      simp [List.getD_eq_getElem?_getD, h1]
    · rfl

set_option maxRecDepth 100000 in
theorem lastingW (g q n : Nat) (L : List B8) (w : World) (h : Gd w g q n L) (h0 : 1 ≤ n) :
    Calls Try.prog 17 #[.pointer (some ⟨g, 0, none⟩)] w fun e w' => ∃ g5 c', e = .returned (.slice (some ⟨g5, 0, none⟩) n c') ∧ Own w' w.heap.size (.slice (some ⟨g5, 0, none⟩) n c') (L.map lst) ∧ w.heap.size ≤ g5 ∧ Below w.heap.size w w' := by
  have c := h.head
  have hL := h.2.2.2.1
  have hn := h.2.2.2.2
  have HC := Lib.hid (clone q n n L w hL (Gd.rd h) h.2.1.lt h0 (by omega))
  replace hL := Lib.hid hL
  clear h
  go_enter Try.func17, Try.ntmps17
  go_wp2_with fail
  refine HC.out.mono ?_
  rintro e' w5 ⟨g5, c5, rfl, hO, hge, hb⟩
  replace hO := Lib.hid hO
  replace hb := Lib.hid hb
  clear c HC
  go_wp2_with fail
  go_loopw [13] (fun i wr => ∃ k : Nat, k ≤ n ∧ i = .int .i64 k ∧ Own wr w.heap.size (.slice (some ⟨g5, 0, none⟩) n c5) (part L k) ∧ Below w.heap.size w wr) (fun i _ => n - (intOf i).toNat)
  case atStart => exact ⟨0, by omega, rfl, by rw [part_zero]; exact hO.out, hb.out⟩
  case round =>
    clear hO hb
    obtain ⟨k, hk, rfl, hO, hb⟩ := hrel
    by_cases hlt : k < n
    · have hlt' : (k : Int) < (n : Int) := by omega
      have hkL : k < L.length := by rw [hL.out]; exact hlt
      have hc : wr.cell? ⟨g5, k, none⟩ = some (.int .u8 (L.getD k 0).toNat) := by
        obtain ⟨b', o', e, hh⟩ := (Own.rd hO).1.2 k (by rw [part_length L k (by omega)]; exact hkL)
        injection e with e
        injection e with e1 e2
        subst e1 e2
        rw [Nat.zero_add, part_at L k hkL] at hh
        exact hh
      have hf := Own.free hO k
      have HP := Lib.hid (Own.put hO k (by rw [part_length L k (by omega)]; exact hkL) 0)
      have S1 := Lib.hid (part_succ L k hkL)
      have S2 := Lib.hid (part_same L k hkL)
      replace hO := Lib.hid hO
      replace hb := Lib.hid hb
      obtain ⟨y, hy⟩ : ∃ y, y = L.getD k 0 := ⟨_, rfl⟩
      rw [← hy] at hc S1 S2
      clear hy
      by_cases h2 : y = 2
      · have e : lst y = 0 := by simp [lst, h2]
        rw [e] at S1
        subst h2
        have e2 : ((2 : B8).toNat : Int) = 2 := rfl
        rw [e2] at hc
        go_wp2
        go_roundw
        case rel => exact ⟨k + 1, by omega, by go_num, by rw [← S1.out]; exact HP.out, hb.out.setCell hge _⟩
        case measure => simp [intOf]; omega
      · have e : lst y = y := if_neg h2
        have e2 : ¬ ((y.toNat : Int) = 2) := fun h => h2 (BitVec.eq_of_toNat_eq (by
          have : (2 : B8).toNat = 2 := rfl
          omega))
        have S3 := Lib.hid (S2.out e)
        clear e S2
        go_wp2
        go_roundw
        case rel => exact ⟨k + 1, by omega, by go_num, by rw [← S3.out]; exact hO.out, hb.out⟩
        case measure => simp [intOf]; omega
    · obtain rfl : k = n := by omega
      have e : part L k = L.map lst := by rw [← hL.out]; exact part_all L
      rw [e] at hO
      replace hO := Lib.hid hO
      replace hb := Lib.hid hb
      go_wp2
      go_ret
      exact ⟨g5, c5, rfl, hO.out, hge, hb.out⟩

theorem s5 : (Try.prog.info? 5).map (·.size) = some 1 := by kernel_rfl
/-- A whole row is written over, as a step of a region that draws its order. -/
theorem step_copy_row {ops : Array Oper} {o : Oper} {a : Act} {w : World} {K : Act → World → Prop} {Q : Exit → Act → World → Prop} {E : Prop} (hgd : o.guard = none) (d s : Operand)
    (ho : o.op = .call { callee := .builtin .copy, args := #[d, s], argTypes := #[38, 38] }) (q n dCap sCap : Nat) (ad : Addr) (hd : a.eval d = .slice (some ⟨q, 0, none⟩) n dCap) (hs : a.eval s = .slice (some ad) n sCap)
    (cur : Array Value) (hg : w.heap[q]? = some (.cells cur 5 (0, 0))) (cs : List Value) (hn : cs.length = n) (hcur : cur.size = n)
    (hsrc : ∀ j v, cs[j]? = some v → w.cell? (ad.add j) = some v) (h1 : ∀ v ∈ cs, v.oneCell' = true)
    (h : K (a.put o.dst (goInt cs.length)) (w.setRow q cs.toArray)) :
    if Region.wanted o (yielded ops a.tmps) = true then Oper.wp Try.prog o a w K Q else E := by
  have hw : Region.wanted o (yielded ops a.tmps) = true := by simp [Region.wanted, hgd]
  rw [if_pos hw]
  have hrun := run_copy_row (P := Try.prog) w 38 38 o.type 5 q 0 n dCap ad n sCap cur 5 cs Try.underlying38 s5 hg (by rw [hn]; exact (Nat.min_self n).symm) hsrc (by omega) h1
  have e : (cur.toList.take 0 ++ cs ++ cur.toList.drop (0 + cs.length)).toArray = cs.toArray := by
    rw [List.drop_of_length_le (by simp; omega)]; simp
  rw [e] at hrun
  unfold Oper.wp
  simp [execOp, ho, resolve, invoke, builtin, hd, hs, hrun, Result.andThen]
  exact h

theorem Gd.row {w g q n L} (h : Gd w g q n L) (L' : List B8) (hl : L'.length = n) : Gd (w.setRow q (vals L').toArray) g q n L' ∧ w.grownBy (w.setRow q (vals L').toArray) (some q) :=
  ⟨⟨(setRow_other w q g _ (by have := h.2.2.1; omega)).trans h.1, setRow_heap w q _ _ 5 _ h.2.1, h.2.2.1, hl, h.2.2.2.2⟩, ⟨rfl, rfl, rfl, by simp [World.setRow], fun k _ hne => setRow_other w q k _ (by simpa using hne)⟩⟩

set_option maxRecDepth 100000 in
theorem powerW (g q n : Nat) (L : List B8) (w : World) (h : Gd w g q n L) (h0 : 1 ≤ n) :
    Calls Try.prog 14 #[.pointer (some ⟨g, 0, none⟩)] w fun e w' => (∃ v, e = .returned v) ∧ Gd w' g q n (L.map lst) ∧ w.grownBy w' (some q) := by
  have AL : Hid (∀ w', Below w.heap.size w w' → Gd w' g q n L) := Lib.hid fun w' hb => h.below hb
  have DD : Hid (Below w.heap.size w w.drew) := Lib.hid (Below.refl _ _).drew
  have HC := Lib.hid (lastingW g q n L w.drew (AL.out _ DD.out) h0)
  have hL : Hid ((L.map lst).length = n) := Lib.hid (by simp [h.2.2.2.1])
  clear h
  go_enter Try.func14, Try.ntmps14
  go_wp2_with fail
  refine wp_region_held_drew (S := fun w' => w'.cell? ⟨g, 0, none⟩ = some (.slice (some ⟨q, 0, none⟩) n n)) (by kernel_rfl) (AL.out _ DD.out).head (fun hS => ?_)
  refine wpAnyH_take (i := 0) (v := ?_) (by simp only [List.getElem?_toArray, List.getElem?_cons_succ, List.getElem?_cons_zero]; rfl) (by kernel_rfl) (by kernel_rfl) (by kernel_rfl) (by exact fun _ _ _ h => h) (Or.inl ⟨by rfl, ?_⟩) hS ?_
  rotate_left
  · intro w hSw
    go_simp
    try with_reducible rfl
  try simp only [Act.put, List.setIfInBounds_toArray, List.set_cons_zero, List.set_cons_succ]
  refine wpAnyH_take (i := 1) (v := ?_) (by simp only [List.getElem?_toArray, List.getElem?_cons_succ, List.getElem?_cons_zero]; rfl) (by kernel_rfl) (by kernel_rfl) (by kernel_rfl) (by exact fun _ _ _ h => h) (Or.inl ⟨by rfl, ?_⟩) hS ?_
  rotate_left
  · intro w hSw
    go_simp
    try with_reducible rfl
  try simp only [Act.put, List.setIfInBounds_toArray, List.set_cons_zero, List.set_cons_succ]
  refine wpAnyH_take (i := 2) (v := ?_) (by simp only [List.getElem?_toArray, List.getElem?_cons_succ, List.getElem?_cons_zero]; rfl) (by kernel_rfl) (by kernel_rfl) (by kernel_rfl) (by exact fun _ _ _ h => h) (Or.inl ⟨by rfl, ?_⟩) hS ?_
  rotate_left
  · intro w hSw
    go_simp
    try with_reducible rfl
  try simp only [Act.put, List.setIfInBounds_toArray, List.set_cons_zero, List.set_cons_succ]
  refine wpAnyH_take (i := 3) (v := ?_) (by simp only [List.getElem?_toArray, List.getElem?_cons_succ, List.getElem?_cons_zero]; rfl) (by kernel_rfl) (by kernel_rfl) (by kernel_rfl) (by exact fun _ _ _ h => h) (Or.inl ⟨by rfl, ?_⟩) hS ?_
  rotate_left
  · intro w hSw
    go_simp
    try with_reducible rfl
  try simp only [Act.put, List.setIfInBounds_toArray, List.set_cons_zero, List.set_cons_succ]
  refine wpAnyH_take (i := 4) (v := ?_) (by simp only [List.getElem?_toArray, List.getElem?_cons_succ, List.getElem?_cons_zero]; rfl) (by kernel_rfl) (by kernel_rfl) (by kernel_rfl) (by exact fun _ _ _ h => h) (Or.inl ⟨by rfl, ?_⟩) hS ?_
  rotate_left
  · intro w hSw
    go_simp
    try with_reducible rfl
  try simp only [Act.put, List.setIfInBounds_toArray, List.set_cons_zero, List.set_cons_succ]
  refine wpAnyH_ready (rs := [5]) (by kernel_rfl) (by simp) ?_
  refine AllReadyH.cons (by simp only [List.getElem?_toArray, List.getElem?_cons_succ, List.getElem?_cons_zero]; rfl) (fun K hK => ?_) AllReadyH.nil
  go_simp
  go_at_call 17
  refine (HC.out).mono ?_
  rintro e' w5 ⟨g5, c5, rfl, hO, hge, hb⟩
  have D5 : Hid (Below w.heap.size w w5) := Lib.hid (DD.out.trans (hb.mono DD.out.size))
  replace hO := Lib.hid hO
  refine hK.out _ _ ((AL.out _ D5.out).head) (fun hS => ?_)
  clear hK K
  try simp only [Act.put, List.setIfInBounds_toArray, List.set_cons_zero, List.set_cons_succ]
  refine wpAnyH_ready (rs := [6]) (by kernel_rfl) (by simp) ?_
  refine AllReadyH.cons (by simp only [List.getElem?_toArray, List.getElem?_cons_succ, List.getElem?_cons_zero]; rfl) (fun K hK => ?_) AllReadyH.nil
  have G5 := AL.out _ D5.out
  have HR := Gd.row G5 (L.map lst) hL.out
  refine step_copy_row rfl (.tmp 5) (.tmp 7) rfl q n n c5 ⟨g5, 0, none⟩ rfl rfl _ G5.2.1 (vals (L.map lst)) (by rw [vals_length]; exact hL.out) (by simp [vals, G5.2.2.2.1]) ?_ (vals_one _) ?_
  · intro j v hj
    have hj' : j < (L.map lst).length := by have := (List.getElem?_eq_some_iff.1 hj).1; rwa [vals_length] at this
    obtain ⟨b', o', e, hh⟩ := (Own.rd hO.out).1.2 j hj'
    injection e with e
    injection e with e1 e2
    subst e1 e2
    rw [Addr.add_lit, hh, ← hj]
    generalize L.map lst = LL at *
    simp [vals, hj', List.getD_eq_getElem?_getD]
  · refine hK.out _ _ HR.1.head (fun hS => ?_)
    clear hK K
    try simp only [Act.put, List.setIfInBounds_toArray, List.set_cons_zero, List.set_cons_succ]
    have HH := Lib.hid HR
    clear HR
    refine wpAnyH_done (by kernel_rfl) ?_ _
    go_wp2
    go_returns
    exact ⟨⟨_, rfl⟩, HH.out.1, (below_grown D5.out _).trans HH.out.2⟩
end Go.Proofs.Ytleflegbdnmgeaa.GdC
