/- Blocks on the wire, joined: each of them, the closure that joins. -/
import Derived.Test.YtbnjijlpbeplmaaTkM
import Derived.Test.YtbnjijlpbeplmaaMem
import Derived.Test.YtbnjijlpbeplmaaReg
namespace Go.Proofs.Ytbnjijlpbeplmaa.TkE
open Go.ChangeShapes Go.WideShapes Go.ChangeAt Go.RowKit
open CrcM CrcB CrcL CrcQ TokA TokB TokC TokD TokE TokG TkM
set_option linter.unusedVariables false
set_option maxHeartbeats 2000000

theorem clone3 (ad : Addr) (l : List B8) (n c : Nat) (w : World) (hn : l.length = n) (hr : Rd w (some ad) l) (hb : ad.block < w.heap.size) (h1 : n ≤ 10000) :
    Calls Try.prog 89 #[.slice (some ad) n c] w fun e w' => ∃ a' c', e = .returned (.slice a' n c') ∧ Rd w' a' l ∧ (∀ x, a' = some x → w.heap.size ≤ x.block ∧ x.block < w'.heap.size) ∧ Below w.heap.size w w' := by
  have hb2 := (Below.refl w.heap.size w).alloc (Nat.le_refl _) (.cells #[] 5)
  have HO := Lib.hid (Own.made w w.heap.size (Nat.le_refl _) #[] 0 [] rfl (Nat.zero_le _) rfl)
  have HR : Hid (∀ w', Below w.heap.size w w' → Rd w' (some ad) l) := Lib.hid fun w' hb' => Rd.below hr hb' (fun x _ e => by injection e with e; subst e; exact hb)
  have HL := Lib.hid hn
  have hnil : ∀ w : World, (binOp .eql 24 (.slice (some ad) n c) (.slice none 0 0)).run Try.prog w = .ok (.bool false) w := fun w => by
    have := Lib.run_eql_slice_nil (P := Try.prog) w 24 5 (some ad) n c 0 0 Try.underlying24
    simpa using this
  clear hr hn
  go_enter Try.func89, Try.ntmps89
  go_wp2_with (first
    | (at_builtin
       refine wpList_app rfl (.tmp 5) (.tmp 6) rfl w.heap.size (.slice (some ⟨w.heap.size, 0, none⟩) 0 0) [] rfl HO.out (some ad) l n c rfl HL.out (HR.out _ hb2) l n rfl HL.out (by omega) hb2.size ?_
       intro a1 c1 w2 hv1 hr1 hg1 hn1
       have hb3 := hb2.grown hg1 hb2.size (HO.out.blocks · · |>.1)
       have HR1 := Lib.hid hr1
       have HN1 := Lib.hid hn1
       clear hr1 hg1 hv1 hn1))
  go_ret
  exact ⟨a1, c1, rfl, HR1.out, fun x e => HN1.out x e, hb3⟩

theorem cloneOne (u : Value) (x : List B8) (w : World) (h : One w u x) (hx : x.length ≤ 10000) :
    Calls Try.prog 89 #[u] w fun e w' => ∃ u', e = .returned u' ∧ One w' u' x ∧ Below w.heap.size w w' := by
  obtain ⟨a, c, rfl, hr, hl⟩ := h
  cases a with
  | some ad =>
    refine (clone3 ad x x.length c w rfl hr (hl ad rfl) hx).mono ?_
    rintro e w' ⟨a', c', rfl, h1, h2, h3⟩
    exact ⟨_, rfl, ⟨a', c', rfl, h1, fun y e => (h2 y e).2⟩, h3⟩
  | none =>
    have hx0 : x = [] := by
      cases x with
      | nil => rfl
      | cons y l => obtain ⟨b, o, e, _⟩ := hr.2 0 (by simp); cases e
    subst hx0
    have hnil : ∀ w : World, (binOp .eql 24 (.slice none 0 c) (.slice none 0 0)).run Try.prog w = .ok (.bool true) w := fun w => by
      have := Lib.run_eql_slice_nil (P := Try.prog) w 24 5 none 0 c 0 0 Try.underlying24
      simpa using this
    clear hr hl hx
    show Calls Try.prog 89 #[.slice none 0 c] w _
    go_enter Try.func89, Try.ntmps89
    go_wp2
    go_ret
    exact ⟨_, rfl, ⟨none, 0, rfl, ⟨by simp [maxLen], fun i hi => absurd hi (by simp)⟩, fun y e => by cases e⟩, Below.refl _ _⟩

theorem step_app {ops : Array Oper} {o : Oper} {a : Act} {w : World} {K : Act → World → Prop} {Q : Exit → Act → World → Prop} {E : Prop} (hgd : o.guard = none) (s x : Operand)
    (ho : o.op = .call { callee := .builtin .append, args := #[s, x], argTypes := #[24, 24] })
    (base : Nat) (v : Value) (xs : List B8) (hs : a.eval s = v) (h : Own w base v xs) (A : Option Addr) (l : List B8) (m c : Nat) (hx : a.eval x = .slice A m c) (hm : l.length = m) (hr : Rd w A l)
    (ys : List B8) (N : Nat) (hy : xs ++ l = ys) (hN : ys.length = N) (hroom : N ≤ 1000000) (hbase : base ≤ w.heap.size)
    (hK : ∀ a' c' w', Own w' base (.slice a' N c') ys → Rd w' a' ys → w.grownBy w' v.ownBlock → (∀ x, a' = some x → base ≤ x.block ∧ x.block < w'.heap.size) → K (a.put o.dst (.slice a' N c')) w') : if Region.wanted o (yielded ops a.tmps) = true then o.wp Try.prog a w K Q else E := by
  have hw : Region.wanted o (yielded ops a.tmps) = true := by simp [Region.wanted, hgd]
  rw [if_pos hw]
  exact wp_app s x ho base v xs hs h A l m c hx hm hr ys N hy hN hroom hbase hK

theorem own_put {w : World} {base B : Nat} {v u : Value} {xs : List B8} (h : Own w base v xs) (hne : v.ownBlock ≠ some B) : Own (w.setCell ⟨B, 0, none⟩ u) base v xs :=
  World.ownsRow.kept (row := some B) h ⟨rfl, rfl, rfl, by simp [World.setCell], fun i hi hne => Below.heap_setCell w ⟨B, 0, none⟩ u i (fun e => hne (by rw [e]))⟩ (.inr hne)

set_option maxRecDepth 100000 in
theorem joinOne (B : Nat) (w0 : World) (hBw : w0.heap.size ≤ B) (i : Int) (u v : Value) (x xs : List B8) (n N : Nat) (w : World) (hu : One w u x) (hn : x.length = n) (h1 : n ≤ 10000) (hB : Mem.Blk w B 24 #[v]) (hv : Own w (B + 1) v xs) (hN : (xs ++ laid x).length = N) (hroom : N ≤ 1000000) (hb : Below w0.heap.size w0 w) :
    Calls Try.prog 91 #[.int .i64 i, u, .pointer (some ⟨B, 0, none⟩)] w fun e w' => e = .returned (.bool true) ∧ ∃ v', Mem.Blk w' B 24 #[v'] ∧ Own w' (B + 1) v' (xs ++ laid x) ∧ Below w0.heap.size w0 w' := by
  obtain ⟨a, c, rfl, hr, hl⟩ := hu
  rw [hn]
  have HL := Lib.hid (lay a x n c w.drew hn (Rd.below hr (Below.refl w.heap.size w).drew (fun y _ e => hl y e)) (fun y _ e => hl y e) h1)
  have hld : Hid ((laid x).length = n + 3) := Lib.hid (by rw [laid_length, hn])
  have C0 : Hid (w.drew.cell? ⟨B, 0, none⟩ = some v) := Lib.hid (hB.cell 0)
  have HB0 : Hid (Mem.Blk w.drew B 24 #[v]) := Lib.hid hB
  have HV0 : Hid (Own w.drew (B + 1) v xs) := Lib.hid hv
  have D0 : Hid (Below w0.heap.size w0 w.drew) := Lib.hid hb.drew
  have hbase : Hid (∀ w1, Below w.drew.heap.size w.drew w1 → B + 1 ≤ w1.heap.size) := Lib.hid fun w1 h => by have := hB.lt; have := h.size; simp at this; omega
  replace hN := Lib.hid hN
  replace hBw := Lib.hid hBw
  clear hr hl hn hB hv hb
  go_enter Try.func91, Try.ntmps91
  go_wp2_with fail
  refine wp_region_held_drew (S := fun _ => True) (by kernel_rfl) trivial (fun hS => ?_)
  try simp only [List.size_toArray, List.length_cons, List.length_nil, Nat.reduceAdd]
  refine wpAnyH_take (i := 1) (v := ?_) (by simp only [List.getElem?_toArray, List.getElem?_cons_succ, List.getElem?_cons_zero]; rfl) (by kernel_rfl) (by kernel_rfl) (by kernel_rfl) (by exact fun _ _ _ h => h) (Or.inl ⟨by rfl, ?_⟩) hS ?_
  rotate_left
  · intro w hSw
    go_simp
    try with_reducible rfl
  try simp only [Act.put, List.setIfInBounds_toArray, List.set_cons_zero, List.set_cons_succ]
  refine wpAnyH_ready (rs := [0, 2]) (by kernel_rfl) (by simp) ?_
  refine AllReadyH.cons (by simp only [List.getElem?_toArray, List.getElem?_cons_succ, List.getElem?_cons_zero]; rfl) (fun K hK => ?_) (AllReadyH.cons (by simp only [List.getElem?_toArray, List.getElem?_cons_succ, List.getElem?_cons_zero]; rfl) (fun K hK => ?_) AllReadyH.nil)
  · have c0 := C0.out
    go_simp
    refine hK.out _ _ trivial (fun hS => ?_)
    clear hK K c0
    try simp only [Act.put, List.setIfInBounds_toArray, List.set_cons_zero, List.set_cons_succ]
    refine wpAnyH_ready (rs := [2]) (by kernel_rfl) (by simp) ?_
    refine AllReadyH.cons (by simp only [List.getElem?_toArray, List.getElem?_cons_succ, List.getElem?_cons_zero]; rfl) (fun K hK => ?_) AllReadyH.nil
    go_simp
    go_at_call 54
    refine (HL.out).mono ?_
    rintro e' w1 ⟨a', c', rfl, HO1, b1⟩
    have L1 := Lib.hid b1
    have HV1 : Hid (Own w1 (B + 1) v xs) := Lib.hid (own_below HV0.out b1)
    have HB1 := Lib.hid (HB0.out.below b1 HB0.out.lt)
    have C1 := Lib.hid (HB1.out.cell 0)
    have D1 := Lib.hid (D0.out.trans (b1.mono D0.out.size))
    replace HO1 := Lib.hid HO1
    clear b1
    refine hK.out _ _ trivial (fun hS => ?_)
    clear hK K
    try simp only [Act.put, List.setIfInBounds_toArray, List.set_cons_zero, List.set_cons_succ]
    refine wpAnyH_ready (rs := [3]) (by kernel_rfl) (by simp) ?_
    refine AllReadyH.cons (by simp only [List.getElem?_toArray, List.getElem?_cons_succ, List.getElem?_cons_zero]; rfl) (fun K hK => ?_) AllReadyH.nil
    refine step_app rfl (.tmp 6) (.tmp 8) rfl (B + 1) v xs rfl HV1.out a' (laid x) (n + 3) c' rfl hld.out (Own.rd HO1.out).1 (xs ++ laid x) N rfl hN.out hroom (hbase.out _ L1.out) ?_
    intro a2 c2 w2 hv2 hr2 hg2 hn2
    have HV2 := Lib.hid hv2
    have hne : ∀ j, v.ownBlock = some j → B + 1 ≤ j := fun j e => (HV1.out.blocks j e).1
    have HB2 : Hid (Mem.Blk w2 B 24 #[v]) := Lib.hid ((hg2.block _ HB1.out.lt (by intro e; have := hne B e.symm; omega)).trans HB1.out)
    have D2 := Lib.hid (D1.out.grown hg2 D1.out.size (fun j e => by have := hne j e; have := hBw.out; omega))
    have cB := HB2.out.cell 0
    have zB := HB2.out.frozen 0
    have HP := Lib.hid (HB2.out.put 0 (.slice a2 N c2))
    have D3 := Lib.hid (D2.out.setCell (p := ⟨B, 0, none⟩) hBw.out (.slice a2 N c2))
    have HV3 : Hid (Own (w2.setCell ⟨B, 0, none⟩ (.slice a2 N c2)) (B + 1) (.slice a2 N c2) (xs ++ laid x)) := Lib.hid (own_put hv2 (by have := fun j => (HV2.out.blocks j); intro e; have := (this B e).1; omega))
    clear hv2 hr2 hg2 hn2 hne
    refine hK.out _ _ trivial (fun hS => ?_)
    clear hK K
    try simp only [Act.put, List.setIfInBounds_toArray, List.set_cons_zero, List.set_cons_succ]
    refine wpAnyH_ready (rs := [4]) (by kernel_rfl) (by simp) ?_
    refine AllReadyH.cons (by simp only [List.getElem?_toArray, List.getElem?_cons_succ, List.getElem?_cons_zero]; rfl) (fun K hK => ?_) AllReadyH.nil
    go_simp
    refine hK.out _ _ trivial (fun hS => ?_)
    clear hK K
    try simp only [Act.put, List.setIfInBounds_toArray, List.set_cons_zero, List.set_cons_succ]
    refine wpAnyH_done (by kernel_rfl) ?_ _
    go_wp2
    go_ret
    exact ⟨rfl, _, HP.out, HV3.out, D3.out⟩
  · go_simp
    go_at_call 54
    refine (HL.out).mono ?_
    rintro e' w1 ⟨a', c', rfl, HO1, b1⟩
    have L1 := Lib.hid b1
    have HV1 : Hid (Own w1 (B + 1) v xs) := Lib.hid (own_below HV0.out b1)
    have HB1 := Lib.hid (HB0.out.below b1 HB0.out.lt)
    have C1 := Lib.hid (HB1.out.cell 0)
    have D1 := Lib.hid (D0.out.trans (b1.mono D0.out.size))
    replace HO1 := Lib.hid HO1
    clear b1
    refine hK.out _ _ trivial (fun hS => ?_)
    clear hK K
    try simp only [Act.put, List.setIfInBounds_toArray, List.set_cons_zero, List.set_cons_succ]
    refine wpAnyH_ready (rs := [0]) (by kernel_rfl) (by simp) ?_
    refine AllReadyH.cons (by simp only [List.getElem?_toArray, List.getElem?_cons_succ, List.getElem?_cons_zero]; rfl) (fun K hK => ?_) AllReadyH.nil
    have c0 := C1.out
    go_simp
    refine hK.out _ _ trivial (fun hS => ?_)
    clear hK K c0
    try simp only [Act.put, List.setIfInBounds_toArray, List.set_cons_zero, List.set_cons_succ]
    refine wpAnyH_ready (rs := [3]) (by kernel_rfl) (by simp) ?_
    refine AllReadyH.cons (by simp only [List.getElem?_toArray, List.getElem?_cons_succ, List.getElem?_cons_zero]; rfl) (fun K hK => ?_) AllReadyH.nil
    refine step_app rfl (.tmp 6) (.tmp 8) rfl (B + 1) v xs rfl HV1.out a' (laid x) (n + 3) c' rfl hld.out (Own.rd HO1.out).1 (xs ++ laid x) N rfl hN.out hroom (hbase.out _ L1.out) ?_
    intro a2 c2 w2 hv2 hr2 hg2 hn2
    have HV2 := Lib.hid hv2
    have hne : ∀ j, v.ownBlock = some j → B + 1 ≤ j := fun j e => (HV1.out.blocks j e).1
    have HB2 : Hid (Mem.Blk w2 B 24 #[v]) := Lib.hid ((hg2.block _ HB1.out.lt (by intro e; have := hne B e.symm; omega)).trans HB1.out)
    have D2 := Lib.hid (D1.out.grown hg2 D1.out.size (fun j e => by have := hne j e; have := hBw.out; omega))
    have cB := HB2.out.cell 0
    have zB := HB2.out.frozen 0
    have HP := Lib.hid (HB2.out.put 0 (.slice a2 N c2))
    have D3 := Lib.hid (D2.out.setCell (p := ⟨B, 0, none⟩) hBw.out (.slice a2 N c2))
    have HV3 : Hid (Own (w2.setCell ⟨B, 0, none⟩ (.slice a2 N c2)) (B + 1) (.slice a2 N c2) (xs ++ laid x)) := Lib.hid (own_put hv2 (by have := fun j => (HV2.out.blocks j); intro e; have := (this B e).1; omega))
    clear hv2 hr2 hg2 hn2 hne
    refine hK.out _ _ trivial (fun hS => ?_)
    clear hK K
    try simp only [Act.put, List.setIfInBounds_toArray, List.set_cons_zero, List.set_cons_succ]
    refine wpAnyH_ready (rs := [4]) (by kernel_rfl) (by simp) ?_
    refine AllReadyH.cons (by simp only [List.getElem?_toArray, List.getElem?_cons_succ, List.getElem?_cons_zero]; rfl) (fun K hK => ?_) AllReadyH.nil
    go_simp
    refine hK.out _ _ trivial (fun hS => ?_)
    clear hK K
    try simp only [Act.put, List.setIfInBounds_toArray, List.set_cons_zero, List.set_cons_succ]
    refine wpAnyH_done (by kernel_rfl) ?_ _
    go_wp2
    go_ret
    exact ⟨rfl, _, HP.out, HV3.out, D3.out⟩

end Go.Proofs.Ytbnjijlpbeplmaa.TkE
