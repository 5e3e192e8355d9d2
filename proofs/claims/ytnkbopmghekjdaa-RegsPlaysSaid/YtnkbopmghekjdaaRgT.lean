/- Registers loaded of what lasts, both. -/
import Derived.Test.YtnkbopmghekjdaaRgS
import Derived.Test.YtnkbopmghekjdaaRegI
import Derived.Laws.BytesArg
import Derived.StillTailTactics
namespace Go.Proofs.Ytnkbopmghekjdaa.RgT
open Go.ChangeShapes Go.WideShapes Go.ChangeAt Go.RowKit
open RegA Mem RegB RegC RegD RegE RegF RegG RegH RegI RegR RgM RgS
set_option linter.unusedVariables false
set_option maxHeartbeats 2000000

theorem lasting7R (g : Nat) (st : List Int) (w : World) (hf : File 29 w g st) :
    Calls Try.prog 20 #[.pointer (some ⟨g, 0, none⟩)] w fun e w' => ∃ g5 c, e = .returned (.slice (some ⟨g5, 0, none⟩) 7 c) ∧ (w.heap.size ≤ g5 ∧ g5 < w'.heap.size ∧ 7 ≤ c ∧ c ≤ 9223372036854775807) ∧ (∀ i, i < 7 → w'.cell? ⟨g5, i, none⟩ = some (.int .u8 ((lastK st 7).getD i 0))) ∧ Below w.heap.size w w' := by
  refine (lastingR g st w hf).mono ?_
  rintro e w' ⟨a, c, rfl, hown, hb⟩
  have h0 := hown
  obtain ⟨hl, h2⟩ := hown
  rcases h2 with ⟨hv, h7⟩ | ⟨g5, cap, cur, hv, hg, hh, hnc, hcm, hcs, ht⟩
  · omega
  · injection hv with e1 e2 e3
    subst e1 e3
    refine ⟨g5, c, rfl, ⟨hg, ?_, hnc, by unfold maxLen at hcm; omega⟩, fun i hi => ?_, hb⟩
    · rcases Nat.lt_or_ge g5 w'.heap.size with h' | h'
      · exact h'
      · rw [Array.getElem?_eq_none h'] at hh; cases hh
    · have hc := World.ownsRow.cells h0 (g := g5) rfl i (.int .u8 ((lastK st 7).getD i 0)) (by
        have : i < (lastK st 7).length := by rw [lastK_len]; exact hi
        simp [bys, this])
      simpa [Addr.add_lit] using hc

theorem lens (a : Option Addr) (n c : Nat) (w : World) (h : ¬ n = 7) (hm : n ≤ 9223372036854775807) :
    (Calls Try.prog 17 #[.slice a n c] w fun e w' => e = .returned (.tuple #[.pointer none, .int .i64 24]) ∧ Below w.heap.size w w') ∧
    (Calls Try.prog 19 #[.slice a n c] w fun e w' => e = .returned (.tuple #[.pointer none, .int .i64 24]) ∧ Below w.heap.size w w') := by
  have hne : ((n : Int) != 7) = true := by simp; omega
  constructor
  · go_enter Try.func17, Try.ntmps17
    go_wp2_with fail
    refine (orderW _).mono ?_
    rintro e' w1 ⟨rfl, hb⟩
    have hb2 := Lib.hid hb
    clear hb
    have HZ := Lib.hid (heap_alloc_new w1 (.cells #[.int .i64 0, .int .i64 0, .int .i64 0, .int .i64 0, .int .i64 0, .int .i64 0, .int .i64 0] 60))
    have HB := Lib.hid (hb2.out.alloc hb2.out.size (.cells #[.int .i64 0, .int .i64 0, .int .i64 0, .int .i64 0, .int .i64 0, .int .i64 0, .int .i64 0] 60))
    go_wp2_with (
      (refine storeArr 60 7 (by kernel_rfl) rfl (.tmp 4) (.tmp 10) rfl w1.heap.size rfl #[.int .i64 0, .int .i64 0, .int .i64 0, .int .i64 0, .int .i64 0, .int .i64 0, .int .i64 0] order rfl 60 HZ.out (by kernel_rfl) rfl (by kernel_rfl) w.heap.size w HB.out hb2.out.size ?_
       intro w9 hg9 hb9))
    go_ret2
    exact ⟨rfl, hb9⟩
  · go_enter Try.func19, Try.ntmps19
    go_wp2_with fail
    refine (orderR _).mono ?_
    rintro e' w1 ⟨rfl, _, hb⟩
    replace hb := Lib.hid hb
    go_wp2
    go_ret2
    exact ⟨rfl, hb.out⟩


theorem s5' : (Try.prog.info? 5).map (·.size) = some 1 := by kernel_rfl
theorem bys_src (l : List Int) (hl : l.length = 7) (w : World) (ad : Addr) (hsrc : ∀ i, i < 7 → w.cell? (ad.add i) = some (.int .u8 (l.getD i 0))) : ∀ j v, (bys l)[j]? = some v → w.cell? (ad.add j) = some v := by
  intro j v hj
  have hj' : j < l.length := by have := (List.getElem?_eq_some_iff.1 hj).1; simpa [bys] using this
  rw [hsrc j (by omega), ← hj]
  simp [bys, hj']
theorem bys_one (l : List Int) : ∀ v ∈ bys l, v.oneCell' = true := by
  intro v hv
  simp only [bys, List.mem_map] at hv
  obtain ⟨y, _, rfl⟩ := hv
  rfl
theorem row7 (l : List Int) (hl : l.length = 7) (cur : Array Value) (hc : cur.size = 7) : (cur.toList.take 0 ++ (bys l ++ cur.toList.drop (0 + (bys l).length))).toArray = vs l := by
  rw [List.drop_of_length_le (by simp [bys]; omega)]
  simp [bys, vs]
theorem setRow_grown (w : World) (g : Nat) (cs : Array Value) : w.grownBy (w.setRow g cs) (some g) :=
  ⟨rfl, rfl, rfl, by simp [World.setRow], fun i hi hne => setRow_other w g i cs (fun e => hne (by rw [e]))⟩
theorem copyInto {ops : Array Oper} {rest : List Oper} {o : Oper} {a : Act} {w : World} {Q : Exit → Act → World → Prop} (hgd : o.guard = none) (d s : Operand)
    (ho : o.op = .call { callee := .builtin .copy, args := #[d, s], argTypes := #[43, 43] }) (g dC c : Nat) (ad : Addr) (l : List Int) (hl : l.length = 7) (hd : a.eval d = .slice (some ⟨g, 0, none⟩) 7 dC) (hs : a.eval s = .slice (some ad) 7 c)
    (cur : Array Value) (hcs : cur.size = 7) (hg : w.heap[g]? = some (.cells cur 62 (0, 0))) (hsrc : ∀ i, i < 7 → w.cell? (ad.add i) = some (.int .u8 (l.getD i 0)))
    (h : ∀ w', w'.heap[g]? = some (.cells (vs l) 62 (0, 0)) → w.grownBy w' (some g) → wpList Try.prog ops Q rest (a.put o.dst (goInt (bys l).length)) w') : wpList Try.prog ops Q (o :: rest) a w := by
  have hbl : (bys l).length = 7 := by simp [bys, hl]
  refine wpList_copy_own hgd d s 43 43 ho 5 Try.underlying43 s5' g 0 7 dC ad 7 c hd hs cur 62 hg (bys l) (by rw [hbl]; rfl) (bys_src l hl w ad hsrc) (by rw [hbl, hcs]; decide) (bys_one l) ?_
  rw [row7 l hl cur hcs]
  exact h _ (setRow_heap w g _ _ 62 _ hg) (setRow_grown w g _)
theorem stepCopy {ops : Array Oper} {o : Oper} {a : Act} {w : World} {K : Act → World → Prop} {Q : Exit → Act → World → Prop} {E : Prop} (hgd : o.guard = none) (d s : Operand)
    (ho : o.op = .call { callee := .builtin .copy, args := #[d, s], argTypes := #[43, 43] }) (g dC c : Nat) (ad : Addr) (l : List Int) (hl : l.length = 7) (hd : a.eval d = .slice (some ⟨g, 0, none⟩) 7 dC) (hs : a.eval s = .slice (some ad) 7 c)
    (cur : Array Value) (hcs : cur.size = 7) (hg : w.heap[g]? = some (.cells cur 62 (0, 0))) (hsrc : ∀ i, i < 7 → w.cell? (ad.add i) = some (.int .u8 (l.getD i 0)))
    (h : ∀ w', w'.heap[g]? = some (.cells (vs l) 62 (0, 0)) → w.grownBy w' (some g) → K (a.put o.dst (goInt (bys l).length)) w') : if Region.wanted o (yielded ops a.tmps) = true then Oper.wp Try.prog o a w K Q else E := by
  have hw : Region.wanted o (yielded ops a.tmps) = true := by simp [Region.wanted, hgd]
  rw [if_pos hw]
  have hbl : (bys l).length = 7 := by simp [bys, hl]
  have hrun := run_copy_row (P := Try.prog) w 43 43 o.type 5 g 0 7 dC ad 7 c cur 62 (bys l) Try.underlying43 s5' hg (by rw [hbl]; rfl) (bys_src l hl w ad hsrc) (by rw [hbl, hcs]; decide) (bys_one l)
  have e : (cur.toList.take 0 ++ bys l ++ cur.toList.drop (0 + (bys l).length)).toArray = vs l := by rw [List.append_assoc]; exact row7 l hl cur hcs
  unfold Oper.wp
  simp [execOp, ho, resolve, invoke, builtin, hd, hs, hrun, Result.andThen]
  have := h _ (setRow_heap w g _ _ 62 _ hg) (setRow_grown w g _)
  rw [← e] at this
  have this2 : K (a.put o.dst (goInt (bys l).length)) (w.setRow g (bys l ++ List.drop (bys l).length cur.toList).toArray) := by simpa using this
  exact this2

def z7i : Array Value := #[.int .i64 0, .int .i64 0, .int .i64 0, .int .i64 0, .int .i64 0, .int .i64 0, .int .i64 0]
theorem size5 (w : World) : (sizeOf 5).run Try.prog w = .ok 1 w := by kernel_rfl
def LW (l : List Int) (B : Nat) (e : Ending) (w' : World) : Prop := (allMay l 7 = false ∧ e = .returned (.tuple #[.pointer none, .int .i64 24])) ∨ (allMay l 7 = true ∧ ∃ g, e = .returned (.tuple #[.pointer (some ⟨g, 0, none⟩), .int .i64 0]) ∧ File 57 w' g (stK (pK l) 7) ∧ B ≤ g)
def LR (l : List Int) (B : Nat) (e : Ending) (w' : World) : Prop := (allMay l 7 = false ∧ e = .returned (.tuple #[.pointer none, .int .i64 24])) ∨ (allMay l 7 = true ∧ ∃ g, e = .returned (.tuple #[.pointer (some ⟨g, 0, none⟩), .int .i64 0]) ∧ File 29 w' g (stK (pK l) 7) ∧ B ≤ g)
def Byt (l : List Int) : Prop := l.length = 7 ∧ ∀ i, i < 7 → 0 ≤ l.getD i 0 ∧ l.getD i 0 ≤ 255
theorem Byt.all {l : List Int} (h : Byt l) : ∀ i, i < l.length → 0 ≤ l.getD i 0 ∧ l.getD i 0 ≤ 255 := fun i hi => h.2 i (by rw [← h.1]; exact hi)

set_option maxRecDepth 100000 in
theorem loadR (b off : Nat) (l : List Int) (c : Nat) (w : World) (hl : Byt l) (hr : ∀ i, i < 7 → w.cell? ⟨b, off + i, none⟩ = some (.int .u8 (l.getD i 0))) (hb : b < w.heap.size) :
    Calls Try.prog 19 #[.slice (some ⟨b, off, none⟩) 7 c] w fun e w' => LR l w.heap.size e w' ∧ Below w.heap.size w w' := by
  have HR : Hid (∀ w', Below w.heap.size w w' → ∀ i, i < 7 → w'.cell? ⟨b, off + i, none⟩ = some (.int .u8 (l.getD i 0))) := Lib.hid fun w' hb' i hi => (hb'.cell (p := ⟨b, off + i, none⟩) hb).trans (hr i hi)
  have HL := Lib.hid hl
  clear hr hb hl
  go_enter Try.func19, Try.ntmps19
  go_wp2_with fail
  refine (orderR _).mono ?_
  rintro e' w1 ⟨rfl, ho1, hb1⟩
  replace ho1 := Lib.hid ho1
  have hgf : Hid (w.heap.size ≤ w1.heap.size) := Lib.hid hb1.size
  have hq0 : Hid (w.heap.size < w1.heap.size) := Lib.hid ho1.out.1
  have HN := Lib.hid (Mem.Blk.new w1 29 (vs zeros))
  have HB1 := Lib.hid hb1
  have HC1 : Hid (Below w1.heap.size w1 (w1.alloc (.cells (vs zeros) 29))) := Lib.hid ((Below.refl _ w1).alloc (Nat.le_refl _) _)
  clear hb1
  go_wp2
  go_loopw [6] (fun i wr => ∃ k : Nat, k ≤ 7 ∧ i = .int .i64 k ∧ allMay l k = true ∧ File 29 wr w1.heap.size (stK (pK l) k) ∧ Below w1.heap.size w1 wr) (fun i _ => 7 - (intOf i).toNat)
  case atStart => exact ⟨0, by omega, rfl, rfl, ⟨rfl, HN.out⟩, HC1.out⟩
  case round =>
    clear HN HC1
    obtain ⟨k, hk, rfl, hA, hF, hB⟩ := hrel
    replace hA := Lib.hid hA
    by_cases hlt : k < 7
    · have hlt' : (k : Int) < 7 := by omega
      have hlk := lk_bd k hlt
      have DD : Hid (Below w1.heap.size w1 wr.drew) := Lib.hid hB.drew
      have HS : Hid (∀ w', Below w1.heap.size w1 w' → w'.cell? ⟨w.heap.size, k, none⟩ = some (.int .i64 (lk k : Int)) ∧ w'.cell? ⟨b, off + k, none⟩ = some (.int .u8 (l.getD k 0))) := Lib.hid fun w' hb' =>
        ⟨(ho1.out.below hb').2 k hlt, HR.out w' (HB1.out.trans (hb'.mono HB1.out.size)) k hlt⟩
      have hv := HL.out.2 k hlt
      have HM := Lib.hid (fun B h w => mayR_as B (lk k : Int) (l.getD k 0) hv.1 hv.2 h w)
      have hsn := Lib.hid (allMay_succ l k)
      have hbad := Lib.hid (allMay_mono l 7 k hlt)
      replace hF := Lib.hid hF
      have DE : Hid (Below w1.heap.size w1 wr.drew.drew) := Lib.hid DD.out.drew
      have hcO := (hF.out.below (B := wr.heap.size) (w' := wr.drew.drew) ((Below.refl _ wr).drew.drew) hF.out.2.lt).cell (lk k) (by omega)
      have hzO := ((hF.out.below (B := wr.heap.size) (w' := wr.drew.drew) ((Below.refl _ wr).drew.drew) hF.out.2.lt)).2.frozen (lk k)
      have HP := Lib.hid (((hF.out.below (B := wr.heap.size) (w' := wr.drew.drew) ((Below.refl _ wr).drew.drew) hF.out.2.lt)).put (lk k) (l.getD k 0))
      have hst : Hid (stK (pK l) (k + 1) = (stK (pK l) k).set (lk k) (l.getD k 0)) := Lib.hid rfl
      generalize (stK (pK l) k).getD (lk k) 0 = old at hcO
      obtain ⟨sE, eE⟩ := HS.out _ DE.out
      obtain ⟨L, hL⟩ : ∃ L, L = lk k := ⟨_, rfl⟩
      obtain ⟨y, hy⟩ : ∃ y, y = l.getD k 0 := ⟨_, rfl⟩
      rw [← hL] at HS HM hsn hbad hcO hzO HP sE hst hlk
      rw [← hy] at HS HM hsn hbad HP eE hst
      have hL64 : (L : Int) < 64 := by omega
      clear hL hy hv
      replace hB := Lib.hid hB
      cases hm : mayB (L : Int) y with
      | false =>
        have HM' := Lib.hid (HM.out false hm)
        have hbad' := Lib.hid (hbad.out hm)
        clear HM hbad hsn hm hcO hzO sE eE
        go_wp2_with fail
        refine wp_region_held_drew (S := fun w' => w'.cell? ⟨w.heap.size, k, none⟩ = some (.int .i64 (L : Int)) ∧ w'.cell? ⟨b, off + k, none⟩ = some (.int .u8 y)) (by kernel_rfl) (HS.out _ DD.out) (fun hS => ?_)
        try simp only [List.size_toArray, List.length_cons, List.length_nil, Nat.reduceAdd]
        refine wpAnyH_take (i := 0) (v := ?_) (by simp only [List.getElem?_toArray, List.getElem?_cons_succ, List.getElem?_cons_zero]; rfl) (by kernel_rfl) (by kernel_rfl) (by kernel_rfl) (by exact fun _ _ _ h => h) (Or.inl ⟨by rfl, ?_⟩) hS ?_
        rotate_left
        · intro w hSw
          go_simp
          try with_reducible rfl
        try simp only [Act.put, List.setIfInBounds_toArray, List.set_cons_zero, List.set_cons_succ]
        refine wpAnyH_take (i := 1) (v := ?_) (by simp only [List.getElem?_toArray, List.getElem?_cons_succ, List.getElem?_cons_zero]; rfl) (by kernel_rfl) (by kernel_rfl) (by kernel_rfl) (by exact fun _ _ _ h => h) (Or.inl ⟨by rfl, ?_⟩) hS ?_
        rotate_left
        · intro w hSw
          go_simp
          try with_reducible rfl
        try simp only [Act.put, List.setIfInBounds_toArray, List.set_cons_zero, List.set_cons_succ]
        refine wpAnyH_take (i := 2) (v := ?_) (by simp only [List.getElem?_toArray, List.getElem?_cons_succ, List.getElem?_cons_zero]; rfl) (by kernel_rfl) (by kernel_rfl) (by kernel_rfl) (by exact fun _ _ _ h => h) (Or.inl ⟨by rfl, ?_⟩) hS ?_
        rotate_left
        · intro w hSw
          go_simp
          try with_reducible rfl
        try simp only [Act.put, List.setIfInBounds_toArray, List.set_cons_zero, List.set_cons_succ]
        refine wpAnyH_take (i := 3) (v := ?_) (by simp only [List.getElem?_toArray, List.getElem?_cons_succ, List.getElem?_cons_zero]; rfl) (by kernel_rfl) (by kernel_rfl) (by kernel_rfl) (by exact fun _ _ _ h => h) (Or.inl ⟨by rfl, ?_⟩) hS ?_
        rotate_left
        · intro w hSw
          go_simp
          try with_reducible rfl
        try simp only [Act.put, List.setIfInBounds_toArray, List.set_cons_zero, List.set_cons_succ]
        refine wpAnyH_take (i := 4) (v := ?_) (by simp only [List.getElem?_toArray, List.getElem?_cons_succ, List.getElem?_cons_zero]; rfl) (by kernel_rfl) (by kernel_rfl) (by kernel_rfl) (by exact fun _ _ _ h => h) (Or.inl ⟨by rfl, ?_⟩) hS ?_
        rotate_left
        · intro w hSw
          go_simp
          try with_reducible rfl
        try simp only [Act.put, List.setIfInBounds_toArray, List.set_cons_zero, List.set_cons_succ]
        refine wpAnyH_take (i := 5) (v := ?_) (by simp only [List.getElem?_toArray, List.getElem?_cons_succ, List.getElem?_cons_zero]; rfl) (by kernel_rfl) (by kernel_rfl) (by kernel_rfl) (by exact fun _ _ _ h => h) (Or.inl ⟨by rfl, ?_⟩) hS ?_
        rotate_left
        · intro w hSw
          go_simp
          try with_reducible rfl
        try simp only [Act.put, List.setIfInBounds_toArray, List.set_cons_zero, List.set_cons_succ]
        refine wpAnyH_take (i := 6) (v := ?_) (by simp only [List.getElem?_toArray, List.getElem?_cons_succ, List.getElem?_cons_zero]; rfl) (by kernel_rfl) (by kernel_rfl) (by kernel_rfl) (by exact fun _ _ _ h => h) (Or.inl ⟨by rfl, ?_⟩) hS ?_
        rotate_left
        · intro w hSw
          go_simp
          try with_reducible rfl
        try simp only [Act.put, List.setIfInBounds_toArray, List.set_cons_zero, List.set_cons_succ]
        refine wpAnyH_take (i := 7) (v := ?_) (by simp only [List.getElem?_toArray, List.getElem?_cons_succ, List.getElem?_cons_zero]; rfl) (by kernel_rfl) (by kernel_rfl) (by kernel_rfl) (by exact fun _ _ _ h => h) (Or.inl ⟨by rfl, ?_⟩) hS ?_
        rotate_left
        · intro w hSw
          go_simp
          try with_reducible rfl
        try simp only [Act.put, List.setIfInBounds_toArray, List.set_cons_zero, List.set_cons_succ]
        refine wpAnyH_ready (rs := [8]) (by kernel_rfl) (by simp) ?_
        refine AllReadyH.cons (by simp only [List.getElem?_toArray, List.getElem?_cons_succ, List.getElem?_cons_zero]; rfl) (fun K hK => ?_) AllReadyH.nil
        go_simp
        go_at_call 27
        refine (HM'.out _).mono ?_
        rintro e' w5 ⟨rfl, rfl⟩
        refine hK.out _ _ (HS.out _ DD.out) (fun hS => ?_)
        clear hK K
        try simp only [Act.put, List.setIfInBounds_toArray, List.set_cons_zero, List.set_cons_succ]
        refine wpAnyH_take (i := 9) (v := ?_) (by simp only [List.getElem?_toArray, List.getElem?_cons_succ, List.getElem?_cons_zero]; rfl) (by kernel_rfl) (by kernel_rfl) (by kernel_rfl) (by exact fun _ _ _ h => h) (Or.inl ⟨by rfl, ?_⟩) hS ?_
        rotate_left
        · intro w hSw
          go_simp
          try with_reducible rfl
        try simp only [Act.put, List.setIfInBounds_toArray, List.set_cons_zero, List.set_cons_succ]
        refine wpAnyH_done (by kernel_rfl) ?_ _
        go_wp2
        go_ret2
        exact ⟨Or.inl ⟨hbad'.out, rfl⟩, HB1.out.trans (DD.out.mono HB1.out.size)⟩
      | true =>
        have HM' := Lib.hid (HM.out true hm)
        have hA2 : Hid (allMay l (k + 1) = true) := Lib.hid (by rw [hsn.out, hA.out, hm]; rfl)
        clear HM hbad hsn hm
        go_wp2_with fail
        refine wp_region_held_drew (S := fun w' => w'.cell? ⟨w.heap.size, k, none⟩ = some (.int .i64 (L : Int)) ∧ w'.cell? ⟨b, off + k, none⟩ = some (.int .u8 y)) (by kernel_rfl) (HS.out _ DD.out) (fun hS => ?_)
        try simp only [List.size_toArray, List.length_cons, List.length_nil, Nat.reduceAdd]
        refine wpAnyH_take (i := 0) (v := ?_) (by simp only [List.getElem?_toArray, List.getElem?_cons_succ, List.getElem?_cons_zero]; rfl) (by kernel_rfl) (by kernel_rfl) (by kernel_rfl) (by exact fun _ _ _ h => h) (Or.inl ⟨by rfl, ?_⟩) hS ?_
        rotate_left
        · intro w hSw
          go_simp
          try with_reducible rfl
        try simp only [Act.put, List.setIfInBounds_toArray, List.set_cons_zero, List.set_cons_succ]
        refine wpAnyH_take (i := 1) (v := ?_) (by simp only [List.getElem?_toArray, List.getElem?_cons_succ, List.getElem?_cons_zero]; rfl) (by kernel_rfl) (by kernel_rfl) (by kernel_rfl) (by exact fun _ _ _ h => h) (Or.inl ⟨by rfl, ?_⟩) hS ?_
        rotate_left
        · intro w hSw
          go_simp
          try with_reducible rfl
        try simp only [Act.put, List.setIfInBounds_toArray, List.set_cons_zero, List.set_cons_succ]
        refine wpAnyH_take (i := 2) (v := ?_) (by simp only [List.getElem?_toArray, List.getElem?_cons_succ, List.getElem?_cons_zero]; rfl) (by kernel_rfl) (by kernel_rfl) (by kernel_rfl) (by exact fun _ _ _ h => h) (Or.inl ⟨by rfl, ?_⟩) hS ?_
        rotate_left
        · intro w hSw
          go_simp
          try with_reducible rfl
        try simp only [Act.put, List.setIfInBounds_toArray, List.set_cons_zero, List.set_cons_succ]
        refine wpAnyH_take (i := 3) (v := ?_) (by simp only [List.getElem?_toArray, List.getElem?_cons_succ, List.getElem?_cons_zero]; rfl) (by kernel_rfl) (by kernel_rfl) (by kernel_rfl) (by exact fun _ _ _ h => h) (Or.inl ⟨by rfl, ?_⟩) hS ?_
        rotate_left
        · intro w hSw
          go_simp
          try with_reducible rfl
        try simp only [Act.put, List.setIfInBounds_toArray, List.set_cons_zero, List.set_cons_succ]
        refine wpAnyH_take (i := 4) (v := ?_) (by simp only [List.getElem?_toArray, List.getElem?_cons_succ, List.getElem?_cons_zero]; rfl) (by kernel_rfl) (by kernel_rfl) (by kernel_rfl) (by exact fun _ _ _ h => h) (Or.inl ⟨by rfl, ?_⟩) hS ?_
        rotate_left
        · intro w hSw
          go_simp
          try with_reducible rfl
        try simp only [Act.put, List.setIfInBounds_toArray, List.set_cons_zero, List.set_cons_succ]
        refine wpAnyH_take (i := 5) (v := ?_) (by simp only [List.getElem?_toArray, List.getElem?_cons_succ, List.getElem?_cons_zero]; rfl) (by kernel_rfl) (by kernel_rfl) (by kernel_rfl) (by exact fun _ _ _ h => h) (Or.inl ⟨by rfl, ?_⟩) hS ?_
        rotate_left
        · intro w hSw
          go_simp
          try with_reducible rfl
        try simp only [Act.put, List.setIfInBounds_toArray, List.set_cons_zero, List.set_cons_succ]
        refine wpAnyH_take (i := 6) (v := ?_) (by simp only [List.getElem?_toArray, List.getElem?_cons_succ, List.getElem?_cons_zero]; rfl) (by kernel_rfl) (by kernel_rfl) (by kernel_rfl) (by exact fun _ _ _ h => h) (Or.inl ⟨by rfl, ?_⟩) hS ?_
        rotate_left
        · intro w hSw
          go_simp
          try with_reducible rfl
        try simp only [Act.put, List.setIfInBounds_toArray, List.set_cons_zero, List.set_cons_succ]
        refine wpAnyH_take (i := 7) (v := ?_) (by simp only [List.getElem?_toArray, List.getElem?_cons_succ, List.getElem?_cons_zero]; rfl) (by kernel_rfl) (by kernel_rfl) (by kernel_rfl) (by exact fun _ _ _ h => h) (Or.inl ⟨by rfl, ?_⟩) hS ?_
        rotate_left
        · intro w hSw
          go_simp
          try with_reducible rfl
        try simp only [Act.put, List.setIfInBounds_toArray, List.set_cons_zero, List.set_cons_succ]
        refine wpAnyH_ready (rs := [8]) (by kernel_rfl) (by simp) ?_
        refine AllReadyH.cons (by simp only [List.getElem?_toArray, List.getElem?_cons_succ, List.getElem?_cons_zero]; rfl) (fun K hK => ?_) AllReadyH.nil
        go_simp
        go_at_call 27
        refine (HM'.out _).mono ?_
        rintro e' w5 ⟨rfl, rfl⟩
        refine hK.out _ _ (HS.out _ DD.out) (fun hS => ?_)
        clear hK K
        try simp only [Act.put, List.setIfInBounds_toArray, List.set_cons_zero, List.set_cons_succ]
        refine wpAnyH_take (i := 9) (v := ?_) (by simp only [List.getElem?_toArray, List.getElem?_cons_succ, List.getElem?_cons_zero]; rfl) (by kernel_rfl) (by kernel_rfl) (by kernel_rfl) (by exact fun _ _ _ h => h) (Or.inl ⟨by rfl, ?_⟩) hS ?_
        rotate_left
        · intro w hSw
          go_simp
          try with_reducible rfl
        try simp only [Act.put, List.setIfInBounds_toArray, List.set_cons_zero, List.set_cons_succ]
        refine wpAnyH_done (by kernel_rfl) ?_ _
        go_wp2_with fail
        refine wp_region_still_tail 12 (by kernel_rfl) (by kernel_rfl) ?_
        simp only [List.take_succ_cons, List.take_zero, List.drop_succ_cons, List.drop_zero]
        change wpStill _ _ (World.drew (World.drew wr)) (fun a' => wpList _ _ _ _ a' (World.drew (World.drew wr))) _ _
        generalize World.drew (World.drew wr) = wd at *
        repeat still_step
        try refine wpStill_nil ?_
        change wpList _ _ _ _ _ wd
        go_wp2
        go_roundw
        case rel => exact ⟨k + 1, by omega, by go_num, hA2.out, by rw [hst.out]; exact HP.out, DE.out.setCell (Nat.le_refl _) _⟩
        case measure => simp [intOf]; omega
    · obtain rfl : k = 7 := by omega
      have HE := Lib.hid (HB1.out.trans (hB.mono HB1.out.size))
      replace hF := Lib.hid hF
      go_wp2
      go_ret2
      exact ⟨Or.inr ⟨hA.out, _, rfl, hF.out, hgf.out⟩, HE.out⟩

set_option maxRecDepth 100000 in
theorem loadW (b off : Nat) (l : List Int) (c : Nat) (w : World) (hl : Byt l) (hr : ∀ i, i < 7 → w.cell? ⟨b, off + i, none⟩ = some (.int .u8 (l.getD i 0))) (hb : b < w.heap.size) :
    Calls Try.prog 17 #[.slice (some ⟨b, off, none⟩) 7 c] w fun e w' => LW l w.heap.size e w' ∧ Below w.heap.size w w' := by
  have HR : Hid (∀ w', Below w.heap.size w w' → ∀ i, i < 7 → w'.cell? ⟨b, off + i, none⟩ = some (.int .u8 (l.getD i 0))) := Lib.hid fun w' hb' i hi => (hb'.cell (p := ⟨b, off + i, none⟩) hb).trans (hr i hi)
  have HL := Lib.hid hl
  have HQ : Hid (∀ w', (Op.equalIn 10000 62 (.agg (vs (lastK (stK (vK l) 7) 7))) (.agg (vs l))).run Try.prog w' = .ok (allMay l 7) w') := Lib.hid fun w' => by
    have h1 : ∀ i, i < 7 → 0 ≤ vK l i ∧ vK l i ≤ 255 := fun i hi => by
      unfold vK
      split
      · exact hl.2 i hi
      · omega
    have h2 := eqArr 62 7 Try.underlying62 size5 w' (lastK (stK (vK l) 7) 7) l (lastK_len _ _) hl.1 (fun i hi => by
      rw [lastK_len] at hi
      rw [last_get _ i hi, stK_lk _ 7 (Nat.le_refl _) i hi, if_pos hi]
      exact h1 i hi) hl.all
    rw [h2, stK_last, back l hl.1]
  have HK := Lib.hid (wrK_eq l hl.2)
  have hW7 : Hid (wrK l 7 = stK (vK l) 7) := Lib.hid (wrK_eq l hl.2 7 (Nat.le_refl _))
  have hAll := Lib.hid (stK_all l)
  clear hr hb hl
  go_enter Try.func17, Try.ntmps17
  go_wp2_with fail
  refine (orderW _).mono ?_
  rintro e' w1 ⟨rfl, hb1⟩
  replace hb1 := Lib.hid hb1
  have HZ := Lib.hid (heap_alloc_new w1 (.cells z7i 60))
  have HB := Lib.hid (hb1.out.alloc hb1.out.size (.cells z7i 60))
  obtain ⟨w1s, hw1s⟩ : ∃ n, n = w1.heap.size := ⟨_, rfl⟩
  go_wp2_with (
    (refine storeArr 60 7 (by kernel_rfl) rfl (.tmp 4) (.tmp 10) rfl w1.heap.size rfl z7i order rfl 60 HZ.out (by kernel_rfl) rfl (by kernel_rfl) w.heap.size w HB.out hb1.out.size ?_
     intro w2 hg2 hb2
     replace hg2 := Lib.hid hg2
     replace hb2 := Lib.hid hb2))
  refine (newW _).mono ?_
  rintro e' w3 ⟨rfl, hf3, hb3⟩
  have hfl : Hid (w1.heap.size < w2.heap.size) := Lib.hid (Mem.Blk.lt (t := 60) (cs := order) hg2.out)
  have hsz3 : Hid (w2.heap.size < w3.heap.size) := Lib.hid hf3.2.lt
  have HG4 : Hid ((w3.alloc (.cells #[.int .u8 0, .int .u8 0, .int .u8 0, .int .u8 0, .int .u8 0, .int .u8 0, .int .u8 0] 62)).alloc (.cells #[.int .u8 0, .int .u8 0, .int .u8 0, .int .u8 0, .int .u8 0, .int .u8 0, .int .u8 0] 62) |>.heap[w1.heap.size]? = some (.cells order 60 (0, 0))) := Lib.hid (((Mem.Blk.below (t := 60) (cs := order) hg2.out hb3 hfl.out).alloc _).alloc _)
  have HA6 : Hid (Mem.Blk ((w3.alloc (.cells #[.int .u8 0, .int .u8 0, .int .u8 0, .int .u8 0, .int .u8 0, .int .u8 0, .int .u8 0] 62)).alloc (.cells #[.int .u8 0, .int .u8 0, .int .u8 0, .int .u8 0, .int .u8 0, .int .u8 0, .int .u8 0] 62)) w3.heap.size 62 #[.int .u8 0, .int .u8 0, .int .u8 0, .int .u8 0, .int .u8 0, .int .u8 0, .int .u8 0]) := Lib.hid ((Mem.Blk.new w3 62 #[.int .u8 0, .int .u8 0, .int .u8 0, .int .u8 0, .int .u8 0, .int .u8 0, .int .u8 0]).alloc _)
  have HA7 : Hid (Mem.Blk ((w3.alloc (.cells #[.int .u8 0, .int .u8 0, .int .u8 0, .int .u8 0, .int .u8 0, .int .u8 0, .int .u8 0] 62)).alloc (.cells #[.int .u8 0, .int .u8 0, .int .u8 0, .int .u8 0, .int .u8 0, .int .u8 0, .int .u8 0] 62)) (w3.heap.size + 1) 62 #[.int .u8 0, .int .u8 0, .int .u8 0, .int .u8 0, .int .u8 0, .int .u8 0, .int .u8 0]) := Lib.hid (by have := Mem.Blk.new (w3.alloc (.cells #[.int .u8 0, .int .u8 0, .int .u8 0, .int .u8 0, .int .u8 0, .int .u8 0, .int .u8 0] 62)) 62 #[.int .u8 0, .int .u8 0, .int .u8 0, .int .u8 0, .int .u8 0, .int .u8 0, .int .u8 0]; rwa [World.size_alloc] at this)
  have HF5 : Hid (File 57 ((w3.alloc (.cells #[.int .u8 0, .int .u8 0, .int .u8 0, .int .u8 0, .int .u8 0, .int .u8 0, .int .u8 0] 62)).alloc (.cells #[.int .u8 0, .int .u8 0, .int .u8 0, .int .u8 0, .int .u8 0, .int .u8 0, .int .u8 0] 62)) w2.heap.size zeros) := Lib.hid ⟨rfl, (hf3.2.alloc _).alloc _⟩
  have HB5 : Hid (Below w.heap.size w ((w3.alloc (.cells #[.int .u8 0, .int .u8 0, .int .u8 0, .int .u8 0, .int .u8 0, .int .u8 0, .int .u8 0] 62)).alloc (.cells #[.int .u8 0, .int .u8 0, .int .u8 0, .int .u8 0, .int .u8 0, .int .u8 0, .int .u8 0] 62))) := Lib.hid (((hb2.out.trans (hb3.mono hb2.out.size)).alloc (by have := hb2.out.size; have := hb3.size; omega) _).alloc (by rw [World.size_alloc]; have := hb2.out.size; have := hb3.size; omega) _)
  have HS5 := Lib.hid (HR.out _ HB5.out)
  have hgf : Hid (w.heap.size ≤ w2.heap.size) := Lib.hid hb2.out.size
  have h13 : Hid (w1.heap.size < w3.heap.size) := Lib.hid (by have := hfl.out; have := hsz3.out; omega)
  have hl7 := Lib.hid HL.out.1
  have hgw : Hid (w.heap.size ≤ w3.heap.size) := Lib.hid (by have := hgf.out; have := hsz3.out; omega)
  generalize hq1 : w1.heap.size = g4 at *
  generalize hq2 : w2.heap.size = gf at *
  clear hf3 hb3 hg2 hb2 hw1s w1s HB HZ hq1 hq2
  go_wp2_with (first
    | (refine copyInto rfl (.tmp 15) (.tmp 16) rfl w3.heap.size 7 c ⟨b, off, none⟩ l hl7.out rfl rfl #[.int .u8 0, .int .u8 0, .int .u8 0, .int .u8 0, .int .u8 0, .int .u8 0, .int .u8 0] rfl HA6.out (fun i hi => by rw [Addr.add_lit]; exact HS5.out i hi) ?_
       intro w6 hg6 hr6
       replace hg6 := Lib.hid hg6
       have HF6 := Lib.hid (File.grown HF5.out hr6 (by have := hsz3.out; intro e; injection e; omega))
       have HG46 : Hid (w6.heap[g4]? = some (.cells order 60 (0, 0))) := Lib.hid ((hr6.block _ (by have := h13.out; simp; omega) (by have := h13.out; intro e; injection e; omega)).trans HG4.out)
       have HA76 : Hid (w6.heap[w3.heap.size + 1]? = some (.cells #[.int .u8 0, .int .u8 0, .int .u8 0, .int .u8 0, .int .u8 0, .int .u8 0, .int .u8 0] 62 (0, 0))) := Lib.hid ((hr6.block _ (by simp) (by intro e; injection e; omega)).trans HA7.out)
       have HB6 := Lib.hid (HB5.out.grown hr6 HB5.out.size (fun j e => by cases e; exact hgw.out))
       clear hr6)
    | (refine loadArr 60 _ _ Try.underlying60 7 (by kernel_rfl) rfl (.tmp 4) rfl g4 rfl order 60 HG46.out (by kernel_rfl) ?_))
  go_loopw [19] (fun i wr => ∃ k : Nat, k ≤ 7 ∧ i = .int .i64 k ∧ File 57 wr gf (wrK l k) ∧ wr.heap[w3.heap.size]? = some (.cells (vs l) 62 (0, 0)) ∧ wr.heap[w3.heap.size + 1]? = some (.cells #[.int .u8 0, .int .u8 0, .int .u8 0, .int .u8 0, .int .u8 0, .int .u8 0, .int .u8 0] 62 (0, 0)) ∧ w3.heap.size + 1 < wr.heap.size ∧ Below w.heap.size w wr) (fun i _ => 7 - (intOf i).toNat)
  case atStart => exact ⟨0, by omega, rfl, HF6.out, hg6.out, HA76.out, Mem.Blk.lt (t := 62) HA76.out, HB6.out⟩
  case round =>
    clear HF6 hg6 HA76 HB6 HG46 HG4 HA6 HA7 HF5 HB5 HS5
    obtain ⟨k, hk, rfl, hF, hg6, hg7, hsz, hB⟩ := hrel
    by_cases hlt : k < 7
    · have hlt' : (k : Int) < 7 := by omega
      have hix : ∀ w, (Instr.index 60 (.agg order) (.int .i64 (k : Int))).run Try.prog w = .ok (.int .i64 (lk k : Int)) w := fun w => ix k hlt w
      have ck := HR.out _ hB k hlt
      have HF := Lib.hid hF
      have H6 := Lib.hid hg6
      have H7 := Lib.hid hg7
      have HB := Lib.hid hB
      have HSZ := Lib.hid hsz
      have hstep : Hid (wrK l (k + 1) = (writeS (wrK l k) (lk k : Int) (l.getD k 0)).2) := Lib.hid rfl
      obtain ⟨y, hy⟩ : ∃ y, y = l.getD k 0 := ⟨_, rfl⟩
      rw [← hy] at ck hstep
      clear hy hF hg6 hg7 hB hsz
      go_wp2_with (
        (go_at_call 9
         refine (writeW gf _ _ _ _ HF.out).mono ?_
         rintro e w5 ⟨rfl, hf5, hr5⟩
         have K6 : Hid (w5.heap[w3.heap.size]? = some (.cells (vs l) 62 (0, 0))) := Lib.hid ((hr5.block _ (by have := HSZ.out; omega) (by have := hsz3.out; intro e; injection e; omega)).trans H6.out)
         have K7 : Hid (w5.heap[w3.heap.size + 1]? = some (.cells #[.int .u8 0, .int .u8 0, .int .u8 0, .int .u8 0, .int .u8 0, .int .u8 0, .int .u8 0] 62 (0, 0))) := Lib.hid ((hr5.block _ (by have := HSZ.out; omega) (by have := hsz3.out; intro e; injection e; omega)).trans H7.out)
         have KB := Lib.hid (below_own HB.out hr5 hgf.out HF.out.2.lt)
         have KZ : Hid (w3.heap.size + 1 < w5.heap.size) := Lib.hid (Nat.lt_of_lt_of_le HSZ.out hr5.size)
         replace hf5 := Lib.hid hf5
         clear hr5))
      go_roundw
      case rel => exact ⟨k + 1, by omega, by go_num, by rw [hstep.out]; exact hf5.out, K6.out, K7.out, KZ.out, KB.out⟩
      case measure => simp [intOf]; omega
    · obtain rfl : k = 7 := by omega
      have DD := Lib.hid hB.drew
      have HFD : Hid (File 57 wr.drew gf (wrK l 7)) := Lib.hid hF
      have H6D : Hid (wr.drew.heap[w3.heap.size]? = some (.cells (vs l) 62 (0, 0))) := Lib.hid hg6
      have H7D : Hid (wr.drew.heap[w3.heap.size + 1]? = some (.cells #[.int .u8 0, .int .u8 0, .int .u8 0, .int .u8 0, .int .u8 0, .int .u8 0, .int .u8 0] 62 (0, 0))) := Lib.hid hg7
      have HSZ : Hid (w3.heap.size + 1 < wr.drew.heap.size) := Lib.hid hsz
      have HC := Lib.hid (lasting7 gf (wrK l 7) wr.drew HFD.out)
      clear hF hg6 hg7 hB hsz
      go_wp2_with fail
      refine wp_region_held_drew (S := fun _ => True) (by kernel_rfl) trivial (fun hS => ?_)
      try simp only [List.size_toArray, List.length_cons, List.length_nil, Nat.reduceAdd]
      refine wpAnyH_take (i := 0) (v := ?_) (by simp only [List.getElem?_toArray, List.getElem?_cons_succ, List.getElem?_cons_zero]; rfl) (by kernel_rfl) (by kernel_rfl) (by kernel_rfl) (by exact fun _ _ _ h => h) (Or.inl ⟨by rfl, ?_⟩) hS ?_
      rotate_left
      · intro w hSw
        go_simp
        try with_reducible rfl
      try simp only [Act.put, List.setIfInBounds_toArray, List.set_cons_zero, List.set_cons_succ]
      refine wpAnyH_take (i := 1) (v := ?_) (by simp only [List.getElem?_toArray, List.getElem?_cons_succ, List.getElem?_cons_zero]; rfl) (by kernel_rfl) (by kernel_rfl) (by kernel_rfl) (by exact fun _ _ _ h => h) (Or.inl ⟨by rfl, ?_⟩) hS ?_
      rotate_left
      · intro w hSw
        go_simp
        try with_reducible rfl
      try simp only [Act.put, List.setIfInBounds_toArray, List.set_cons_zero, List.set_cons_succ]
      refine wpAnyH_ready (rs := [2]) (by kernel_rfl) (by simp) ?_
      refine AllReadyH.cons (by simp only [List.getElem?_toArray, List.getElem?_cons_succ, List.getElem?_cons_zero]; rfl) (fun K hK => ?_) AllReadyH.nil
      go_simp
      go_at_call 18
      refine (HC.out).mono ?_
      rintro e' w8 ⟨g5, c5, rfl, hp5, hc5, hb8⟩
      refine hK.out _ _ (trivial) (fun hS => ?_)
      clear hK K
      try simp only [Act.put, List.setIfInBounds_toArray, List.set_cons_zero, List.set_cons_succ]
      have B8 := Lib.hid (DD.out.trans (hb8.mono DD.out.size))
      have L8 := Lib.hid hb8
      replace hc5 := Lib.hid hc5
      have H78 : Hid (w8.heap[w3.heap.size + 1]? = some (.cells #[.int .u8 0, .int .u8 0, .int .u8 0, .int .u8 0, .int .u8 0, .int .u8 0, .int .u8 0] 62 (0, 0))) := Lib.hid ((hb8.block _ HSZ.out).trans H7D.out)
      have H68 : Hid (w8.heap[w3.heap.size]? = some (.cells (vs l) 62 (0, 0))) := Lib.hid ((hb8.block _ (by have := HSZ.out; omega)).trans H6D.out)
      have HF8 := Lib.hid (HFD.out.below hb8 HFD.out.2.lt)
      clear hb8
      refine wpAnyH_ready (rs := [3]) (by kernel_rfl) (by simp) ?_
      refine AllReadyH.cons (by simp only [List.getElem?_toArray, List.getElem?_cons_succ, List.getElem?_cons_zero]; rfl) (fun K hK => ?_) AllReadyH.nil
      refine stepCopy rfl (.tmp 31) (.tmp 33) rfl (w3.heap.size + 1) 7 c5 ⟨g5, 0, none⟩ (lastK (wrK l 7) 7) (lastK_len _ _) rfl rfl #[.int .u8 0, .int .u8 0, .int .u8 0, .int .u8 0, .int .u8 0, .int .u8 0, .int .u8 0] rfl H78.out (fun i hi => by rw [Addr.add_lit, Nat.zero_add]; exact hc5.out i hi) ?_
      intro w9 hg9 hr9
      have K7 : Hid (w9.heap[w3.heap.size + 1]? = some (.cells (vs (lastK (wrK l 7) 7)) 62 (0, 0))) := Lib.hid hg9
      have K6 : Hid (w9.heap[w3.heap.size]? = some (.cells (vs l) 62 (0, 0))) := Lib.hid ((hr9.block _ (Mem.Blk.lt (t := 62) H68.out) (by intro e; injection e; omega)).trans H68.out)
      have HF9 := Lib.hid (HF8.out.grown hr9 (by have := hsz3.out; intro e; injection e; omega))
      have HB9 := Lib.hid (B8.out.grown hr9 B8.out.size (fun j e => by cases e; have := hgw.out; omega))
      clear hg9 hr9
      refine hK.out _ _ trivial (fun hS => ?_)
      clear hK K
      try simp only [Act.put, List.setIfInBounds_toArray, List.set_cons_zero, List.set_cons_succ]
      refine wpAnyH_done (by kernel_rfl) ?_ _
      have E : ∀ w', (Op.equalIn 10000 62 (.agg (vs (lastK (wrK l 7) 7))) (.agg (vs l))).run Try.prog w' = .ok (allMay l 7) w' := by rw [hW7.out]; exact HQ.out
      have hvs : Hid ((vs (lastK (wrK l 7) 7)).size = 7) := Lib.hid (by simp [vs, lastK_len])
      have hvl : Hid ((vs l).size = 7) := Lib.hid (by rw [vs_size]; exact hl7.out)
      cases hA : allMay l 7 with
      | true =>
        rw [hA] at E
        have HFin : Hid (File 57 w9 gf (stK (pK l) 7)) := Lib.hid (by rw [← hAll.out hA 7 (Nat.le_refl _), ← hW7.out]; exact HF9.out)
        generalize wrK l 7 = WK at *
        go_wp2_with (first
          | (refine loadArr 62 _ _ Try.underlying62 7 (by kernel_rfl) rfl (.tmp 7) rfl (w3.heap.size + 1) rfl (vs (lastK WK 7)) 62 K7.out hvs.out ?_)
          | (refine loadArr 62 _ _ Try.underlying62 7 (by kernel_rfl) rfl (.tmp 6) rfl w3.heap.size rfl (vs l) 62 K6.out hvl.out ?_))
        go_ret2
        exact ⟨Or.inr ⟨hA, gf, rfl, HFin.out, hgf.out⟩, HB9.out⟩
      | false =>
        rw [hA] at E
        generalize wrK l 7 = WK at *
        go_wp2_with (first
          | (refine loadArr 62 _ _ Try.underlying62 7 (by kernel_rfl) rfl (.tmp 7) rfl (w3.heap.size + 1) rfl (vs (lastK WK 7)) 62 K7.out hvs.out ?_)
          | (refine loadArr 62 _ _ Try.underlying62 7 (by kernel_rfl) rfl (.tmp 6) rfl w3.heap.size rfl (vs l) 62 K6.out hvl.out ?_))
        go_ret2
        exact ⟨Or.inl ⟨hA, rfl⟩, HB9.out⟩
end Go.Proofs.Ytnkbopmghekjdaa.RgT
