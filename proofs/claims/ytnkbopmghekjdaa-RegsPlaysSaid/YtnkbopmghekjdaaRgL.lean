/- The law of registers as they last. -/
import Derived.Test.YtnkbopmghekjdaaRgU
namespace Go.Proofs.Ytnkbopmghekjdaa.RgL
open Go.ChangeShapes Go.WideShapes Go.ChangeAt Go.RowKit
open RegA Mem RegB RegC RegD RegE RegF RegG RegH RegI RegR RgM RgS RgT RgU
set_option linter.unusedVariables false
set_option maxHeartbeats 2000000

def IsRow (k : IntKind) (w : World) (a : Option Addr) (len cap : Nat) (zs : List Int) : Prop :=
  (a = none ∧ len = 0 ∧ cap = 0 ∧ zs = []) ∨
  ∃ x, a = some x ∧ len ≤ cap ∧ cap ≤ maxLen ∧ zs.length = cap ∧ (∀ i, i < zs.length → w.cell? (x.add i) = some (.int k (zs.getD i 0))) ∧ ∀ n ∈ zs, (Lit.int k n).wf = true

theorem IsRow.short {w : World} {a : Option Addr} {len cap : Nat} {zs : List Int} (h : IsRow .u8 w a len cap zs) : len ≤ 9223372036854775807 := by
  rcases h with ⟨rfl, rfl, rfl, rfl⟩ | ⟨x, rfl, hl, hm, _⟩
  · omega
  · unfold maxLen at hm; omega
theorem IsRow.seven {w : World} {a : Option Addr} {cap : Nat} {zs : List Int} (h : IsRow .u8 w a 7 cap zs) :
    ∃ b off, ∃ l : List Int, a = some ⟨b, off, none⟩ ∧ Byt l ∧ (∀ i, i < 7 → w.cell? ⟨b, off + i, none⟩ = some (.int .u8 (l.getD i 0))) ∧ b < w.heap.size := by
  rcases h with ⟨rfl, h0, rfl, rfl⟩ | ⟨x, rfl, hl, hm, hz, hc, hw⟩
  · cases h0
  · obtain ⟨b, off, spot⟩ := x
    have hspot : spot = none := by simpa [Addr.add] using World.cell?_spot (hc 0 (by omega))
    subst hspot
    have hg : ∀ i, i < 7 → (zs.take 7).getD i 0 = zs.getD i 0 := fun i hi => by
      rw [List.getD_eq_getElem?_getD, List.getD_eq_getElem?_getD, List.getElem?_take, if_pos hi]
    refine ⟨b, off, zs.take 7, rfl, ⟨by simp; omega, fun i hi => ?_⟩, fun i hi => ?_, ?_⟩
    · rw [hg i hi]
      have hi' : i < zs.length := by omega
      have := hw (zs.getD i 0) (by rw [List.getD_eq_getElem?_getD, List.getElem?_eq_getElem hi']; exact List.getElem_mem _)
      simpa [Lit.wf, IntKind.min, IntKind.max, IntKind.signed, IntKind.bits] using this
    · rw [hg i hi]
      have := hc i (by omega)
      rwa [Addr.add_lit] at this
    · have := hc 0 (by omega)
      rw [Addr.add_lit] at this
      exact World.block_lt_of_cell? w _ this

theorem lawA (a : Option Addr) (n c : Nat) (w : World) (h : 100 < n) (hm : n ≤ 9223372036854775807) :
    Calls Try.prog 4 #[.slice a n c] w fun e w' => e = .returned (.bool true) ∧ Below w.heap.size w w' := by
  have hg : (100 : Int) < (n : Int) := by omega
  clear h
  go_enter Try.func4, Try.ntmps4
  go_wp2_with fail
  refine (knownW w).mono ?_
  rintro e' w1 ⟨rfl, b1⟩
  go_wp2
  go_ret
  exact ⟨rfl, b1⟩

set_option maxRecDepth 100000 in
theorem lawB (a : Option Addr) (n c : Nat) (w : World) (hle : n ≤ 100)
    (H17 : Hid (∀ w', Below w.heap.size w w' → Calls Try.prog 17 #[.slice a n c] w' fun e w'' => e = .returned (.tuple #[.pointer none, .int .i64 24]) ∧ Below w'.heap.size w' w''))
    (H19 : Hid (∀ w', Below w.heap.size w w' → Calls Try.prog 19 #[.slice a n c] w' fun e w'' => e = .returned (.tuple #[.pointer none, .int .i64 24]) ∧ Below w'.heap.size w' w'')) :
    Calls Try.prog 4 #[.slice a n c] w fun e w' => e = .returned (.bool true) ∧ Below w.heap.size w w' := by
  have hg : ¬ (100 : Int) < (n : Int) := by omega
  clear hle
  go_enter Try.func4, Try.ntmps4
  go_wp2_with fail
  refine (knownW w).mono ?_
  rintro e' w1 ⟨rfl, b1⟩
  replace b1 := Lib.hid b1
  go_wp2_with fail
  refine (H17.out _ b1.out).mono ?_
  rintro e' w2 ⟨rfl, b2⟩
  have D2 := Lib.hid (b1.out.trans (b2.mono b1.out.size))
  clear b2
  go_wp2_with fail
  refine (H19.out _ D2.out).mono ?_
  rintro e' w3 ⟨rfl, b3⟩
  have D3 := Lib.hid (D2.out.trans (b3.mono D2.out.size))
  clear b3
  have D4 := Lib.hid D3.out.drew
  go_wp2_with fail
  refine wp_region_held_drew (S := fun _ => True) (by kernel_rfl) trivial (fun hS => ?_)
  try simp only [List.size_toArray, List.length_cons, List.length_nil, Nat.reduceAdd]
  refine wpAnyH_take (i := 0) (v := ?_) (by simp only [List.getElem?_toArray, List.getElem?_cons_succ, List.getElem?_cons_zero]; rfl) (by kernel_rfl) (by kernel_rfl) (by kernel_rfl) (by exact fun _ _ _ h => h) (Or.inl ⟨by rfl, ?_⟩) hS ?_
  rotate_left
  · intro w hSw
    go_simp
    try with_reducible rfl
  try simp only [Act.put, List.setIfInBounds_toArray, List.set_cons_zero, List.set_cons_succ]
  refine wpAnyH_take (i := 1) (v := ?_) (by simp only [List.getElem?_toArray, List.getElem?_cons_succ, List.getElem?_cons_zero]; rfl) (by kernel_rfl) (by kernel_rfl) (by kernel_rfl) (by exact fun _ _ _ h => h) (Or.inl ⟨by rfl, ?_⟩) hS ?_
  rotate_left
  · intro w hSw
    go_simp
    try with_reducible rfl
  try simp only [Act.put, List.setIfInBounds_toArray, List.set_cons_zero, List.set_cons_succ]
  refine wpAnyH_take (i := 2) (v := ?_) (by simp only [List.getElem?_toArray, List.getElem?_cons_succ, List.getElem?_cons_zero]; rfl) (by kernel_rfl) (by kernel_rfl) (by kernel_rfl) (by exact fun _ _ _ h => h) (Or.inl ⟨by rfl, ?_⟩) hS ?_
  rotate_left
  · intro w hSw
    go_simp
    try with_reducible rfl
  try simp only [Act.put, List.setIfInBounds_toArray, List.set_cons_zero, List.set_cons_succ]
  refine wpAnyH_take (i := 3) (v := undef) (by simp only [List.getElem?_toArray, List.getElem?_cons_succ, List.getElem?_cons_zero]; rfl) (by kernel_rfl) (by kernel_rfl) (by kernel_rfl) (by exact fun _ _ _ h => h) (Or.inr ⟨by rfl, rfl⟩) hS ?_
  try simp only [Act.put, List.setIfInBounds_toArray, List.set_cons_zero, List.set_cons_succ]
  refine wpAnyH_take (i := 4) (v := undef) (by simp only [List.getElem?_toArray, List.getElem?_cons_succ, List.getElem?_cons_zero]; rfl) (by kernel_rfl) (by kernel_rfl) (by kernel_rfl) (by exact fun _ _ _ h => h) (Or.inr ⟨by rfl, rfl⟩) hS ?_
  try simp only [Act.put, List.setIfInBounds_toArray, List.set_cons_zero, List.set_cons_succ]
  refine wpAnyH_take (i := 5) (v := undef) (by simp only [List.getElem?_toArray, List.getElem?_cons_succ, List.getElem?_cons_zero]; rfl) (by kernel_rfl) (by kernel_rfl) (by kernel_rfl) (by exact fun _ _ _ h => h) (Or.inr ⟨by rfl, rfl⟩) hS ?_
  try simp only [Act.put, List.setIfInBounds_toArray, List.set_cons_zero, List.set_cons_succ]
  refine wpAnyH_take (i := 6) (v := undef) (by simp only [List.getElem?_toArray, List.getElem?_cons_succ, List.getElem?_cons_zero]; rfl) (by kernel_rfl) (by kernel_rfl) (by kernel_rfl) (by exact fun _ _ _ h => h) (Or.inr ⟨by rfl, rfl⟩) hS ?_
  try simp only [Act.put, List.setIfInBounds_toArray, List.set_cons_zero, List.set_cons_succ]
  refine wpAnyH_take (i := 7) (v := undef) (by simp only [List.getElem?_toArray, List.getElem?_cons_succ, List.getElem?_cons_zero]; rfl) (by kernel_rfl) (by kernel_rfl) (by kernel_rfl) (by exact fun _ _ _ h => h) (Or.inr ⟨by rfl, rfl⟩) hS ?_
  try simp only [Act.put, List.setIfInBounds_toArray, List.set_cons_zero, List.set_cons_succ]
  refine wpAnyH_take (i := 8) (v := undef) (by simp only [List.getElem?_toArray, List.getElem?_cons_succ, List.getElem?_cons_zero]; rfl) (by kernel_rfl) (by kernel_rfl) (by kernel_rfl) (by exact fun _ _ _ h => h) (Or.inr ⟨by rfl, rfl⟩) hS ?_
  try simp only [Act.put, List.setIfInBounds_toArray, List.set_cons_zero, List.set_cons_succ]
  refine wpAnyH_take (i := 9) (v := undef) (by simp only [List.getElem?_toArray, List.getElem?_cons_succ, List.getElem?_cons_zero]; rfl) (by kernel_rfl) (by kernel_rfl) (by kernel_rfl) (by exact fun _ _ _ h => h) (Or.inr ⟨by rfl, rfl⟩) hS ?_
  try simp only [Act.put, List.setIfInBounds_toArray, List.set_cons_zero, List.set_cons_succ]
  refine wpAnyH_take (i := 10) (v := undef) (by simp only [List.getElem?_toArray, List.getElem?_cons_succ, List.getElem?_cons_zero]; rfl) (by kernel_rfl) (by kernel_rfl) (by kernel_rfl) (by exact fun _ _ _ h => h) (Or.inr ⟨by rfl, rfl⟩) hS ?_
  try simp only [Act.put, List.setIfInBounds_toArray, List.set_cons_zero, List.set_cons_succ]
  refine wpAnyH_take (i := 11) (v := undef) (by simp only [List.getElem?_toArray, List.getElem?_cons_succ, List.getElem?_cons_zero]; rfl) (by kernel_rfl) (by kernel_rfl) (by kernel_rfl) (by exact fun _ _ _ h => h) (Or.inr ⟨by rfl, rfl⟩) hS ?_
  try simp only [Act.put, List.setIfInBounds_toArray, List.set_cons_zero, List.set_cons_succ]
  refine wpAnyH_take (i := 12) (v := undef) (by simp only [List.getElem?_toArray, List.getElem?_cons_succ, List.getElem?_cons_zero]; rfl) (by kernel_rfl) (by kernel_rfl) (by kernel_rfl) (by exact fun _ _ _ h => h) (Or.inr ⟨by rfl, rfl⟩) hS ?_
  try simp only [Act.put, List.setIfInBounds_toArray, List.set_cons_zero, List.set_cons_succ]
  refine wpAnyH_take (i := 13) (v := undef) (by simp only [List.getElem?_toArray, List.getElem?_cons_succ, List.getElem?_cons_zero]; rfl) (by kernel_rfl) (by kernel_rfl) (by kernel_rfl) (by exact fun _ _ _ h => h) (Or.inr ⟨by rfl, rfl⟩) hS ?_
  try simp only [Act.put, List.setIfInBounds_toArray, List.set_cons_zero, List.set_cons_succ]
  refine wpAnyH_take (i := 14) (v := ?_) (by simp only [List.getElem?_toArray, List.getElem?_cons_succ, List.getElem?_cons_zero]; rfl) (by kernel_rfl) (by kernel_rfl) (by kernel_rfl) (by exact fun _ _ _ h => h) (Or.inl ⟨by rfl, ?_⟩) hS ?_
  rotate_left
  · intro w hSw
    go_simp
    try with_reducible rfl
  try simp only [Act.put, List.setIfInBounds_toArray, List.set_cons_zero, List.set_cons_succ]
  refine wpAnyH_take (i := 15) (v := ?_) (by simp only [List.getElem?_toArray, List.getElem?_cons_succ, List.getElem?_cons_zero]; rfl) (by kernel_rfl) (by kernel_rfl) (by kernel_rfl) (by exact fun _ _ _ h => h) (Or.inl ⟨by rfl, ?_⟩) hS ?_
  rotate_left
  · intro w hSw
    go_simp
    try with_reducible rfl
  try simp only [Act.put, List.setIfInBounds_toArray, List.set_cons_zero, List.set_cons_succ]
  refine wpAnyH_done (by kernel_rfl) ?_ _
  go_wp2
  go_ret
  exact ⟨rfl, D4.out⟩

set_option maxRecDepth 100000 in
theorem lawC (b off : Nat) (l : List Int) (c : Nat) (w : World) (hl : Byt l) (hcell : ∀ i, i < 7 → w.cell? ⟨b, off + i, none⟩ = some (.int .u8 (l.getD i 0))) (hb : b < w.heap.size) (hok : allMay l 7 = true) :
    Calls Try.prog 4 #[.slice (some ⟨b, off, none⟩) 7 c] w fun e w' => e = .returned (.bool true) ∧ Below w.heap.size w w' := by
  have AW : Hid (∀ w', Below w.heap.size w w' → ∀ i, i < 7 → w'.cell? ⟨b, off + i, none⟩ = some (.int .u8 (l.getD i 0))) := Lib.hid fun w' hb' i hi => (hb'.cell (p := ⟨b, off + i, none⟩) hb).trans (hcell i hi)
  have H17 := Lib.hid (fun w' (hb' : Below w.heap.size w w') => loadW b off l c w' hl (AW.out _ hb') (Nat.lt_of_lt_of_le hb hb'.size))
  have H19 := Lib.hid (fun w' (hb' : Below w.heap.size w w') => loadR b off l c w' hl (AW.out _ hb') (Nat.lt_of_lt_of_le hb hb'.size))
  have HOK : Hid (Ok (stK (pK l) 7)) := Lib.hid (Ok.load hl.2 hok 7 (Nat.le_refl _))
  have HLL : Hid (lastK (stK (pK l) 7) 7 = l) := Lib.hid (by rw [stK_last, range7 l hl.1])
  have HCV : Hid (∀ w' g5 c5, (∀ i, i < 7 → w'.cell? ⟨g5, i, none⟩ = some (.int .u8 (l.getD i 0))) → (convert 43 9 (.slice (some ⟨g5, 0, none⟩) 7 c5)).run Try.prog w' = .ok (.string (strOfNums l)) w') := Lib.hid fun w' g5 c5 h =>
    convB w' g5 0 c5 l 7 hl.1 (fun i hi => by rw [Nat.zero_add]; exact h i hi) 0
  have AL : Hid (∀ w', Below w.heap.size w w' → (convert 43 9 (.slice (some ⟨b, off, none⟩) 7 c)).run Try.prog w' = .ok (.string (strOfNums l)) w') := Lib.hid fun w' hb' => convB w' b off c l 7 hl.1 (AW.out _ hb') 0
  generalize strOfNums l = SL at *
  have hok := Lib.hid hok
  clear hcell AW hl hb
  go_enter Try.func4, Try.ntmps4
  go_wp2_with fail
  refine (knownW w).mono ?_
  rintro e' w1 ⟨rfl, b1⟩
  replace b1 := Lib.hid b1
  go_wp2_with fail
  refine (H17.out _ b1.out).mono ?_
  rintro e' w2 ⟨hw, b2⟩
  rcases hw with ⟨h, _⟩ | ⟨_, g, rfl, G2, _⟩
  · rw [hok.out] at h; cases h
  have D2 := Lib.hid (b1.out.trans (b2.mono b1.out.size))
  replace G2 := Lib.hid G2
  clear b2
  go_wp2_with fail
  refine (H19.out _ D2.out).mono ?_
  rintro e' w3 ⟨hw, b3⟩
  rcases hw with ⟨h, _⟩ | ⟨_, r, rfl, R3, _⟩
  · rw [hok.out] at h; cases h
  have D3 := Lib.hid (D2.out.trans (b3.mono D2.out.size))
  have G3 := Lib.hid (G2.out.below b3 G2.out.2.lt)
  replace R3 := Lib.hid R3
  clear b3 G2
  have AL4 : Hid (∀ w', Below w3.heap.size w3 w' → (convert 43 9 (.slice (some ⟨b, off, none⟩) 7 c)).run Try.prog w' = .ok (.string SL) w') := Lib.hid fun w' hb' => AL.out _ (D3.out.trans (hb'.mono D3.out.size))
  have HLk := Lib.hid (fun w' (hb' : Below w3.heap.size w3 w') => looksW g r _ 6 w' (G3.out.below hb' G3.out.2.lt) (R3.out.below hb' R3.out.2.lt) HOK.out)
  have HLa := Lib.hid (fun w' (hb' : Below w3.heap.size w3 w') => lasting7 g _ w' (G3.out.below hb' G3.out.2.lt))
  rw [HLL.out] at HLa
  replace AL := AL4
  have D0 : Hid (Below w3.heap.size w3 w3.drew) := Lib.hid (Below.refl _ _).drew
  clear AL4 G3 R3
  go_wp2_with fail
  refine wp_region_held_drew (S := fun w' => (convert 43 9 (.slice (some ⟨b, off, none⟩) 7 c)).run Try.prog w' = .ok (.string SL) w') (by kernel_rfl) (AL.out _ D0.out) (fun hS => ?_)
  try simp only [List.size_toArray, List.length_cons, List.length_nil, Nat.reduceAdd]
  refine wpAnyH_take (i := 0) (v := ?_) (by simp only [List.getElem?_toArray, List.getElem?_cons_succ, List.getElem?_cons_zero]; rfl) (by kernel_rfl) (by kernel_rfl) (by kernel_rfl) (by exact fun _ _ _ h => h) (Or.inl ⟨by rfl, ?_⟩) hS ?_
  rotate_left
  · intro w hSw
    go_simp
    try with_reducible rfl
  try simp only [Act.put, List.setIfInBounds_toArray, List.set_cons_zero, List.set_cons_succ]
  refine wpAnyH_take (i := 1) (v := ?_) (by simp only [List.getElem?_toArray, List.getElem?_cons_succ, List.getElem?_cons_zero]; rfl) (by kernel_rfl) (by kernel_rfl) (by kernel_rfl) (by exact fun _ _ _ h => h) (Or.inl ⟨by rfl, ?_⟩) hS ?_
  rotate_left
  · intro w hSw
    go_simp
    try with_reducible rfl
  try simp only [Act.put, List.setIfInBounds_toArray, List.set_cons_zero, List.set_cons_succ]
  refine wpAnyH_take (i := 2) (v := ?_) (by simp only [List.getElem?_toArray, List.getElem?_cons_succ, List.getElem?_cons_zero]; rfl) (by kernel_rfl) (by kernel_rfl) (by kernel_rfl) (by exact fun _ _ _ h => h) (Or.inl ⟨by rfl, ?_⟩) hS ?_
  rotate_left
  · intro w hSw
    go_simp
    try with_reducible rfl
  try simp only [Act.put, List.setIfInBounds_toArray, List.set_cons_zero, List.set_cons_succ]
  refine wpAnyH_take (i := 3) (v := ?_) (by simp only [List.getElem?_toArray, List.getElem?_cons_succ, List.getElem?_cons_zero]; rfl) (by kernel_rfl) (by kernel_rfl) (by kernel_rfl) (by exact fun _ _ _ h => h) (Or.inl ⟨by rfl, ?_⟩) hS ?_
  rotate_left
  · intro w hSw
    go_simp
    try with_reducible rfl
  try simp only [Act.put, List.setIfInBounds_toArray, List.set_cons_zero, List.set_cons_succ]
  refine wpAnyH_take (i := 4) (v := ?_) (by simp only [List.getElem?_toArray, List.getElem?_cons_succ, List.getElem?_cons_zero]; rfl) (by kernel_rfl) (by kernel_rfl) (by kernel_rfl) (by exact fun _ _ _ h => h) (Or.inl ⟨by rfl, ?_⟩) hS ?_
  rotate_left
  · intro w hSw
    go_simp
    try with_reducible rfl
  try simp only [Act.put, List.setIfInBounds_toArray, List.set_cons_zero, List.set_cons_succ]
  refine wpAnyH_ready (rs := [5]) (by kernel_rfl) (by simp) ?_
  refine AllReadyH.cons (by simp only [List.getElem?_toArray, List.getElem?_cons_succ, List.getElem?_cons_zero]; rfl) (fun K hK => ?_) AllReadyH.nil
  go_simp
  go_at_call 21
  refine (HLk.out _ D0.out).mono ?_
  rintro e' wb ⟨rfl, bb⟩
  have Db := Lib.hid (D0.out.trans (bb.mono D0.out.size))
  refine hK.out _ _ (AL.out _ Db.out) (fun hS => ?_)
  clear hK K
  try simp only [Act.put, List.setIfInBounds_toArray, List.set_cons_zero, List.set_cons_succ]
  refine wpAnyH_take (i := 6) (v := ?_) (by simp only [List.getElem?_toArray, List.getElem?_cons_succ, List.getElem?_cons_zero]; rfl) (by kernel_rfl) (by kernel_rfl) (by kernel_rfl) (by exact fun _ _ _ h => h) (Or.inl ⟨by rfl, ?_⟩) hS ?_
  rotate_left
  · intro w hSw
    go_simp
    try with_reducible rfl
  try simp only [Act.put, List.setIfInBounds_toArray, List.set_cons_zero, List.set_cons_succ]
  refine wpAnyH_take (i := 7) (v := ?_) (by simp only [List.getElem?_toArray, List.getElem?_cons_succ, List.getElem?_cons_zero]; rfl) (by kernel_rfl) (by kernel_rfl) (by kernel_rfl) (by exact fun _ _ _ h => h) (Or.inl ⟨by rfl, ?_⟩) hS ?_
  rotate_left
  · intro w hSw
    go_simp
    try with_reducible rfl
  try simp only [Act.put, List.setIfInBounds_toArray, List.set_cons_zero, List.set_cons_succ]
  refine wpAnyH_take (i := 10) (v := ?_) (by simp only [List.getElem?_toArray, List.getElem?_cons_succ, List.getElem?_cons_zero]; rfl) (by kernel_rfl) (by kernel_rfl) (by kernel_rfl) (by exact fun _ _ _ h => h) (Or.inl ⟨by rfl, ?_⟩) hS ?_
  rotate_left
  · intro w hSw
    go_simp
    try with_reducible rfl
  try simp only [Act.put, List.setIfInBounds_toArray, List.set_cons_zero, List.set_cons_succ]
  refine wpAnyH_take (i := 11) (v := ?_) (by simp only [List.getElem?_toArray, List.getElem?_cons_succ, List.getElem?_cons_zero]; rfl) (by kernel_rfl) (by kernel_rfl) (by kernel_rfl) (by exact fun _ _ _ h => h) (Or.inl ⟨by rfl, ?_⟩) hS ?_
  rotate_left
  · intro w hSw
    go_simp
    try with_reducible rfl
  try simp only [Act.put, List.setIfInBounds_toArray, List.set_cons_zero, List.set_cons_succ]
  refine wpAnyH_ready (rs := [8]) (by kernel_rfl) (by simp) ?_
  refine AllReadyH.cons (by simp only [List.getElem?_toArray, List.getElem?_cons_succ, List.getElem?_cons_zero]; rfl) (fun K hK => ?_) AllReadyH.nil
  go_simp
  go_at_call 18
  refine (HLa.out _ Db.out).mono ?_
  rintro e' wc ⟨g5, c5, rfl, p5, o5, bc⟩
  have Dc := Lib.hid (Db.out.trans (bc.mono Db.out.size))
  replace o5 := Lib.hid o5
  refine hK.out _ _ (AL.out _ Dc.out) (fun hS => ?_)
  clear hK K
  try simp only [Act.put, List.setIfInBounds_toArray, List.set_cons_zero, List.set_cons_succ]
  refine Reg.raise (fun w' => ((convert 43 9 (.slice (some ⟨b, off, none⟩) 7 c)).run Try.prog w' = .ok (.string SL) w') ∧ (convert 43 9 (.slice (some ⟨g5, 0, none⟩) 7 c5)).run Try.prog w' = .ok (.string SL) w') (fun w h => h.1) (⟨hS, HCV.out _ _ _ o5.out⟩) (fun hS => ?_)
  refine wpAnyH_take (i := 9) (v := ?_) (by simp only [List.getElem?_toArray, List.getElem?_cons_succ, List.getElem?_cons_zero]; rfl) (by kernel_rfl) (by kernel_rfl) (by kernel_rfl) (by exact fun _ _ _ h => h) (Or.inl ⟨by rfl, ?_⟩) hS ?_
  rotate_left
  · intro w hSw
    go_simp
    try with_reducible rfl
  try simp only [Act.put, List.setIfInBounds_toArray, List.set_cons_zero, List.set_cons_succ]
  refine wpAnyH_take (i := 12) (v := ?_) (by simp only [List.getElem?_toArray, List.getElem?_cons_succ, List.getElem?_cons_zero]; rfl) (by kernel_rfl) (by kernel_rfl) (by kernel_rfl) (by exact fun _ _ _ h => h) (Or.inl ⟨by rfl, ?_⟩) hS ?_
  rotate_left
  · intro w hSw
    go_simp
    try with_reducible rfl
  try simp only [Act.put, List.setIfInBounds_toArray, List.set_cons_zero, List.set_cons_succ]
  refine wpAnyH_take (i := 13) (v := ?_) (by simp only [List.getElem?_toArray, List.getElem?_cons_succ, List.getElem?_cons_zero]; rfl) (by kernel_rfl) (by kernel_rfl) (by kernel_rfl) (by exact fun _ _ _ h => h) (Or.inl ⟨by rfl, ?_⟩) hS ?_
  rotate_left
  · intro w hSw
    go_simp
    try with_reducible rfl
  try simp only [Act.put, List.setIfInBounds_toArray, List.set_cons_zero, List.set_cons_succ]
  refine wpAnyH_take (i := 14) (v := ?_) (by simp only [List.getElem?_toArray, List.getElem?_cons_succ, List.getElem?_cons_zero]; rfl) (by kernel_rfl) (by kernel_rfl) (by kernel_rfl) (by exact fun _ _ _ h => h) (Or.inl ⟨by rfl, ?_⟩) hS ?_
  rotate_left
  · intro w hSw
    go_simp
    try with_reducible rfl
  try simp only [Act.put, List.setIfInBounds_toArray, List.set_cons_zero, List.set_cons_succ]
  refine wpAnyH_take (i := 15) (v := ?_) (by simp only [List.getElem?_toArray, List.getElem?_cons_succ, List.getElem?_cons_zero]; rfl) (by kernel_rfl) (by kernel_rfl) (by kernel_rfl) (by exact fun _ _ _ h => h) (Or.inl ⟨by rfl, ?_⟩) hS ?_
  rotate_left
  · intro w hSw
    go_simp
    try with_reducible rfl
  try simp only [Act.put, List.setIfInBounds_toArray, List.set_cons_zero, List.set_cons_succ]
  refine wpAnyH_done (by kernel_rfl) ?_ _
  have D9 := Lib.hid (D3.out.trans (Dc.out.mono D3.out.size))
  go_wp2
  go_ret
  exact ⟨rfl, D9.out⟩

theorem all (a : Option Addr) (n c : Nat) (zs : List Int) (w : World) (h : IsRow .u8 w a n c zs) :
    Calls Try.prog 4 #[.slice a n c] w fun e w' => e = .returned (.bool true) ∧ Below w.heap.size w w' := by
  by_cases hle : n ≤ 100
  case neg => exact lawA a n c w (by omega) h.short
  by_cases h7 : n = 7
  case neg => exact lawB a n c w hle (Lib.hid fun w' _ => (lens a n c w' h7 h.short).1) (Lib.hid fun w' _ => (lens a n c w' h7 h.short).2)
  subst h7
  obtain ⟨b, off, l, rfl, hl, hc, hb⟩ := h.seven
  cases hok : allMay l 7 with
  | true => exact lawC b off l c w hl hc hb hok
  | false =>
    have hcell : ∀ w', Below w.heap.size w w' → ∀ i, i < 7 → w'.cell? ⟨b, off + i, none⟩ = some (.int .u8 (l.getD i 0)) := fun w' hb' i hi => (hb'.cell (p := ⟨b, off + i, none⟩) hb).trans (hc i hi)
    refine lawB _ 7 c w hle (Lib.hid fun w' hb' => (loadW b off l c w' hl (hcell w' hb') (Nat.lt_of_lt_of_le hb hb'.size)).mono ?_) (Lib.hid fun w' hb' => (loadR b off l c w' hl (hcell w' hb') (Nat.lt_of_lt_of_le hb hb'.size)).mono ?_)
    · rintro e w'' ⟨hw, hb2⟩
      rcases hw with ⟨_, rfl⟩ | ⟨h, _⟩
      · exact ⟨rfl, hb2⟩
      · rw [hok] at h; cases h
    · rintro e w'' ⟨hw, hb2⟩
      rcases hw with ⟨_, rfl⟩ | ⟨h, _⟩
      · exact ⟨rfl, hb2⟩
      · rw [hok] at h; cases h
end Go.Proofs.Ytnkbopmghekjdaa.RgL
