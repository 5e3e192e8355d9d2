/- The law of groups as they last. -/
import Derived.Test.YtleflegbdnmgeaaGdJ2
import Derived.Test.YtleflegbdnmgeaaGdK
namespace Go.Proofs.Ytleflegbdnmgeaa.GdF
open Go.ChangeShapes Go.WideShapes Go.ChangeAt Go.RowKit
open GdT GdA GdB GdC GdD GdE GdK GdQ GdS GdL GdJ2
set_option linter.unusedVariables false
set_option maxHeartbeats 1000000

theorem lawA (z : Int) (a : Option Addr) (n c : Nat) (R : B8) (w : World) (h : 1000 < n) :
    Calls Try.prog 4 #[.int .i64 z, .slice a n c, .int .u8 R.toNat] w fun e w' => e = .returned (.bool true) ∧ Below w.heap.size w w' := by
  have hg : (1000 : Int) < (n : Int) := by omega
  clear h
  go_enter Try.func4, Try.ntmps4
  go_wp2_with fail
  refine (known w).mono ?_
  rintro e' w1 ⟨rfl, b1⟩
  go_wp2
  go_ret
  exact ⟨rfl, b1⟩

set_option maxRecDepth 100000 in
theorem lawB (z E : Int) (a : Option Addr) (n c : Nat) (R : B8) (w : World) (hle : n ≤ 1000)
    (H16 : Hid (∀ w', Below w.heap.size w w' → Calls Try.prog 16 #[.int .i64 z, .slice a n c] w' fun e w'' => e = .returned (.tuple #[.pointer none, .int .i64 E]) ∧ Below w'.heap.size w' w''))
    (H19 : Hid (∀ w', Below w.heap.size w w' → Calls Try.prog 19 #[.int .i64 z, .slice a n c] w' fun e w'' => e = .returned (.tuple #[.pointer none, .int .i64 E]) ∧ Below w'.heap.size w' w'')) :
    Calls Try.prog 4 #[.int .i64 z, .slice a n c, .int .u8 R.toNat] w fun e w' => e = .returned (.bool true) ∧ Below w.heap.size w w' := by
  have hg : ¬ (1000 : Int) < (n : Int) := by omega
  have H20 := Lib.hid (fun w => levelW R w)
  have H21 := Lib.hid (fun w => levelR R w)
  generalize levelP R = V at *
  clear hle
  go_enter Try.func4, Try.ntmps4
  go_wp2_with fail
  refine (known w).mono ?_
  rintro e' w1 ⟨rfl, b1⟩
  replace b1 := Lib.hid b1
  go_wp2_with fail
  refine (H16.out _ b1.out).mono ?_
  rintro e' w2 ⟨rfl, b2⟩
  have D2 := Lib.hid (b1.out.trans (b2.mono b1.out.size))
  clear b2
  go_wp2_with fail
  refine (H19.out _ D2.out).mono ?_
  rintro e' w3 ⟨rfl, b3⟩
  have D3 := Lib.hid (D2.out.trans (b3.mono D2.out.size))
  clear b3
  go_wp2_with fail
  refine (H20.out _).mono ?_
  rintro e' w4 ⟨rfl, h4⟩
  obtain rfl := h4.symm
  go_wp2_with fail
  refine (H21.out _).mono ?_
  rintro e' w5 ⟨rfl, h5⟩
  obtain rfl := h5.symm
  have D4 := Lib.hid D3.out.drew
  go_wp2_with fail
  refine wp_region_held_drew (S := fun _ => True) (by kernel_rfl) trivial (fun hS => ?_)
  try simp only [List.size_toArray, List.length_cons, List.length_nil, Nat.reduceAdd]
  refine wpAnyH_take (i := 0) (v := ?_) (by simp only [List.getElem?_toArray, List.getElem?_cons_succ, List.getElem?_cons_zero]; rfl) (by kernel_rfl) (by kernel_rfl) (by kernel_rfl) (by exact fun _ _ _ h => h) (Or.inl ⟨by rfl, ?_⟩) hS ?_
  rotate_left
  · intro w hSw
    go_simp
    try with_reducible rfl
  try simp only [Act.put, List.setIfInBounds_toArray, List.set_cons_zero, List.set_cons_succ]
  refine wpAnyH_take (i := 1) (v := ?_) (by simp only [List.getElem?_toArray, List.getElem?_cons_succ, List.getElem?_cons_zero]; rfl) (by kernel_rfl) (by kernel_rfl) (by kernel_rfl) (by exact fun _ _ _ h => h) (Or.inl ⟨by rfl, ?_⟩) hS ?_
  rotate_left
  · intro w hSw
    go_simp
    try with_reducible rfl
  try simp only [Act.put, List.setIfInBounds_toArray, List.set_cons_zero, List.set_cons_succ]
  refine wpAnyH_take (i := 2) (v := ?_) (by simp only [List.getElem?_toArray, List.getElem?_cons_succ, List.getElem?_cons_zero]; rfl) (by kernel_rfl) (by kernel_rfl) (by kernel_rfl) (by exact fun _ _ _ h => h) (Or.inl ⟨by rfl, ?_⟩) hS ?_
  rotate_left
  · intro w hSw
    go_simp
    try with_reducible rfl
  try simp only [Act.put, List.setIfInBounds_toArray, List.set_cons_zero, List.set_cons_succ]
  refine wpAnyH_take (i := 3) (v := undef) (by simp only [List.getElem?_toArray, List.getElem?_cons_succ, List.getElem?_cons_zero]; rfl) (by kernel_rfl) (by kernel_rfl) (by kernel_rfl) (by exact fun _ _ _ h => h) (Or.inr ⟨by rfl, rfl⟩) hS ?_
  try simp only [Act.put, List.setIfInBounds_toArray, List.set_cons_zero, List.set_cons_succ]
  refine wpAnyH_take (i := 4) (v := undef) (by simp only [List.getElem?_toArray, List.getElem?_cons_succ, List.getElem?_cons_zero]; rfl) (by kernel_rfl) (by kernel_rfl) (by kernel_rfl) (by exact fun _ _ _ h => h) (Or.inr ⟨by rfl, rfl⟩) hS ?_
  try simp only [Act.put, List.setIfInBounds_toArray, List.set_cons_zero, List.set_cons_succ]
  refine wpAnyH_take (i := 5) (v := undef) (by simp only [List.getElem?_toArray, List.getElem?_cons_succ, List.getElem?_cons_zero]; rfl) (by kernel_rfl) (by kernel_rfl) (by kernel_rfl) (by exact fun _ _ _ h => h) (Or.inr ⟨by rfl, rfl⟩) hS ?_
  try simp only [Act.put, List.setIfInBounds_toArray, List.set_cons_zero, List.set_cons_succ]
  refine wpAnyH_take (i := 6) (v := undef) (by simp only [List.getElem?_toArray, List.getElem?_cons_succ, List.getElem?_cons_zero]; rfl) (by kernel_rfl) (by kernel_rfl) (by kernel_rfl) (by exact fun _ _ _ h => h) (Or.inr ⟨by rfl, rfl⟩) hS ?_
  try simp only [Act.put, List.setIfInBounds_toArray, List.set_cons_zero, List.set_cons_succ]
  refine wpAnyH_take (i := 7) (v := undef) (by simp only [List.getElem?_toArray, List.getElem?_cons_succ, List.getElem?_cons_zero]; rfl) (by kernel_rfl) (by kernel_rfl) (by kernel_rfl) (by exact fun _ _ _ h => h) (Or.inr ⟨by rfl, rfl⟩) hS ?_
  try simp only [Act.put, List.setIfInBounds_toArray, List.set_cons_zero, List.set_cons_succ]
  refine wpAnyH_take (i := 8) (v := undef) (by simp only [List.getElem?_toArray, List.getElem?_cons_succ, List.getElem?_cons_zero]; rfl) (by kernel_rfl) (by kernel_rfl) (by kernel_rfl) (by exact fun _ _ _ h => h) (Or.inr ⟨by rfl, rfl⟩) hS ?_
  try simp only [Act.put, List.setIfInBounds_toArray, List.set_cons_zero, List.set_cons_succ]
  refine wpAnyH_take (i := 9) (v := undef) (by simp only [List.getElem?_toArray, List.getElem?_cons_succ, List.getElem?_cons_zero]; rfl) (by kernel_rfl) (by kernel_rfl) (by kernel_rfl) (by exact fun _ _ _ h => h) (Or.inr ⟨by rfl, rfl⟩) hS ?_
  try simp only [Act.put, List.setIfInBounds_toArray, List.set_cons_zero, List.set_cons_succ]
  refine wpAnyH_take (i := 10) (v := undef) (by simp only [List.getElem?_toArray, List.getElem?_cons_succ, List.getElem?_cons_zero]; rfl) (by kernel_rfl) (by kernel_rfl) (by kernel_rfl) (by exact fun _ _ _ h => h) (Or.inr ⟨by rfl, rfl⟩) hS ?_
  try simp only [Act.put, List.setIfInBounds_toArray, List.set_cons_zero, List.set_cons_succ]
  refine wpAnyH_take (i := 11) (v := undef) (by simp only [List.getElem?_toArray, List.getElem?_cons_succ, List.getElem?_cons_zero]; rfl) (by kernel_rfl) (by kernel_rfl) (by kernel_rfl) (by exact fun _ _ _ h => h) (Or.inr ⟨by rfl, rfl⟩) hS ?_
  try simp only [Act.put, List.setIfInBounds_toArray, List.set_cons_zero, List.set_cons_succ]
  refine wpAnyH_take (i := 12) (v := undef) (by simp only [List.getElem?_toArray, List.getElem?_cons_succ, List.getElem?_cons_zero]; rfl) (by kernel_rfl) (by kernel_rfl) (by kernel_rfl) (by exact fun _ _ _ h => h) (Or.inr ⟨by rfl, rfl⟩) hS ?_
  try simp only [Act.put, List.setIfInBounds_toArray, List.set_cons_zero, List.set_cons_succ]
  refine wpAnyH_take (i := 13) (v := undef) (by simp only [List.getElem?_toArray, List.getElem?_cons_succ, List.getElem?_cons_zero]; rfl) (by kernel_rfl) (by kernel_rfl) (by kernel_rfl) (by exact fun _ _ _ h => h) (Or.inr ⟨by rfl, rfl⟩) hS ?_
  try simp only [Act.put, List.setIfInBounds_toArray, List.set_cons_zero, List.set_cons_succ]
  refine wpAnyH_take (i := 14) (v := ?_) (by simp only [List.getElem?_toArray, List.getElem?_cons_succ, List.getElem?_cons_zero]; rfl) (by kernel_rfl) (by kernel_rfl) (by kernel_rfl) (by exact fun _ _ _ h => h) (Or.inl ⟨by rfl, ?_⟩) hS ?_
  rotate_left
  · intro w hSw
    go_simp
    try with_reducible rfl
  try simp only [Act.put, List.setIfInBounds_toArray, List.set_cons_zero, List.set_cons_succ]
  refine wpAnyH_take (i := 15) (v := ?_) (by simp only [List.getElem?_toArray, List.getElem?_cons_succ, List.getElem?_cons_zero]; rfl) (by kernel_rfl) (by kernel_rfl) (by kernel_rfl) (by exact fun _ _ _ h => h) (Or.inl ⟨by rfl, ?_⟩) hS ?_
  rotate_left
  · intro w hSw
    go_simp
    try with_reducible rfl
  try simp only [Act.put, List.setIfInBounds_toArray, List.set_cons_zero, List.set_cons_succ]
  refine wpAnyH_done (by kernel_rfl) ?_ _
  go_wp2
  go_ret
  exact ⟨rfl, D4.out⟩

theorem lst_ok (l : List B8) (h : allOk l = true) : l.map lst = l := by
  unfold allOk at h
  rw [List.all_eq_true] at h
  conv => rhs; rw [← List.map_id l]
  apply List.map_congr_left
  intro x hx
  rcases ok_cases x (h x hx) with rfl | rfl | rfl <;> rfl

set_option maxRecDepth 100000 in
theorem lawC (b off : Nat) (l : List B8) (n c : Nat) (R : B8) (w : World) (hl : l.length = n) (h1 : 1 ≤ n) (h2 : n ≤ 256) (hr : Rd w (some ⟨b, off, none⟩) l) (hb : b < w.heap.size) (hok : allOk l = true) :
    Calls Try.prog 4 #[.int .i64 n, .slice (some ⟨b, off, none⟩) n c, .int .u8 R.toNat] w fun e w' => e = .returned (.bool true) ∧ Below w.heap.size w w' := by
  have hg : ¬ (1000 : Int) < (n : Int) := by omega
  have hcell : ∀ i, i < n → w.cell? ⟨b, off + i, none⟩ = some (.int .u8 (l.getD i 0).toNat) := fun i hi => by
    obtain ⟨b', o', e, hh⟩ := hr.2 i (by rw [hl]; exact hi)
    injection e with e
    injection e with e1 e2
    subst e1 e2
    exact hh
  have AW : Hid (∀ w', Below w.heap.size w w' → ∀ i, i < n → w'.cell? ⟨b, off + i, none⟩ = some (.int .u8 (l.getD i 0).toNat)) := Lib.hid fun w' hb' i hi => (hb'.cell (p := ⟨b, off + i, none⟩) hb).trans (hcell i hi)
  have H16 := Lib.hid (fun w' (hb' : Below w.heap.size w w') => loadW b off l n c w' hl h1 h2 (AW.out _ hb') (Nat.lt_of_lt_of_le hb hb'.size))
  have H19 := Lib.hid (fun w' (hb' : Below w.heap.size w w') => loadR b off l n c w' hl h1 h2 (AW.out _ hb') (Nat.lt_of_lt_of_le hb hb'.size))
  have H20 := Lib.hid (fun w => levelW R w)
  have H21 := Lib.hid (fun w => levelR R w)
  have hlst := lst_ok l hok
  have HCV : Hid (∀ w' B a c, GdT.Own w' B (.slice a n c) l → (convert 38 9 (.slice a n c)).run Try.prog w' = .ok (.string (strB l)) w') := Lib.hid fun w' B a c h => conv w' a l n c hl h.rd.1
  have AL : Hid (∀ w', Below w.heap.size w w' → (convert 38 9 (.slice (some ⟨b, off, none⟩) n c)).run Try.prog w' = .ok (.string (strB l)) w') := Lib.hid fun w' hb' => conv w' _ l n c hl (Rd.below hr hb' (fun x _ e => by cases e; exact hb))
  generalize strB l = SL at *
  generalize levelP R = V at *
  replace hlst := Lib.hid hlst
  have hok := Lib.hid hok
  have h1 := Lib.hid h1
  clear hr hcell AW
  go_enter Try.func4, Try.ntmps4
  go_wp2_with fail
  refine (known w).mono ?_
  rintro e' w1 ⟨rfl, b1⟩
  replace b1 := Lib.hid b1
  go_wp2_with fail
  refine (H16.out _ b1.out).mono ?_
  rintro e' w2 ⟨hw, b2⟩
  rcases hw with ⟨h, _⟩ | ⟨_, g, q, rfl, G2, _, _⟩
  · rw [hok.out] at h; cases h
  have D2 := Lib.hid (b1.out.trans (b2.mono b1.out.size))
  replace G2 := Lib.hid G2
  clear b2
  go_wp2_with fail
  refine (H19.out _ D2.out).mono ?_
  rintro e' w3 ⟨hw, b3⟩
  rcases hw with ⟨h, _⟩ | ⟨_, r, s, rfl, R3, _, _⟩
  · rw [hok.out] at h; cases h
  have D3 := Lib.hid (D2.out.trans (b3.mono D2.out.size))
  have G3 := Lib.hid (G2.out.below b3)
  replace R3 := Lib.hid R3
  clear b3 G2
  go_wp2_with fail
  refine (H20.out _).mono ?_
  rintro e' w4 ⟨rfl, h4⟩
  obtain rfl := h4.symm
  go_wp2_with fail
  refine (H21.out _).mono ?_
  rintro e' w5 ⟨rfl, h5⟩
  obtain rfl := h5.symm
  have HG : Hid (∀ w', Below w3.heap.size w3 w' → Gd w' g q n l) := Lib.hid fun w' hb' => G3.out.below hb'
  have HR : Hid (∀ w', Below w3.heap.size w3 w' → Rg w' r s n l) := Lib.hid fun w' hb' => R3.out.below hb'
  have AL4 : Hid (∀ w', Below w3.heap.size w3 w' → (convert 38 9 (.slice (some ⟨b, off, none⟩) n c)).run Try.prog w' = .ok (.string SL) w') := Lib.hid fun w' hb' => AL.out _ (D3.out.trans (hb'.mono D3.out.size))
  have HLk := Lib.hid (fun w' (hb' : Below w3.heap.size w3 w') => looksW g q r s n l 0 w' (HG.out _ hb') (HR.out _ hb') h1.out (by omega))
  have HLa := Lib.hid (fun w' (hb' : Below w3.heap.size w3 w') => lastingW g q n l w' (HG.out _ hb') h1.out)
  rw [hlst.out] at HLa
  replace AL := AL4
  have D0 : Hid (Below w3.heap.size w3 w3.drew) := Lib.hid (Below.refl _ _).drew
  clear AL4 G3 R3
  go_wp2_with fail
  refine wp_region_held_drew (S := fun w' => (convert 38 9 (.slice (some ⟨b, off, none⟩) n c)).run Try.prog w' = .ok (.string SL) w') (by kernel_rfl) (AL.out _ D0.out) (fun hS => ?_)
  try simp only [List.size_toArray, List.length_cons, List.length_nil, Nat.reduceAdd]
  refine wpAnyH_take (i := 0) (v := ?_) (by simp only [List.getElem?_toArray, List.getElem?_cons_succ, List.getElem?_cons_zero]; rfl) (by kernel_rfl) (by kernel_rfl) (by kernel_rfl) (by exact fun _ _ _ h => h) (Or.inl ⟨by rfl, ?_⟩) hS ?_
  rotate_left
  · intro w hSw
    go_simp
    try with_reducible rfl
  try simp only [Act.put, List.setIfInBounds_toArray, List.set_cons_zero, List.set_cons_succ]
  refine wpAnyH_take (i := 1) (v := ?_) (by simp only [List.getElem?_toArray, List.getElem?_cons_succ, List.getElem?_cons_zero]; rfl) (by kernel_rfl) (by kernel_rfl) (by kernel_rfl) (by exact fun _ _ _ h => h) (Or.inl ⟨by rfl, ?_⟩) hS ?_
  rotate_left
  · intro w hSw
    go_simp
    try with_reducible rfl
  try simp only [Act.put, List.setIfInBounds_toArray, List.set_cons_zero, List.set_cons_succ]
  refine wpAnyH_take (i := 2) (v := ?_) (by simp only [List.getElem?_toArray, List.getElem?_cons_succ, List.getElem?_cons_zero]; rfl) (by kernel_rfl) (by kernel_rfl) (by kernel_rfl) (by exact fun _ _ _ h => h) (Or.inl ⟨by rfl, ?_⟩) hS ?_
  rotate_left
  · intro w hSw
    go_simp
    try with_reducible rfl
  try simp only [Act.put, List.setIfInBounds_toArray, List.set_cons_zero, List.set_cons_succ]
  refine wpAnyH_take (i := 3) (v := ?_) (by simp only [List.getElem?_toArray, List.getElem?_cons_succ, List.getElem?_cons_zero]; rfl) (by kernel_rfl) (by kernel_rfl) (by kernel_rfl) (by exact fun _ _ _ h => h) (Or.inl ⟨by rfl, ?_⟩) hS ?_
  rotate_left
  · intro w hSw
    go_simp
    try with_reducible rfl
  try simp only [Act.put, List.setIfInBounds_toArray, List.set_cons_zero, List.set_cons_succ]
  refine wpAnyH_take (i := 4) (v := ?_) (by simp only [List.getElem?_toArray, List.getElem?_cons_succ, List.getElem?_cons_zero]; rfl) (by kernel_rfl) (by kernel_rfl) (by kernel_rfl) (by exact fun _ _ _ h => h) (Or.inl ⟨by rfl, ?_⟩) hS ?_
  rotate_left
  · intro w hSw
    go_simp
    try with_reducible rfl
  try simp only [Act.put, List.setIfInBounds_toArray, List.set_cons_zero, List.set_cons_succ]
  refine wpAnyH_ready (rs := [5]) (by kernel_rfl) (by simp) ?_
  refine AllReadyH.cons (by simp only [List.getElem?_toArray, List.getElem?_cons_succ, List.getElem?_cons_zero]; rfl) (fun K hK => ?_) AllReadyH.nil
  go_simp
  go_at_call 18
  refine (HLk.out _ D0.out).mono ?_
  rintro e' wb ⟨rfl, bb⟩
  have Db := Lib.hid (D0.out.trans (bb.mono D0.out.size))
  have Gb := Lib.hid (HG.out _ Db.out)
  refine hK.out _ _ (AL.out _ Db.out) (fun hS => ?_)
  clear hK K
  try simp only [Act.put, List.setIfInBounds_toArray, List.set_cons_zero, List.set_cons_succ]
  refine wpAnyH_take (i := 6) (v := ?_) (by simp only [List.getElem?_toArray, List.getElem?_cons_succ, List.getElem?_cons_zero]; rfl) (by kernel_rfl) (by kernel_rfl) (by kernel_rfl) (by exact fun _ _ _ h => h) (Or.inl ⟨by rfl, ?_⟩) hS ?_
  rotate_left
  · intro w hSw
    go_simp
    try with_reducible rfl
  try simp only [Act.put, List.setIfInBounds_toArray, List.set_cons_zero, List.set_cons_succ]
  refine wpAnyH_take (i := 7) (v := ?_) (by simp only [List.getElem?_toArray, List.getElem?_cons_succ, List.getElem?_cons_zero]; rfl) (by kernel_rfl) (by kernel_rfl) (by kernel_rfl) (by exact fun _ _ _ h => h) (Or.inl ⟨by rfl, ?_⟩) hS ?_
  rotate_left
  · intro w hSw
    go_simp
    try with_reducible rfl
  try simp only [Act.put, List.setIfInBounds_toArray, List.set_cons_zero, List.set_cons_succ]
  refine wpAnyH_take (i := 10) (v := ?_) (by simp only [List.getElem?_toArray, List.getElem?_cons_succ, List.getElem?_cons_zero]; rfl) (by kernel_rfl) (by kernel_rfl) (by kernel_rfl) (by exact fun _ _ _ h => h) (Or.inl ⟨by rfl, ?_⟩) hS ?_
  rotate_left
  · intro w hSw
    go_simp
    try with_reducible rfl
  try simp only [Act.put, List.setIfInBounds_toArray, List.set_cons_zero, List.set_cons_succ]
  refine wpAnyH_take (i := 11) (v := ?_) (by simp only [List.getElem?_toArray, List.getElem?_cons_succ, List.getElem?_cons_zero]; rfl) (by kernel_rfl) (by kernel_rfl) (by kernel_rfl) (by exact fun _ _ _ h => h) (Or.inl ⟨by rfl, ?_⟩) hS ?_
  rotate_left
  · intro w hSw
    go_simp
    try with_reducible rfl
  try simp only [Act.put, List.setIfInBounds_toArray, List.set_cons_zero, List.set_cons_succ]
  refine wpAnyH_ready (rs := [8]) (by kernel_rfl) (by simp) ?_
  refine AllReadyH.cons (by simp only [List.getElem?_toArray, List.getElem?_cons_succ, List.getElem?_cons_zero]; rfl) (fun K hK => ?_) AllReadyH.nil
  go_simp
  go_at_call 17
  refine (HLa.out _ Db.out).mono ?_
  rintro e' wc ⟨g5, c5, rfl, o5, _, bc⟩
  have Dc := Lib.hid (Db.out.trans (bc.mono Db.out.size))
  refine hK.out _ _ (AL.out _ Dc.out) (fun hS => ?_)
  clear hK K
  try simp only [Act.put, List.setIfInBounds_toArray, List.set_cons_zero, List.set_cons_succ]
  refine Reg.raise (fun w' => ((convert 38 9 (.slice (some ⟨b, off, none⟩) n c)).run Try.prog w' = .ok (.string SL) w') ∧ (convert 38 9 (.slice (some ⟨g5, 0, none⟩) n c5)).run Try.prog w' = .ok (.string SL) w') (fun w h => h.1) (⟨hS, HCV.out _ _ _ _ o5⟩) (fun hS => ?_)
  refine wpAnyH_take (i := 9) (v := ?_) (by simp only [List.getElem?_toArray, List.getElem?_cons_succ, List.getElem?_cons_zero]; rfl) (by kernel_rfl) (by kernel_rfl) (by kernel_rfl) (by exact fun _ _ _ h => h) (Or.inl ⟨by rfl, ?_⟩) hS ?_
  rotate_left
  · intro w hSw
    go_simp
    try with_reducible rfl
  try simp only [Act.put, List.setIfInBounds_toArray, List.set_cons_zero, List.set_cons_succ]
  refine wpAnyH_take (i := 12) (v := ?_) (by simp only [List.getElem?_toArray, List.getElem?_cons_succ, List.getElem?_cons_zero]; rfl) (by kernel_rfl) (by kernel_rfl) (by kernel_rfl) (by exact fun _ _ _ h => h) (Or.inl ⟨by rfl, ?_⟩) hS ?_
  rotate_left
  · intro w hSw
    go_simp
    try with_reducible rfl
  try simp only [Act.put, List.setIfInBounds_toArray, List.set_cons_zero, List.set_cons_succ]
  refine wpAnyH_take (i := 13) (v := ?_) (by simp only [List.getElem?_toArray, List.getElem?_cons_succ, List.getElem?_cons_zero]; rfl) (by kernel_rfl) (by kernel_rfl) (by kernel_rfl) (by exact fun _ _ _ h => h) (Or.inl ⟨by rfl, ?_⟩) hS ?_
  rotate_left
  · intro w hSw
    go_simp
    try with_reducible rfl
  try simp only [Act.put, List.setIfInBounds_toArray, List.set_cons_zero, List.set_cons_succ]
  refine wpAnyH_take (i := 14) (v := ?_) (by simp only [List.getElem?_toArray, List.getElem?_cons_succ, List.getElem?_cons_zero]; rfl) (by kernel_rfl) (by kernel_rfl) (by kernel_rfl) (by exact fun _ _ _ h => h) (Or.inl ⟨by rfl, ?_⟩) hS ?_
  rotate_left
  · intro w hSw
    go_simp
    try with_reducible rfl
  try simp only [Act.put, List.setIfInBounds_toArray, List.set_cons_zero, List.set_cons_succ]
  refine wpAnyH_take (i := 15) (v := ?_) (by simp only [List.getElem?_toArray, List.getElem?_cons_succ, List.getElem?_cons_zero]; rfl) (by kernel_rfl) (by kernel_rfl) (by kernel_rfl) (by exact fun _ _ _ h => h) (Or.inl ⟨by rfl, ?_⟩) hS ?_
  rotate_left
  · intro w hSw
    go_simp
    try with_reducible rfl
  try simp only [Act.put, List.setIfInBounds_toArray, List.set_cons_zero, List.set_cons_succ]
  refine wpAnyH_done (by kernel_rfl) ?_ _
  have D9 := Lib.hid (D3.out.trans (Dc.out.mono D3.out.size))
  go_wp2
  go_ret
  exact ⟨rfl, D9.out⟩

theorem law (z : Int) (a : Option Addr) (l : List B8) (n c : Nat) (R : B8) (w : World) (hl : l.length = n) (hr : Rd w a l) (ha : ∀ x, 0 < l.length → a = some x → x.block < w.heap.size) :
    Calls Try.prog 4 #[.int .i64 z, .slice a n c, .int .u8 R.toNat] w fun e w' => e = .returned (.bool true) ∧ Below w.heap.size w w' := by
  by_cases hle : n ≤ 1000
  case neg => exact lawA z a n c R w (by omega)
  by_cases hz : z < 1 ∨ 256 < z
  · refine lawB z 1 a n c R w hle (Lib.hid fun w' _ => (GdL.early z a l n c w' hl hz).1.mono ?_) (Lib.hid fun w' _ => (GdL.early z a l n c w' hl hz).2.mono ?_)
    · rintro e w'' ⟨rfl, rfl⟩; exact ⟨rfl, Below.refl _ _⟩
    · rintro e w'' ⟨rfl, rfl⟩; exact ⟨rfl, Below.refl _ _⟩
  obtain ⟨m, rfl⟩ := Int.eq_ofNat_of_zero_le (by omega : 0 ≤ z)
  by_cases hm : n = m
  case neg => exact lawB m 24 a n c R w hle (Lib.hid fun w' _ => (GdL.lens m a n c w' (by omega) (by omega) hm).1) (Lib.hid fun w' _ => (GdL.lens m a n c w' (by omega) (by omega) hm).2)
  subst hm
  have hx : ∃ b off, a = some ⟨b, off, none⟩ := by
    obtain ⟨b, o, e, _⟩ := hr.2 0 (by omega)
    exact ⟨b, o, e⟩
  obtain ⟨b, off, rfl⟩ := hx
  have hb : b < w.heap.size := ha ⟨b, off, none⟩ (by omega) rfl
  cases hok : allOk l with
  | true => exact lawC b off l n c R w hl (by omega) (by omega) hr hb hok
  | false =>
    have hcell : ∀ w', Below w.heap.size w w' → ∀ i, i < n → w'.cell? ⟨b, off + i, none⟩ = some (.int .u8 (l.getD i 0).toNat) := fun w' hb' i hi => by
      obtain ⟨b', o', e, hh⟩ := hr.2 i (by rw [hl]; exact hi)
      injection e with e
      injection e with e1 e2
      subst e1 e2
      exact (hb'.cell (p := ⟨b, off + i, none⟩) hb).trans hh
    refine lawB n 24 _ n c R w hle (Lib.hid fun w' hb' => (loadW b off l n c w' hl (by omega) (by omega) (hcell w' hb') (Nat.lt_of_lt_of_le hb hb'.size)).mono ?_) (Lib.hid fun w' hb' => (loadR b off l n c w' hl (by omega) (by omega) (hcell w' hb') (Nat.lt_of_lt_of_le hb hb'.size)).mono ?_)
    · rintro e w'' ⟨hw, hb2⟩
      rcases hw with ⟨_, rfl⟩ | ⟨h, _⟩
      · exact ⟨rfl, hb2⟩
      · rw [hok] at h; cases h
    · rintro e w'' ⟨hw, hb2⟩
      rcases hw with ⟨_, rfl⟩ | ⟨h, _⟩
      · exact ⟨rfl, hb2⟩
      · rw [hok] at h; cases h

theorem all (z R : Int) (a : Option Addr) (n c : Nat) (zs : List Int) (w : World) (h : GdT.IsRow .u8 w a n c zs) (hR : (Lit.int .u8 R).wf = true) :
    Calls Try.prog 4 #[.int .i64 z, .slice a n c, .int .u8 R] w fun e w' => e = .returned (.bool true) ∧ Below w.heap.size w w' := by
  obtain ⟨l, hn, hr, _, ha⟩ := h.bytes
  have hR' : 0 ≤ R ∧ R ≤ 255 := by simpa [Lit.wf, IntKind.min, IntKind.max, IntKind.signed, IntKind.bits] using hR
  obtain ⟨m, rfl⟩ := Int.eq_ofNat_of_zero_le hR'.1
  have e : (m : Int) = ((BitVec.ofNat 8 m).toNat : Int) := by rw [BitVec.toNat_ofNat]; omega
  rw [e]
  exact law z a l n c (BitVec.ofNat 8 m) w hn hr (fun x h e => ha x (by omega) e)
end Go.Proofs.Ytleflegbdnmgeaa.GdF
