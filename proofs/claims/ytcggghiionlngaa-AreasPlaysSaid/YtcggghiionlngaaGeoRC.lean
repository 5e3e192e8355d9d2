/- Contracts of the document geom: the check. -/
import Derived.Test.YtcggghiionlngaaGeoRP
namespace Go.Proofs.Ytcggghiionlngaa.GeoR
open Go.ChangeShapes Go.WideShapes Go.ChangeAt Go.RowKit
open GeoM GeoC GeoD GeoE Mem
set_option linter.unusedVariables false
set_option maxHeartbeats 2000000

set_option maxRecDepth 100000 in
theorem checkR1 (b p s u o r g k x : Int) (w : World) (HP : Hid (∀ w, Calls Try.prog 36 #[.agg #[.int .i64 b, .int .i64 p, .int .i64 s, .int .i64 u, .int .i64 o, .int .i64 r, .int .i64 g, .int .i64 k, .int .i64 x]] w fun e w' => e = .returned (.bool false) ∧ Below w.heap.size w w')) :
    Calls Try.prog 21 #[.agg #[.int .i64 b, .int .i64 p, .int .i64 s, .int .i64 u, .int .i64 o, .int .i64 r, .int .i64 g, .int .i64 k, .int .i64 x]] w fun e w' => e = .returned (.int .i64 1) ∧ Below w.heap.size w w' := by
  have hB : Mem.Blk (w.alloc (.cells #[.int .i64 b, .int .i64 p, .int .i64 s, .int .i64 u, .int .i64 o, .int .i64 r, .int .i64 g, .int .i64 k, .int .i64 x] 23)).drew w.heap.size 23 #[.int .i64 b, .int .i64 p, .int .i64 s, .int .i64 u, .int .i64 o, .int .i64 r, .int .i64 g, .int .i64 k, .int .i64 x] := Mem.Blk.drew (Mem.Blk.new w 23 _)
  have D0 : Hid (Below w.heap.size w (w.alloc (.cells #[.int .i64 b, .int .i64 p, .int .i64 s, .int .i64 u, .int .i64 o, .int .i64 r, .int .i64 g, .int .i64 k, .int .i64 x] 23)).drew) := Lib.hid ((Below.refl _ _).alloc (Nat.le_refl _) _).drew
  go_enter Try.func21, Try.ntmps21
  go_wp2_with fail
  refine wp_region_held_drew (S := fun w' => w'.cell? ⟨w.heap.size, 0, none⟩ = some (.int .i64 b) ∧ w'.cell? ⟨w.heap.size, 1, none⟩ = some (.int .i64 p) ∧ w'.cell? ⟨w.heap.size, 2, none⟩ = some (.int .i64 s) ∧ w'.cell? ⟨w.heap.size, 3, none⟩ = some (.int .i64 u) ∧ w'.cell? ⟨w.heap.size, 4, none⟩ = some (.int .i64 o) ∧ w'.cell? ⟨w.heap.size, 5, none⟩ = some (.int .i64 r) ∧ w'.cell? ⟨w.heap.size, 6, none⟩ = some (.int .i64 g) ∧ w'.cell? ⟨w.heap.size, 7, none⟩ = some (.int .i64 k) ∧ w'.cell? ⟨w.heap.size, 8, none⟩ = some (.int .i64 x)) (by kernel_rfl) (nine (g := w.heap.size) (t := 23) hB) (fun hS => ?_)
  refine wpAnyH_take (i := 0) (v := ?_) (by simp only [List.getElem?_toArray, List.getElem?_cons_succ, List.getElem?_cons_zero]; rfl) (by kernel_rfl) (by kernel_rfl) (by kernel_rfl) (by exact fun _ _ _ h => h) (Or.inl ⟨by rfl, ?_⟩) hS ?_
  rotate_left
  · intro w hSw
    go_simp
    try with_reducible rfl
  try simp only [Act.put, List.setIfInBounds_toArray, List.set_cons_zero, List.set_cons_succ]
  refine wpAnyH_ready (rs := [1]) (by kernel_rfl) (by simp) ?_
  refine AllReadyH.cons (by simp only [List.getElem?_toArray, List.getElem?_cons_succ, List.getElem?_cons_zero]; rfl) (fun K hK => ?_) AllReadyH.nil
  go_simp
  go_at_call 36
  refine (HP.out _).mono ?_
  rintro e w1 ⟨rfl, b1⟩
  have hB1 := Mem.Blk.below (w' := w1) hB b1 (by simp)
  have d1 : Hid (Below w.heap.size w w1) := Lib.hid (D0.out.trans (b1.mono (by simp)))
  refine hK.out _ _ (nine (Mem.Blk.below hB b1 (by simp))) (fun hS => ?_)
  clear hK K
  try simp only [Act.put, List.setIfInBounds_toArray, List.set_cons_zero, List.set_cons_succ]
  refine wpAnyH_take (i := 2) (v := ?_) (by simp only [List.getElem?_toArray, List.getElem?_cons_succ, List.getElem?_cons_zero]; rfl) (by kernel_rfl) (by kernel_rfl) (by kernel_rfl) (by exact fun _ _ _ h => h) (Or.inl ⟨by rfl, ?_⟩) hS ?_
  rotate_left
  · intro w hSw
    go_simp
    try with_reducible rfl
  try simp only [Act.put, List.setIfInBounds_toArray, List.set_cons_zero, List.set_cons_succ]
  refine wpAnyH_take (i := 3) (v := ?_) (by simp only [List.getElem?_toArray, List.getElem?_cons_succ, List.getElem?_cons_zero]; rfl) (by kernel_rfl) (by kernel_rfl) (by kernel_rfl) (by exact fun _ _ _ h => h) (Or.inl ⟨by rfl, ?_⟩) hS ?_
  rotate_left
  · intro w hSw
    go_simp
    try with_reducible rfl
  try simp only [Act.put, List.setIfInBounds_toArray, List.set_cons_zero, List.set_cons_succ]
  refine wpAnyH_take (i := 4) (v := undef) (by simp only [List.getElem?_toArray, List.getElem?_cons_succ, List.getElem?_cons_zero]; rfl) (by kernel_rfl) (by kernel_rfl) (by kernel_rfl) (by exact fun _ _ _ h => h) (Or.inr ⟨by rfl, rfl⟩) hS ?_
  try simp only [Act.put, List.setIfInBounds_toArray, List.set_cons_zero, List.set_cons_succ]
  refine wpAnyH_take (i := 5) (v := undef) (by simp only [List.getElem?_toArray, List.getElem?_cons_succ, List.getElem?_cons_zero]; rfl) (by kernel_rfl) (by kernel_rfl) (by kernel_rfl) (by exact fun _ _ _ h => h) (Or.inr ⟨by rfl, rfl⟩) hS ?_
  try simp only [Act.put, List.setIfInBounds_toArray, List.set_cons_zero, List.set_cons_succ]
  refine wpAnyH_take (i := 6) (v := undef) (by simp only [List.getElem?_toArray, List.getElem?_cons_succ, List.getElem?_cons_zero]; rfl) (by kernel_rfl) (by kernel_rfl) (by kernel_rfl) (by exact fun _ _ _ h => h) (Or.inr ⟨by rfl, rfl⟩) hS ?_
  try simp only [Act.put, List.setIfInBounds_toArray, List.set_cons_zero, List.set_cons_succ]
  refine wpAnyH_take (i := 7) (v := undef) (by simp only [List.getElem?_toArray, List.getElem?_cons_succ, List.getElem?_cons_zero]; rfl) (by kernel_rfl) (by kernel_rfl) (by kernel_rfl) (by exact fun _ _ _ h => h) (Or.inr ⟨by rfl, rfl⟩) hS ?_
  try simp only [Act.put, List.setIfInBounds_toArray, List.set_cons_zero, List.set_cons_succ]
  refine wpAnyH_take (i := 8) (v := undef) (by simp only [List.getElem?_toArray, List.getElem?_cons_succ, List.getElem?_cons_zero]; rfl) (by kernel_rfl) (by kernel_rfl) (by kernel_rfl) (by exact fun _ _ _ h => h) (Or.inr ⟨by rfl, rfl⟩) hS ?_
  try simp only [Act.put, List.setIfInBounds_toArray, List.set_cons_zero, List.set_cons_succ]
  refine wpAnyH_take (i := 9) (v := ?_) (by simp only [List.getElem?_toArray, List.getElem?_cons_succ, List.getElem?_cons_zero]; rfl) (by kernel_rfl) (by kernel_rfl) (by kernel_rfl) (by exact fun _ _ _ h => h) (Or.inl ⟨by rfl, ?_⟩) hS ?_
  rotate_left
  · intro w hSw
    go_simp
    try with_reducible rfl
  try simp only [Act.put, List.setIfInBounds_toArray, List.set_cons_zero, List.set_cons_succ]
  refine wpAnyH_done (by kernel_rfl) ?_ _
  go_wp2
  go_ret
  exact ⟨rfl, d1.out⟩

set_option maxRecDepth 100000 in
theorem checkR2 (b p s u o r g k x N : Int) (w : World) (HP : Hid (∀ w, Calls Try.prog 36 #[.agg #[.int .i64 b, .int .i64 p, .int .i64 s, .int .i64 u, .int .i64 o, .int .i64 r, .int .i64 g, .int .i64 k, .int .i64 x]] w fun e w' => e = .returned (.bool true) ∧ Below w.heap.size w w')) (HN : Hid (∀ w, Calls Try.prog 37 #[.agg #[.int .i64 b, .int .i64 p, .int .i64 s, .int .i64 u, .int .i64 o, .int .i64 r, .int .i64 g, .int .i64 k, .int .i64 x], .int .i64 0] w fun e w' => e = .returned (.int .i64 N) ∧ Below w.heap.size w w')) (hd : ¬ N ≤ b) :
    Calls Try.prog 21 #[.agg #[.int .i64 b, .int .i64 p, .int .i64 s, .int .i64 u, .int .i64 o, .int .i64 r, .int .i64 g, .int .i64 k, .int .i64 x]] w fun e w' => e = .returned (.int .i64 1) ∧ Below w.heap.size w w' := by
  have hB : Mem.Blk (w.alloc (.cells #[.int .i64 b, .int .i64 p, .int .i64 s, .int .i64 u, .int .i64 o, .int .i64 r, .int .i64 g, .int .i64 k, .int .i64 x] 23)).drew w.heap.size 23 #[.int .i64 b, .int .i64 p, .int .i64 s, .int .i64 u, .int .i64 o, .int .i64 r, .int .i64 g, .int .i64 k, .int .i64 x] := Mem.Blk.drew (Mem.Blk.new w 23 _)
  have D0 : Hid (Below w.heap.size w (w.alloc (.cells #[.int .i64 b, .int .i64 p, .int .i64 s, .int .i64 u, .int .i64 o, .int .i64 r, .int .i64 g, .int .i64 k, .int .i64 x] 23)).drew) := Lib.hid ((Below.refl _ _).alloc (Nat.le_refl _) _).drew
  go_enter Try.func21, Try.ntmps21
  go_wp2_with fail
  refine wp_region_held_drew (S := fun w' => w'.cell? ⟨w.heap.size, 0, none⟩ = some (.int .i64 b) ∧ w'.cell? ⟨w.heap.size, 1, none⟩ = some (.int .i64 p) ∧ w'.cell? ⟨w.heap.size, 2, none⟩ = some (.int .i64 s) ∧ w'.cell? ⟨w.heap.size, 3, none⟩ = some (.int .i64 u) ∧ w'.cell? ⟨w.heap.size, 4, none⟩ = some (.int .i64 o) ∧ w'.cell? ⟨w.heap.size, 5, none⟩ = some (.int .i64 r) ∧ w'.cell? ⟨w.heap.size, 6, none⟩ = some (.int .i64 g) ∧ w'.cell? ⟨w.heap.size, 7, none⟩ = some (.int .i64 k) ∧ w'.cell? ⟨w.heap.size, 8, none⟩ = some (.int .i64 x)) (by kernel_rfl) (nine (g := w.heap.size) (t := 23) hB) (fun hS => ?_)
  refine wpAnyH_take (i := 0) (v := ?_) (by simp only [List.getElem?_toArray, List.getElem?_cons_succ, List.getElem?_cons_zero]; rfl) (by kernel_rfl) (by kernel_rfl) (by kernel_rfl) (by exact fun _ _ _ h => h) (Or.inl ⟨by rfl, ?_⟩) hS ?_
  rotate_left
  · intro w hSw
    go_simp
    try with_reducible rfl
  try simp only [Act.put, List.setIfInBounds_toArray, List.set_cons_zero, List.set_cons_succ]
  refine wpAnyH_ready (rs := [1]) (by kernel_rfl) (by simp) ?_
  refine AllReadyH.cons (by simp only [List.getElem?_toArray, List.getElem?_cons_succ, List.getElem?_cons_zero]; rfl) (fun K hK => ?_) AllReadyH.nil
  go_simp
  go_at_call 36
  refine (HP.out _).mono ?_
  rintro e w1 ⟨rfl, b1⟩
  have hB1 := Mem.Blk.below (w' := w1) hB b1 (by simp)
  have d1 : Hid (Below w.heap.size w w1) := Lib.hid (D0.out.trans (b1.mono (by simp)))
  refine hK.out _ _ (nine (Mem.Blk.below hB b1 (by simp))) (fun hS => ?_)
  clear hK K
  try simp only [Act.put, List.setIfInBounds_toArray, List.set_cons_zero, List.set_cons_succ]
  refine wpAnyH_take (i := 2) (v := ?_) (by simp only [List.getElem?_toArray, List.getElem?_cons_succ, List.getElem?_cons_zero]; rfl) (by kernel_rfl) (by kernel_rfl) (by kernel_rfl) (by exact fun _ _ _ h => h) (Or.inl ⟨by rfl, ?_⟩) hS ?_
  rotate_left
  · intro w hSw
    go_simp
    try with_reducible rfl
  try simp only [Act.put, List.setIfInBounds_toArray, List.set_cons_zero, List.set_cons_succ]
  refine wpAnyH_take (i := 3) (v := ?_) (by simp only [List.getElem?_toArray, List.getElem?_cons_succ, List.getElem?_cons_zero]; rfl) (by kernel_rfl) (by kernel_rfl) (by kernel_rfl) (by exact fun _ _ _ h => h) (Or.inl ⟨by rfl, ?_⟩) hS ?_
  rotate_left
  · intro w hSw
    go_simp
    try with_reducible rfl
  try simp only [Act.put, List.setIfInBounds_toArray, List.set_cons_zero, List.set_cons_succ]
  refine wpAnyH_take (i := 4) (v := ?_) (by simp only [List.getElem?_toArray, List.getElem?_cons_succ, List.getElem?_cons_zero]; rfl) (by kernel_rfl) (by kernel_rfl) (by kernel_rfl) (by exact fun _ _ _ h => h) (Or.inl ⟨by rfl, ?_⟩) hS ?_
  rotate_left
  · intro w hSw
    go_simp
    try with_reducible rfl
  try simp only [Act.put, List.setIfInBounds_toArray, List.set_cons_zero, List.set_cons_succ]
  refine wpAnyH_take (i := 6) (v := ?_) (by simp only [List.getElem?_toArray, List.getElem?_cons_succ, List.getElem?_cons_zero]; rfl) (by kernel_rfl) (by kernel_rfl) (by kernel_rfl) (by exact fun _ _ _ h => h) (Or.inl ⟨by rfl, ?_⟩) hS ?_
  rotate_left
  · intro w hSw
    go_simp
    try with_reducible rfl
  try simp only [Act.put, List.setIfInBounds_toArray, List.set_cons_zero, List.set_cons_succ]
  refine wpAnyH_take (i := 7) (v := ?_) (by simp only [List.getElem?_toArray, List.getElem?_cons_succ, List.getElem?_cons_zero]; rfl) (by kernel_rfl) (by kernel_rfl) (by kernel_rfl) (by exact fun _ _ _ h => h) (Or.inl ⟨by rfl, ?_⟩) hS ?_
  rotate_left
  · intro w hSw
    go_simp
    try with_reducible rfl
  try simp only [Act.put, List.setIfInBounds_toArray, List.set_cons_zero, List.set_cons_succ]
  refine wpAnyH_ready (rs := [5]) (by kernel_rfl) (by simp) ?_
  refine AllReadyH.cons (by simp only [List.getElem?_toArray, List.getElem?_cons_succ, List.getElem?_cons_zero]; rfl) (fun K hK => ?_) AllReadyH.nil
  go_simp
  go_at_call 37
  refine (HN.out _).mono ?_
  rintro e w2 ⟨rfl, b2⟩
  have d2 : Hid (Below w.heap.size w w2) := Lib.hid (d1.out.trans (b2.mono d1.out.size))
  refine hK.out _ _ (nine (Mem.Blk.below hB1 b2 (by have := b1.size; simp at this; omega))) (fun hS => ?_)
  clear hK K
  try simp only [Act.put, List.setIfInBounds_toArray, List.set_cons_zero, List.set_cons_succ]
  refine wpAnyH_take (i := 8) (v := ?_) (by simp only [List.getElem?_toArray, List.getElem?_cons_succ, List.getElem?_cons_zero]; rfl) (by kernel_rfl) (by kernel_rfl) (by kernel_rfl) (by exact fun _ _ _ h => h) (Or.inl ⟨by rfl, ?_⟩) hS ?_
  rotate_left
  · intro w hSw
    go_simp
    try with_reducible rfl
  try simp only [Act.put, List.setIfInBounds_toArray, List.set_cons_zero, List.set_cons_succ]
  refine wpAnyH_take (i := 9) (v := ?_) (by simp only [List.getElem?_toArray, List.getElem?_cons_succ, List.getElem?_cons_zero]; rfl) (by kernel_rfl) (by kernel_rfl) (by kernel_rfl) (by exact fun _ _ _ h => h) (Or.inl ⟨by rfl, ?_⟩) hS ?_
  rotate_left
  · intro w hSw
    go_simp
    try with_reducible rfl
  try simp only [Act.put, List.setIfInBounds_toArray, List.set_cons_zero, List.set_cons_succ]
  refine wpAnyH_done (by kernel_rfl) ?_ _
  go_wp2
  go_ret
  exact ⟨rfl, d2.out⟩

set_option maxRecDepth 100000 in
theorem checkR3 (b p s u o r g k x N : Int) (w : World) (HP : Hid (∀ w, Calls Try.prog 36 #[.agg #[.int .i64 b, .int .i64 p, .int .i64 s, .int .i64 u, .int .i64 o, .int .i64 r, .int .i64 g, .int .i64 k, .int .i64 x]] w fun e w' => e = .returned (.bool true) ∧ Below w.heap.size w w')) (HN : Hid (∀ w, Calls Try.prog 37 #[.agg #[.int .i64 b, .int .i64 p, .int .i64 s, .int .i64 u, .int .i64 o, .int .i64 r, .int .i64 g, .int .i64 k, .int .i64 x], .int .i64 0] w fun e w' => e = .returned (.int .i64 N) ∧ Below w.heap.size w w')) (hd : N ≤ b) :
    Calls Try.prog 21 #[.agg #[.int .i64 b, .int .i64 p, .int .i64 s, .int .i64 u, .int .i64 o, .int .i64 r, .int .i64 g, .int .i64 k, .int .i64 x]] w fun e w' => e = .returned (.int .i64 0) ∧ Below w.heap.size w w' := by
  have hB : Mem.Blk (w.alloc (.cells #[.int .i64 b, .int .i64 p, .int .i64 s, .int .i64 u, .int .i64 o, .int .i64 r, .int .i64 g, .int .i64 k, .int .i64 x] 23)).drew w.heap.size 23 #[.int .i64 b, .int .i64 p, .int .i64 s, .int .i64 u, .int .i64 o, .int .i64 r, .int .i64 g, .int .i64 k, .int .i64 x] := Mem.Blk.drew (Mem.Blk.new w 23 _)
  have D0 : Hid (Below w.heap.size w (w.alloc (.cells #[.int .i64 b, .int .i64 p, .int .i64 s, .int .i64 u, .int .i64 o, .int .i64 r, .int .i64 g, .int .i64 k, .int .i64 x] 23)).drew) := Lib.hid ((Below.refl _ _).alloc (Nat.le_refl _) _).drew
  go_enter Try.func21, Try.ntmps21
  go_wp2_with fail
  refine wp_region_held_drew (S := fun w' => w'.cell? ⟨w.heap.size, 0, none⟩ = some (.int .i64 b) ∧ w'.cell? ⟨w.heap.size, 1, none⟩ = some (.int .i64 p) ∧ w'.cell? ⟨w.heap.size, 2, none⟩ = some (.int .i64 s) ∧ w'.cell? ⟨w.heap.size, 3, none⟩ = some (.int .i64 u) ∧ w'.cell? ⟨w.heap.size, 4, none⟩ = some (.int .i64 o) ∧ w'.cell? ⟨w.heap.size, 5, none⟩ = some (.int .i64 r) ∧ w'.cell? ⟨w.heap.size, 6, none⟩ = some (.int .i64 g) ∧ w'.cell? ⟨w.heap.size, 7, none⟩ = some (.int .i64 k) ∧ w'.cell? ⟨w.heap.size, 8, none⟩ = some (.int .i64 x)) (by kernel_rfl) (nine (g := w.heap.size) (t := 23) hB) (fun hS => ?_)
  refine wpAnyH_take (i := 0) (v := ?_) (by simp only [List.getElem?_toArray, List.getElem?_cons_succ, List.getElem?_cons_zero]; rfl) (by kernel_rfl) (by kernel_rfl) (by kernel_rfl) (by exact fun _ _ _ h => h) (Or.inl ⟨by rfl, ?_⟩) hS ?_
  rotate_left
  · intro w hSw
    go_simp
    try with_reducible rfl
  try simp only [Act.put, List.setIfInBounds_toArray, List.set_cons_zero, List.set_cons_succ]
  refine wpAnyH_ready (rs := [1]) (by kernel_rfl) (by simp) ?_
  refine AllReadyH.cons (by simp only [List.getElem?_toArray, List.getElem?_cons_succ, List.getElem?_cons_zero]; rfl) (fun K hK => ?_) AllReadyH.nil
  go_simp
  go_at_call 36
  refine (HP.out _).mono ?_
  rintro e w1 ⟨rfl, b1⟩
  have hB1 := Mem.Blk.below (w' := w1) hB b1 (by simp)
  have d1 : Hid (Below w.heap.size w w1) := Lib.hid (D0.out.trans (b1.mono (by simp)))
  refine hK.out _ _ (nine (Mem.Blk.below hB b1 (by simp))) (fun hS => ?_)
  clear hK K
  try simp only [Act.put, List.setIfInBounds_toArray, List.set_cons_zero, List.set_cons_succ]
  refine wpAnyH_take (i := 2) (v := ?_) (by simp only [List.getElem?_toArray, List.getElem?_cons_succ, List.getElem?_cons_zero]; rfl) (by kernel_rfl) (by kernel_rfl) (by kernel_rfl) (by exact fun _ _ _ h => h) (Or.inl ⟨by rfl, ?_⟩) hS ?_
  rotate_left
  · intro w hSw
    go_simp
    try with_reducible rfl
  try simp only [Act.put, List.setIfInBounds_toArray, List.set_cons_zero, List.set_cons_succ]
  refine wpAnyH_take (i := 3) (v := ?_) (by simp only [List.getElem?_toArray, List.getElem?_cons_succ, List.getElem?_cons_zero]; rfl) (by kernel_rfl) (by kernel_rfl) (by kernel_rfl) (by exact fun _ _ _ h => h) (Or.inl ⟨by rfl, ?_⟩) hS ?_
  rotate_left
  · intro w hSw
    go_simp
    try with_reducible rfl
  try simp only [Act.put, List.setIfInBounds_toArray, List.set_cons_zero, List.set_cons_succ]
  refine wpAnyH_take (i := 4) (v := ?_) (by simp only [List.getElem?_toArray, List.getElem?_cons_succ, List.getElem?_cons_zero]; rfl) (by kernel_rfl) (by kernel_rfl) (by kernel_rfl) (by exact fun _ _ _ h => h) (Or.inl ⟨by rfl, ?_⟩) hS ?_
  rotate_left
  · intro w hSw
    go_simp
    try with_reducible rfl
  try simp only [Act.put, List.setIfInBounds_toArray, List.set_cons_zero, List.set_cons_succ]
  refine wpAnyH_take (i := 6) (v := ?_) (by simp only [List.getElem?_toArray, List.getElem?_cons_succ, List.getElem?_cons_zero]; rfl) (by kernel_rfl) (by kernel_rfl) (by kernel_rfl) (by exact fun _ _ _ h => h) (Or.inl ⟨by rfl, ?_⟩) hS ?_
  rotate_left
  · intro w hSw
    go_simp
    try with_reducible rfl
  try simp only [Act.put, List.setIfInBounds_toArray, List.set_cons_zero, List.set_cons_succ]
  refine wpAnyH_take (i := 7) (v := ?_) (by simp only [List.getElem?_toArray, List.getElem?_cons_succ, List.getElem?_cons_zero]; rfl) (by kernel_rfl) (by kernel_rfl) (by kernel_rfl) (by exact fun _ _ _ h => h) (Or.inl ⟨by rfl, ?_⟩) hS ?_
  rotate_left
  · intro w hSw
    go_simp
    try with_reducible rfl
  try simp only [Act.put, List.setIfInBounds_toArray, List.set_cons_zero, List.set_cons_succ]
  refine wpAnyH_ready (rs := [5]) (by kernel_rfl) (by simp) ?_
  refine AllReadyH.cons (by simp only [List.getElem?_toArray, List.getElem?_cons_succ, List.getElem?_cons_zero]; rfl) (fun K hK => ?_) AllReadyH.nil
  go_simp
  go_at_call 37
  refine (HN.out _).mono ?_
  rintro e w2 ⟨rfl, b2⟩
  have d2 : Hid (Below w.heap.size w w2) := Lib.hid (d1.out.trans (b2.mono d1.out.size))
  refine hK.out _ _ (nine (Mem.Blk.below hB1 b2 (by have := b1.size; simp at this; omega))) (fun hS => ?_)
  clear hK K
  try simp only [Act.put, List.setIfInBounds_toArray, List.set_cons_zero, List.set_cons_succ]
  refine wpAnyH_take (i := 8) (v := ?_) (by simp only [List.getElem?_toArray, List.getElem?_cons_succ, List.getElem?_cons_zero]; rfl) (by kernel_rfl) (by kernel_rfl) (by kernel_rfl) (by exact fun _ _ _ h => h) (Or.inl ⟨by rfl, ?_⟩) hS ?_
  rotate_left
  · intro w hSw
    go_simp
    try with_reducible rfl
  try simp only [Act.put, List.setIfInBounds_toArray, List.set_cons_zero, List.set_cons_succ]
  refine wpAnyH_take (i := 9) (v := ?_) (by simp only [List.getElem?_toArray, List.getElem?_cons_succ, List.getElem?_cons_zero]; rfl) (by kernel_rfl) (by kernel_rfl) (by kernel_rfl) (by exact fun _ _ _ h => h) (Or.inl ⟨by rfl, ?_⟩) hS ?_
  rotate_left
  · intro w hSw
    go_simp
    try with_reducible rfl
  try simp only [Act.put, List.setIfInBounds_toArray, List.set_cons_zero, List.set_cons_succ]
  refine wpAnyH_done (by kernel_rfl) ?_ _
  go_wp2
  go_ret
  exact ⟨rfl, d2.out⟩

theorem check_iff (b p s u o r g k x : Int) : check ⟨b, p, s, u, o, r, g, k, x⟩ = true ↔ ((1 ≤ b ∧ b ≤ 1024) ∧ (4 ≤ p ∧ p ≤ 256) ∧ (p % 2 = 0) ∧ (128 ≤ s ∧ s ≤ 448) ∧ (s % 64 = 0) ∧ (1 ≤ u ∧ u ≤ 16384) ∧ (1 ≤ o ∧ o ≤ 256) ∧ (1 ≤ r ∧ r ≤ 256) ∧ (1 ≤ g ∧ g ≤ u) ∧ (u % g = 0) ∧ (u / g ≤ 32) ∧ (0 ≤ k ∧ k ≤ 64) ∧ (0 ≤ x ∧ x ≤ b)) ∧ need ⟨b, p, s, u, o, r, g, k, x⟩ 0 ≤ b := by
  unfold check
  simp only [Bool.and_eq_true, decide_eq_true_eq, bnd_plain]
  unfold Plain groups
  simp only
  constructor
  · rintro ⟨⟨⟨h1, h2⟩, h3⟩, h4⟩
    refine ⟨?_, h4⟩
    omega
  · rintro ⟨h1, h4⟩
    refine ⟨⟨⟨?_, ?_⟩, ?_⟩, h4⟩
    all_goals omega
theorem checkRW (c : Cfg) (w : World) : Calls Try.prog 21 #[cv c] w fun e w' => e = .returned (.int .i64 (errOf c)) ∧ Below w.heap.size w w' := by
  obtain ⟨b, p, s, u, o, r, g, k, x⟩ := c
  have hi := check_iff b p s u o r g k x
  by_cases hp : (1 ≤ b ∧ b ≤ 1024) ∧ (4 ≤ p ∧ p ≤ 256) ∧ (p % 2 = 0) ∧ (128 ≤ s ∧ s ≤ 448) ∧ (s % 64 = 0) ∧ (1 ≤ u ∧ u ≤ 16384) ∧ (1 ≤ o ∧ o ≤ 256) ∧ (1 ≤ r ∧ r ≤ 256) ∧ (1 ≤ g ∧ g ≤ u) ∧ (u % g = 0) ∧ (u / g ≤ 32) ∧ (0 ≤ k ∧ k ≤ 64) ∧ (0 ≤ x ∧ x ≤ b)
  · have HP : Hid (∀ w, Calls Try.prog 36 #[.agg #[.int .i64 b, .int .i64 p, .int .i64 s, .int .i64 u, .int .i64 o, .int .i64 r, .int .i64 g, .int .i64 k, .int .i64 x]] w fun e w' => e = .returned (.bool true) ∧ Below w.heap.size w w') := Lib.hid fun w => (plainR b p s u o r g k x w).mono fun e w' ⟨B, h1, h2, h3⟩ => ⟨by rw [h1, h3.2 hp], h2⟩
    have hpl : Plain ⟨b, p, s, u, o, r, g, k, x⟩ := by unfold Plain; simp only; omega
    have HN : Hid (∀ w, Calls Try.prog 37 #[.agg #[.int .i64 b, .int .i64 p, .int .i64 s, .int .i64 u, .int .i64 o, .int .i64 r, .int .i64 g, .int .i64 k, .int .i64 x], .int .i64 0] w fun e w' => e = .returned (.int .i64 (need ⟨b, p, s, u, o, r, g, k, x⟩ 0)) ∧ Below w.heap.size w w') := Lib.hid fun w => needR ⟨b, p, s, u, o, r, g, k, x⟩ hpl 0 w
    by_cases hd : need ⟨b, p, s, u, o, r, g, k, x⟩ 0 ≤ b
    · rw [show errOf ⟨b, p, s, u, o, r, g, k, x⟩ = 0 from if_pos (hi.2 ⟨hp, hd⟩)]
      exact checkR3 b p s u o r g k x _ w HP HN hd
    · rw [show errOf ⟨b, p, s, u, o, r, g, k, x⟩ = 1 from if_neg (fun h => hd (hi.1 h).2)]
      exact checkR2 b p s u o r g k x _ w HP HN hd
  · have HP : Hid (∀ w, Calls Try.prog 36 #[.agg #[.int .i64 b, .int .i64 p, .int .i64 s, .int .i64 u, .int .i64 o, .int .i64 r, .int .i64 g, .int .i64 k, .int .i64 x]] w fun e w' => e = .returned (.bool false) ∧ Below w.heap.size w w') := Lib.hid fun w => (plainR b p s u o r g k x w).mono fun e w' ⟨B, h1, h2, h3⟩ => ⟨by rw [h1]; cases B with
      | false => rfl
      | true => exact absurd (h3.1 rfl) hp, h2⟩
    rw [show errOf ⟨b, p, s, u, o, r, g, k, x⟩ = 1 from if_neg (fun h => hp (hi.1 h).1)]
    exact checkR1 b p s u o r g k x w HP

end Go.Proofs.Ytcggghiionlngaa.GeoR
