/- The document's machine of states. -/
import Derived.Test.YtddmodiogjnhmaaPhE
namespace Go.Proofs.Ytddmodiogjnhmaa.PhR
open Go.ChangeShapes Go.WideShapes Go.ChangeAt Go.RowKit
open PhM PhA PhB PhC PhD PhE
set_option linter.unusedVariables false
set_option maxHeartbeats 1000000

theorem standR (i : Int) (m : Bool) (w : World) : Calls Try.prog 30 #[.int .i64 i, .bool m] w fun e w' => e = .returned (.tuple #[.int .i64 (standN i m).1, .bool (standN i m).2]) ∧ w' = w := by
  by_cases e7 : i = 7
  · subst e7
    cases m
    · go_enter Try.func30, Try.ntmps30
      go_wp2
      go_ret2
      exact ⟨rfl, rfl⟩
    · go_enter Try.func30, Try.ntmps30
      go_wp2
      go_ret2
      exact ⟨rfl, rfl⟩
  by_cases e9 : i = 9
  · subst e9
    go_enter Try.func30, Try.ntmps30
    go_wp2
    go_ret2
    exact ⟨rfl, rfl⟩
  by_cases e13 : i = 13
  · subst e13
    go_enter Try.func30, Try.ntmps30
    go_wp2
    go_ret2
    exact ⟨rfl, rfl⟩
  have hv : standN i m = (3, false) := by simp [standN, e7, e9, e13]
  rw [hv]
  go_enter Try.func30, Try.ntmps30
  go_wp2
  go_ret2
  exact ⟨rfl, rfl⟩

theorem tranR (i : Int) (m : Bool) (w : World) : Calls Try.prog 31 #[.int .i64 i, .bool m] w fun e w' => e = .returned (.tuple #[.int .i64 (tranN i m).1, .bool (tranN i m).2]) ∧ w' = w := by
  by_cases e7 : i = 7
  · subst e7
    cases m
    · go_enter Try.func31, Try.ntmps31
      go_wp2
      go_ret2
      exact ⟨rfl, rfl⟩
    · go_enter Try.func31, Try.ntmps31
      go_wp2
      go_ret2
      exact ⟨rfl, rfl⟩
  by_cases e13 : i = 13
  · subst e13
    go_enter Try.func31, Try.ntmps31
    go_wp2
    go_ret2
    exact ⟨rfl, rfl⟩
  by_cases e6 : i = 6
  · subst e6
    go_enter Try.func31, Try.ntmps31
    go_wp2
    go_ret2
    exact ⟨rfl, rfl⟩
  by_cases e8 : i = 8
  · subst e8
    go_enter Try.func31, Try.ntmps31
    go_wp2
    go_ret2
    exact ⟨rfl, rfl⟩
  by_cases e17 : i = 17
  · subst e17
    go_enter Try.func31, Try.ntmps31
    go_wp2
    go_ret2
    exact ⟨rfl, rfl⟩
  by_cases e18 : i = 18
  · subst e18
    go_enter Try.func31, Try.ntmps31
    go_wp2
    go_ret2
    exact ⟨rfl, rfl⟩
  by_cases e23 : i = 23
  · subst e23
    go_enter Try.func31, Try.ntmps31
    go_wp2
    go_ret2
    exact ⟨rfl, rfl⟩
  by_cases e28 : i = 28
  · subst e28
    go_enter Try.func31, Try.ntmps31
    go_wp2
    go_ret2
    exact ⟨rfl, rfl⟩
  by_cases e29 : i = 29
  · subst e29
    go_enter Try.func31, Try.ntmps31
    go_wp2
    go_ret2
    exact ⟨rfl, rfl⟩
  by_cases e30 : i = 30
  · subst e30
    go_enter Try.func31, Try.ntmps31
    go_wp2
    go_ret2
    exact ⟨rfl, rfl⟩
  by_cases e35 : i = 35
  · subst e35
    go_enter Try.func31, Try.ntmps31
    go_wp2
    go_ret2
    exact ⟨rfl, rfl⟩
  by_cases e36 : i = 36
  · subst e36
    go_enter Try.func31, Try.ntmps31
    go_wp2
    go_ret2
    exact ⟨rfl, rfl⟩
  by_cases e38 : i = 38
  · subst e38
    go_enter Try.func31, Try.ntmps31
    go_wp2
    go_ret2
    exact ⟨rfl, rfl⟩
  by_cases e24 : i = 24
  · subst e24
    go_enter Try.func31, Try.ntmps31
    go_wp2
    go_ret2
    exact ⟨rfl, rfl⟩
  by_cases e25 : i = 25
  · subst e25
    go_enter Try.func31, Try.ntmps31
    go_wp2
    go_ret2
    exact ⟨rfl, rfl⟩
  have hv : tranN i m = (4, false) := by simp [tranN, e7, e13, e6, e8, e17, e18, e23, e28, e29, e30, e35, e36, e38, e24, e25]
  rw [hv]
  go_enter Try.func31, Try.ntmps31
  go_wp2
  go_ret2
  exact ⟨rfl, rfl⟩

theorem nextR (s i : Int) (m : Bool) (w : World) : Calls Try.prog 22 #[.int .i64 s, .int .i64 i, .bool m] w fun e w' => e = .returned (.tuple #[.int .i64 (nx s i m).1, .bool (nx s i m).2]) ∧ w' = w := by
  by_cases s0 : s = 0
  · subst s0
    by_cases e0 : i = 0
    · subst e0
      go_enter Try.func22, Try.ntmps22
      go_wp2
      go_ret2
      exact ⟨rfl, rfl⟩
    by_cases e1 : i = 1
    · subst e1
      go_enter Try.func22, Try.ntmps22
      go_wp2
      go_ret2
      exact ⟨rfl, rfl⟩
    have hv : nx 0 i m = (0, false) := by simp [nx, e0, e1]
    rw [hv]
    go_enter Try.func22, Try.ntmps22
    go_wp2
    go_ret2
    exact ⟨rfl, rfl⟩
  by_cases s1 : s = 1
  · subst s1
    by_cases e0 : i = 0
    · subst e0
      go_enter Try.func22, Try.ntmps22
      go_wp2
      go_ret2
      exact ⟨rfl, rfl⟩
    by_cases e1 : i = 2
    · subst e1
      go_enter Try.func22, Try.ntmps22
      go_wp2
      go_ret2
      exact ⟨rfl, rfl⟩
    have hv : nx 1 i m = (1, false) := by simp [nx, e0, e1]
    rw [hv]
    go_enter Try.func22, Try.ntmps22
    go_wp2
    go_ret2
    exact ⟨rfl, rfl⟩
  by_cases s2 : s = 2
  · subst s2
    by_cases e0 : i = 0
    · subst e0
      go_enter Try.func22, Try.ntmps22
      go_wp2
      go_ret2
      exact ⟨rfl, rfl⟩
    by_cases e1 : i = 3
    · subst e1
      go_enter Try.func22, Try.ntmps22
      go_wp2
      go_ret2
      exact ⟨rfl, rfl⟩
    have hv : nx 2 i m = (2, false) := by simp [nx, e0, e1]
    rw [hv]
    go_enter Try.func22, Try.ntmps22
    go_wp2
    go_ret2
    exact ⟨rfl, rfl⟩
  by_cases s3 : s = 3
  · subst s3
    by_cases e0 : i = 0
    · subst e0
      go_enter Try.func22, Try.ntmps22
      go_wp2
      go_ret2
      exact ⟨rfl, rfl⟩
    have hv : nx 3 i m = standN i m := by simp [nx, e0]
    rw [hv]
    have HS := Lib.hid (standR i m w)
    generalize standN i m = x at *
    obtain ⟨x1, x2⟩ := x
    go_enter Try.func22, Try.ntmps22
    go_wp2_with fail
    refine HS.out.mono ?_
    rintro e' w5 ⟨rfl, h5⟩
    obtain rfl := h5.symm
    go_wp2
    go_ret2
    exact ⟨rfl, rfl⟩
  by_cases s4 : s = 4
  · subst s4
    by_cases e0 : i = 0
    · subst e0
      go_enter Try.func22, Try.ntmps22
      go_wp2
      go_ret2
      exact ⟨rfl, rfl⟩
    have hv : nx 4 i m = tranN i m := by simp [nx, e0]
    rw [hv]
    have HS := Lib.hid (tranR i m w)
    generalize tranN i m = x at *
    obtain ⟨x1, x2⟩ := x
    go_enter Try.func22, Try.ntmps22
    go_wp2_with fail
    refine HS.out.mono ?_
    rintro e' w5 ⟨rfl, h5⟩
    obtain rfl := h5.symm
    go_wp2
    go_ret2
    exact ⟨rfl, rfl⟩
  by_cases s6 : s = 6
  · subst s6
    by_cases e0 : i = 0
    · subst e0
      go_enter Try.func22, Try.ntmps22
      go_wp2
      go_ret2
      exact ⟨rfl, rfl⟩
    by_cases e1 : i = 12
    · subst e1
      go_enter Try.func22, Try.ntmps22
      go_wp2
      go_ret2
      exact ⟨rfl, rfl⟩
    by_cases e2 : i = 13
    · subst e2
      go_enter Try.func22, Try.ntmps22
      go_wp2
      go_ret2
      exact ⟨rfl, rfl⟩
    have hv : nx 6 i m = (6, false) := by simp [nx, e0, e1, e2]
    rw [hv]
    go_enter Try.func22, Try.ntmps22
    go_wp2
    go_ret2
    exact ⟨rfl, rfl⟩
  have hv : nx s i m = (s, false) := by simp [nx, s0, s1, s2, s3, s4, s6]
  rw [hv]
  go_enter Try.func22, Try.ntmps22
  go_wp2
  go_ret2
  exact ⟨rfl, rfl⟩

def three (M : Mch) : Array Value := #[.int .i64 M.s, .int .i64 M.l, .int .u16 M.a]
def Rm (w : World) (g : Nat) (M : Mch) : Prop := Mem.Blk w g 29 (three M)
theorem Rm.below {w w' g M} (h : Rm w g M) (hb : Below w.heap.size w w') : Rm w' g M := Mem.Blk.below h hb h.lt
theorem Rm.kept {w w' g M} {r : Nat} (h : Rm w g M) (hg : w.grownBy w' (some r)) (h1 : g ≠ r) : Rm w' g M := (hg.block g h.lt (by simpa using h1)).trans h
theorem rm_put {w g M M'} (k : Nat) (v : Value) (h : Rm w g M) (e : (three M).setIfInBounds k v = three M') : Rm (w.setCell ⟨g, k, none⟩ v) g M' := by
  unfold Rm
  rw [← e]; exact Mem.Blk.put h k v

theorem mineR (g : Nat) (M : Mch) (arg : Int) (w : World) (h : Rm w g M) (h0 : 0 ≤ arg) (h1 : arg ≤ 4294967295) :
    Calls Try.prog 27 #[.pointer (some ⟨g, 0, none⟩), .int .u32 arg] w fun e w' => e = .returned (.bool (mineP M arg)) ∧ w' = w := by
  have k : w.cell? ⟨g, 2, none⟩ = some (.int .u16 M.a) := Mem.Blk.cell h 2
  clear h
  unfold mineP
  go_enter Try.func27, Try.ntmps27
  go_wp2
  go_returns
  exact ⟨rfl, rfl⟩

set_option maxRecDepth 100000 in
theorem legalR (g : Nat) (M : Mch) (i arg : Int) (w : World) (h : Rm w g M) (h0 : 0 ≤ arg) (h1 : arg ≤ 4294967295) :
    Calls Try.prog 10 #[.pointer (some ⟨g, 0, none⟩), .int .i64 i, .int .u32 arg] w fun e w' => e = .returned (.bool (nx M.s i (mineP M arg)).2) ∧ Below w.heap.size w w' := by
  have AL : Hid (∀ w', Below w.heap.size w w' → w'.cell? ⟨g, 0, none⟩ = some (.int .i64 M.s)) := Lib.hid fun w' hb => (Rm.below h hb).cell 0
  have DD : Hid (Below w.heap.size w w.drew) := Lib.hid (Below.refl _ _).drew
  have HM := Lib.hid (fun w' (hb : Below w.heap.size w w') => mineR g M arg w' (h.below hb) h0 h1)
  have HN := Lib.hid (fun w' => nextR M.s i (mineP M arg) w')
  clear h
  obtain ⟨x, hx⟩ : ∃ x, x = nx M.s i (mineP M arg) := ⟨_, rfl⟩
  rw [← hx] at HN ⊢
  obtain ⟨x1, x2⟩ := x
  generalize mineP M arg = mm at *
  clear hx
  go_enter Try.func10, Try.ntmps10
  go_wp2_with fail
  refine wp_region_held_drew (S := fun w' => w'.cell? ⟨g, 0, none⟩ = some (.int .i64 M.s)) (by kernel_rfl) (AL.out _ DD.out) (fun hS => ?_)
  refine wpAnyH_take (i := 0) (v := ?_) (by simp only [List.getElem?_toArray, List.getElem?_cons_succ, List.getElem?_cons_zero]; rfl) (by kernel_rfl) (by kernel_rfl) (by kernel_rfl) (by exact fun _ _ _ h => h) (Or.inl ⟨by rfl, ?_⟩) hS ?_
  rotate_left
  · intro w hSw
    go_simp
    try with_reducible rfl
  try simp only [Act.put, List.setIfInBounds_toArray, List.set_cons_zero, List.set_cons_succ]
  refine wpAnyH_take (i := 1) (v := ?_) (by simp only [List.getElem?_toArray, List.getElem?_cons_succ, List.getElem?_cons_zero]; rfl) (by kernel_rfl) (by kernel_rfl) (by kernel_rfl) (by exact fun _ _ _ h => h) (Or.inl ⟨by rfl, ?_⟩) hS ?_
  rotate_left
  · intro w hSw
    go_simp
    try with_reducible rfl
  try simp only [Act.put, List.setIfInBounds_toArray, List.set_cons_zero, List.set_cons_succ]
  refine wpAnyH_take (i := 2) (v := ?_) (by simp only [List.getElem?_toArray, List.getElem?_cons_succ, List.getElem?_cons_zero]; rfl) (by kernel_rfl) (by kernel_rfl) (by kernel_rfl) (by exact fun _ _ _ h => h) (Or.inl ⟨by rfl, ?_⟩) hS ?_
  rotate_left
  · intro w hSw
    go_simp
    try with_reducible rfl
  try simp only [Act.put, List.setIfInBounds_toArray, List.set_cons_zero, List.set_cons_succ]
  refine wpAnyH_take (i := 3) (v := ?_) (by simp only [List.getElem?_toArray, List.getElem?_cons_succ, List.getElem?_cons_zero]; rfl) (by kernel_rfl) (by kernel_rfl) (by kernel_rfl) (by exact fun _ _ _ h => h) (Or.inl ⟨by rfl, ?_⟩) hS ?_
  rotate_left
  · intro w hSw
    go_simp
    try with_reducible rfl
  try simp only [Act.put, List.setIfInBounds_toArray, List.set_cons_zero, List.set_cons_succ]
  refine wpAnyH_take (i := 4) (v := ?_) (by simp only [List.getElem?_toArray, List.getElem?_cons_succ, List.getElem?_cons_zero]; rfl) (by kernel_rfl) (by kernel_rfl) (by kernel_rfl) (by exact fun _ _ _ h => h) (Or.inl ⟨by rfl, ?_⟩) hS ?_
  rotate_left
  · intro w hSw
    go_simp
    try with_reducible rfl
  try simp only [Act.put, List.setIfInBounds_toArray, List.set_cons_zero, List.set_cons_succ]
  refine wpAnyH_take (i := 5) (v := ?_) (by simp only [List.getElem?_toArray, List.getElem?_cons_succ, List.getElem?_cons_zero]; rfl) (by kernel_rfl) (by kernel_rfl) (by kernel_rfl) (by exact fun _ _ _ h => h) (Or.inl ⟨by rfl, ?_⟩) hS ?_
  rotate_left
  · intro w hSw
    go_simp
    try with_reducible rfl
  try simp only [Act.put, List.setIfInBounds_toArray, List.set_cons_zero, List.set_cons_succ]
  refine wpAnyH_take (i := 6) (v := ?_) (by simp only [List.getElem?_toArray, List.getElem?_cons_succ, List.getElem?_cons_zero]; rfl) (by kernel_rfl) (by kernel_rfl) (by kernel_rfl) (by exact fun _ _ _ h => h) (Or.inl ⟨by rfl, ?_⟩) hS ?_
  rotate_left
  · intro w hSw
    go_simp
    try with_reducible rfl
  try simp only [Act.put, List.setIfInBounds_toArray, List.set_cons_zero, List.set_cons_succ]
  refine wpAnyH_ready (rs := [7]) (by kernel_rfl) (by simp) ?_
  refine AllReadyH.cons (by simp only [List.getElem?_toArray, List.getElem?_cons_succ, List.getElem?_cons_zero]; rfl) (fun K hK => ?_) AllReadyH.nil
  go_simp
  go_at_call 27
  refine (HM.out _ DD.out).mono ?_
  rintro e' w5 ⟨rfl, h5⟩
  obtain rfl := h5.symm
  refine hK.out _ _ (hS) (fun hS => ?_)
  clear hK K
  try simp only [Act.put, List.setIfInBounds_toArray, List.set_cons_zero, List.set_cons_succ]
  refine wpAnyH_ready (rs := [8]) (by kernel_rfl) (by simp) ?_
  refine AllReadyH.cons (by simp only [List.getElem?_toArray, List.getElem?_cons_succ, List.getElem?_cons_zero]; rfl) (fun K hK => ?_) AllReadyH.nil
  go_simp
  go_at_call 22
  refine (HN.out _).mono ?_
  rintro e' w6 ⟨rfl, h6⟩
  obtain rfl := h6.symm
  refine hK.out _ _ (hS) (fun hS => ?_)
  clear hK K
  try simp only [Act.put, List.setIfInBounds_toArray, List.set_cons_zero, List.set_cons_succ]
  refine wpAnyH_take (i := 9) (v := ?_) (by simp only [List.getElem?_toArray, List.getElem?_cons_succ, List.getElem?_cons_zero]; rfl) (by kernel_rfl) (by kernel_rfl) (by kernel_rfl) (by exact fun _ _ _ h => h) (Or.inl ⟨by rfl, ?_⟩) hS ?_
  rotate_left
  · intro w hSw
    go_simp
    try with_reducible rfl
  try simp only [Act.put, List.setIfInBounds_toArray, List.set_cons_zero, List.set_cons_succ]
  refine wpAnyH_take (i := 10) (v := ?_) (by simp only [List.getElem?_toArray, List.getElem?_cons_succ, List.getElem?_cons_zero]; rfl) (by kernel_rfl) (by kernel_rfl) (by kernel_rfl) (by exact fun _ _ _ h => h) (Or.inl ⟨by rfl, ?_⟩) hS ?_
  rotate_left
  · intro w hSw
    go_simp
    try with_reducible rfl
  try simp only [Act.put, List.setIfInBounds_toArray, List.set_cons_zero, List.set_cons_succ]
  refine wpAnyH_take (i := 11) (v := ?_) (by simp only [List.getElem?_toArray, List.getElem?_cons_succ, List.getElem?_cons_zero]; rfl) (by kernel_rfl) (by kernel_rfl) (by kernel_rfl) (by exact fun _ _ _ h => h) (Or.inl ⟨by rfl, ?_⟩) hS ?_
  rotate_left
  · intro w hSw
    go_simp
    try with_reducible rfl
  try simp only [Act.put, List.setIfInBounds_toArray, List.set_cons_zero, List.set_cons_succ]
  refine wpAnyH_take (i := 12) (v := ?_) (by simp only [List.getElem?_toArray, List.getElem?_cons_succ, List.getElem?_cons_zero]; rfl) (by kernel_rfl) (by kernel_rfl) (by kernel_rfl) (by exact fun _ _ _ h => h) (Or.inl ⟨by rfl, ?_⟩) hS ?_
  rotate_left
  · intro w hSw
    go_simp
    try with_reducible rfl
  try simp only [Act.put, List.setIfInBounds_toArray, List.set_cons_zero, List.set_cons_succ]
  refine wpAnyH_take (i := 13) (v := ?_) (by simp only [List.getElem?_toArray, List.getElem?_cons_succ, List.getElem?_cons_zero]; rfl) (by kernel_rfl) (by kernel_rfl) (by kernel_rfl) (by exact fun _ _ _ h => h) (Or.inl ⟨by rfl, ?_⟩) hS ?_
  rotate_left
  · intro w hSw
    go_simp
    try with_reducible rfl
  try simp only [Act.put, List.setIfInBounds_toArray, List.set_cons_zero, List.set_cons_succ]
  refine wpAnyH_done (by kernel_rfl) ?_ _
  go_wp2
  go_ret
  exact ⟨rfl, DD.out⟩

/-- Nothing is waited for but where blocks are. -/
def Idle (M : Mch) : Prop := M.s ≠ 6 → M.l = 0

set_option maxRecDepth 100000 in
theorem goR (g : Nat) (M : Mch) (i arg : Int) (w : World) (h : Rm w g M) (h0 : 0 ≤ arg) (h1 : arg ≤ 4294967295) (hI : Idle M) :
    Calls Try.prog 12 #[.pointer (some ⟨g, 0, none⟩), .int .i64 i, .int .u32 arg] w fun e w' => e = .returned (.tuple #[.bool (goA M i arg), .bool (nx M.s i (mineP M arg)).2]) ∧ Rm w' g (goM M i arg) ∧ w.grownBy w' (some g) := by
  have AL : Hid (∀ w', Below w.heap.size w w' → w'.cell? ⟨g, 0, none⟩ = some (.int .i64 M.s)) := Lib.hid fun w' hb => (Rm.below h hb).cell 0
  have DD : Hid (Below w.heap.size w w.drew) := Lib.hid (Below.refl _ _).drew
  have HM := Lib.hid (fun w' (hb : Below w.heap.size w w') => mineR g M arg w' (h.below hb) h0 h1)
  have HN := Lib.hid (fun w' => nextR M.s i (mineP M arg) w')
  have R1 : Rm w.drew g M := h.below DD.out
  clear h
  unfold Idle at hI
  unfold goA goM
  obtain ⟨x, hx⟩ : ∃ x, x = nx M.s i (mineP M arg) := ⟨_, rfl⟩
  rw [← hx] at HN ⊢
  obtain ⟨x1, x2⟩ := x
  generalize mineP M arg = mm at *
  clear hx
  replace hI := Lib.hid hI
  have G1 : Hid (w.grownBy w.drew (some g)) := Lib.hid (below_grown DD.out _)
  have HM1 := Lib.hid (HM.out _ DD.out)
  go_enter Try.func12, Try.ntmps12
  go_wp2_with fail
  refine wp_region_held_drew (S := fun w' => w'.cell? ⟨g, 0, none⟩ = some (.int .i64 M.s)) (by kernel_rfl) (AL.out _ DD.out) (fun hS => ?_)
  refine wpAnyH_take (i := 0) (v := ?_) (by simp only [List.getElem?_toArray, List.getElem?_cons_succ, List.getElem?_cons_zero]; rfl) (by kernel_rfl) (by kernel_rfl) (by kernel_rfl) (by exact fun _ _ _ h => h) (Or.inl ⟨by rfl, ?_⟩) hS ?_
  rotate_left
  · intro w hSw
    go_simp
    try with_reducible rfl
  try simp only [Act.put, List.setIfInBounds_toArray, List.set_cons_zero, List.set_cons_succ]
  refine wpAnyH_take (i := 1) (v := ?_) (by simp only [List.getElem?_toArray, List.getElem?_cons_succ, List.getElem?_cons_zero]; rfl) (by kernel_rfl) (by kernel_rfl) (by kernel_rfl) (by exact fun _ _ _ h => h) (Or.inl ⟨by rfl, ?_⟩) hS ?_
  rotate_left
  · intro w hSw
    go_simp
    try with_reducible rfl
  try simp only [Act.put, List.setIfInBounds_toArray, List.set_cons_zero, List.set_cons_succ]
  refine wpAnyH_take (i := 2) (v := ?_) (by simp only [List.getElem?_toArray, List.getElem?_cons_succ, List.getElem?_cons_zero]; rfl) (by kernel_rfl) (by kernel_rfl) (by kernel_rfl) (by exact fun _ _ _ h => h) (Or.inl ⟨by rfl, ?_⟩) hS ?_
  rotate_left
  · intro w hSw
    go_simp
    try with_reducible rfl
  try simp only [Act.put, List.setIfInBounds_toArray, List.set_cons_zero, List.set_cons_succ]
  refine wpAnyH_take (i := 3) (v := ?_) (by simp only [List.getElem?_toArray, List.getElem?_cons_succ, List.getElem?_cons_zero]; rfl) (by kernel_rfl) (by kernel_rfl) (by kernel_rfl) (by exact fun _ _ _ h => h) (Or.inl ⟨by rfl, ?_⟩) hS ?_
  rotate_left
  · intro w hSw
    go_simp
    try with_reducible rfl
  try simp only [Act.put, List.setIfInBounds_toArray, List.set_cons_zero, List.set_cons_succ]
  refine wpAnyH_take (i := 4) (v := ?_) (by simp only [List.getElem?_toArray, List.getElem?_cons_succ, List.getElem?_cons_zero]; rfl) (by kernel_rfl) (by kernel_rfl) (by kernel_rfl) (by exact fun _ _ _ h => h) (Or.inl ⟨by rfl, ?_⟩) hS ?_
  rotate_left
  · intro w hSw
    go_simp
    try with_reducible rfl
  try simp only [Act.put, List.setIfInBounds_toArray, List.set_cons_zero, List.set_cons_succ]
  refine wpAnyH_take (i := 5) (v := ?_) (by simp only [List.getElem?_toArray, List.getElem?_cons_succ, List.getElem?_cons_zero]; rfl) (by kernel_rfl) (by kernel_rfl) (by kernel_rfl) (by exact fun _ _ _ h => h) (Or.inl ⟨by rfl, ?_⟩) hS ?_
  rotate_left
  · intro w hSw
    go_simp
    try with_reducible rfl
  try simp only [Act.put, List.setIfInBounds_toArray, List.set_cons_zero, List.set_cons_succ]
  refine wpAnyH_take (i := 6) (v := ?_) (by simp only [List.getElem?_toArray, List.getElem?_cons_succ, List.getElem?_cons_zero]; rfl) (by kernel_rfl) (by kernel_rfl) (by kernel_rfl) (by exact fun _ _ _ h => h) (Or.inl ⟨by rfl, ?_⟩) hS ?_
  rotate_left
  · intro w hSw
    go_simp
    try with_reducible rfl
  try simp only [Act.put, List.setIfInBounds_toArray, List.set_cons_zero, List.set_cons_succ]
  refine wpAnyH_ready (rs := [7]) (by kernel_rfl) (by simp) ?_
  refine AllReadyH.cons (by simp only [List.getElem?_toArray, List.getElem?_cons_succ, List.getElem?_cons_zero]; rfl) (fun K hK => ?_) AllReadyH.nil
  go_simp
  go_at_call 27
  refine (HM1.out).mono ?_
  rintro e' w5 ⟨rfl, h5⟩
  obtain rfl := h5.symm
  refine hK.out _ _ (hS) (fun hS => ?_)
  clear hK K
  try simp only [Act.put, List.setIfInBounds_toArray, List.set_cons_zero, List.set_cons_succ]
  refine wpAnyH_ready (rs := [8]) (by kernel_rfl) (by simp) ?_
  refine AllReadyH.cons (by simp only [List.getElem?_toArray, List.getElem?_cons_succ, List.getElem?_cons_zero]; rfl) (fun K hK => ?_) AllReadyH.nil
  go_simp
  go_at_call 22
  refine (HN.out _).mono ?_
  rintro e' w6 ⟨rfl, h6⟩
  obtain rfl := h6.symm
  refine hK.out _ _ (hS) (fun hS => ?_)
  clear hK K
  try simp only [Act.put, List.setIfInBounds_toArray, List.set_cons_zero, List.set_cons_succ]
  refine wpAnyH_take (i := 9) (v := ?_) (by simp only [List.getElem?_toArray, List.getElem?_cons_succ, List.getElem?_cons_zero]; rfl) (by kernel_rfl) (by kernel_rfl) (by kernel_rfl) (by exact fun _ _ _ h => h) (Or.inl ⟨by rfl, ?_⟩) hS ?_
  rotate_left
  · intro w hSw
    go_simp
    try with_reducible rfl
  try simp only [Act.put, List.setIfInBounds_toArray, List.set_cons_zero, List.set_cons_succ]
  refine wpAnyH_take (i := 10) (v := ?_) (by simp only [List.getElem?_toArray, List.getElem?_cons_succ, List.getElem?_cons_zero]; rfl) (by kernel_rfl) (by kernel_rfl) (by kernel_rfl) (by exact fun _ _ _ h => h) (Or.inl ⟨by rfl, ?_⟩) hS ?_
  rotate_left
  · intro w hSw
    go_simp
    try with_reducible rfl
  try simp only [Act.put, List.setIfInBounds_toArray, List.set_cons_zero, List.set_cons_succ]
  refine wpAnyH_take (i := 11) (v := ?_) (by simp only [List.getElem?_toArray, List.getElem?_cons_succ, List.getElem?_cons_zero]; rfl) (by kernel_rfl) (by kernel_rfl) (by kernel_rfl) (by exact fun _ _ _ h => h) (Or.inl ⟨by rfl, ?_⟩) hS ?_
  rotate_left
  · intro w hSw
    go_simp
    try with_reducible rfl
  try simp only [Act.put, List.setIfInBounds_toArray, List.set_cons_zero, List.set_cons_succ]
  refine wpAnyH_take (i := 12) (v := ?_) (by simp only [List.getElem?_toArray, List.getElem?_cons_succ, List.getElem?_cons_zero]; rfl) (by kernel_rfl) (by kernel_rfl) (by kernel_rfl) (by exact fun _ _ _ h => h) (Or.inl ⟨by rfl, ?_⟩) hS ?_
  rotate_left
  · intro w hSw
    go_simp
    try with_reducible rfl
  try simp only [Act.put, List.setIfInBounds_toArray, List.set_cons_zero, List.set_cons_succ]
  refine wpAnyH_take (i := 13) (v := ?_) (by simp only [List.getElem?_toArray, List.getElem?_cons_succ, List.getElem?_cons_zero]; rfl) (by kernel_rfl) (by kernel_rfl) (by kernel_rfl) (by exact fun _ _ _ h => h) (Or.inl ⟨by rfl, ?_⟩) hS ?_
  rotate_left
  · intro w hSw
    go_simp
    try with_reducible rfl
  try simp only [Act.put, List.setIfInBounds_toArray, List.set_cons_zero, List.set_cons_succ]
  refine wpAnyH_done (by kernel_rfl) ?_ _
  have k0 : w.drew.cell? ⟨g, 0, none⟩ = some (.int .i64 M.s) := Mem.Blk.cell R1 0
  have k1 : w.drew.cell? ⟨g, 1, none⟩ = some (.int .i64 M.l) := Mem.Blk.cell R1 1
  have k2 : w.drew.cell? ⟨g, 2, none⟩ = some (.int .u16 M.a) := Mem.Blk.cell R1 2
  have z0 := Mem.Blk.frozen R1 0
  have z1 := Mem.Blk.frozen R1 1
  have z2 := Mem.Blk.frozen R1 2
  replace R1 := Lib.hid R1
  clear AL HM HN
  generalize w.drew = wd at *
  cases x2 with
  | false =>
    go_wp2
    go_ret2
    exact ⟨rfl, by simpa using R1.out, G1.out⟩
  | true =>
    have FIN : Hid (∀ w', Rm w' g ⟨x1, if i = 3 then arg / 65536 else M.a, if x1 = M.s then M.l else if x1 = 6 then 1 else 0⟩ → Rm w' g (if true = true then enterP ⟨M.s, if i = 3 then arg / 65536 else M.a, M.l⟩ x1 else M)) := Lib.hid fun w' h => by
      rw [if_pos rfl]
      unfold enterP
      have e : (if x1 = M.s then M.l else if x1 = 6 then 1 else 0) = (if x1 = 6 then (if M.s = 6 then M.l else 1) else 0) := by
        have := hI.out
        by_cases a : x1 = M.s
        · by_cases b : x1 = 6
          · have c : M.s = 6 := by omega
            simp [a, c]
          · have c : ¬ M.s = 6 := by omega
            simp [a, c, this c]
        · by_cases b : x1 = 6
          · have c : ¬ M.s = 6 := by omega
            simp [b, c]
            intro e; omega
          · simp [a, b]
      rw [← e]
      exact h
    by_cases i0 : i = 0
    · subst i0
      by_cases hx : x1 = M.s
      · subst hx
        go_wp2
        go_ret2
        exact ⟨by simp, FIN.out _ (by simpa using (rm_put (M' := ⟨M.s, M.a, M.l⟩) 0 _ R1.out rfl)), (G1.out.trans (grown_set _ _ _ _))⟩
      by_cases hq6 : x1 = 6
      · subst hq6
        have hs6 : ¬ (6 : Int) = M.s := hx
        go_wp2
        go_ret2
        exact ⟨by simp, FIN.out _ (by simpa [hx] using (rm_put (M' := ⟨6, M.a, 1⟩) 0 _ (rm_put (M' := ⟨M.s, M.a, 1⟩) 1 _ (rm_put (M' := ⟨M.s, M.a, 0⟩) 1 _ R1.out rfl) rfl) rfl)), (((G1.out.trans (grown_set _ _ _ _)).trans (grown_set _ _ _ _)).trans (grown_set _ _ _ _))⟩
      go_wp2
      go_ret2
      exact ⟨by simp, FIN.out _ (by simpa [hx, hq6] using (rm_put (M' := ⟨x1, M.a, 0⟩) 0 _ (rm_put (M' := ⟨M.s, M.a, 0⟩) 1 _ R1.out rfl) rfl)), ((G1.out.trans (grown_set _ _ _ _)).trans (grown_set _ _ _ _))⟩
    by_cases i3 : i = 3
    · subst i3
      by_cases hx : x1 = M.s
      · subst hx
        go_wp2
        go_ret2
        exact ⟨by simp , FIN.out _ (by simpa using (rm_put (M' := ⟨M.s, arg / 65536, M.l⟩) 2 _ (rm_put (M' := ⟨M.s, M.a, M.l⟩) 0 _ R1.out rfl) rfl)), ((G1.out.trans (grown_set _ _ _ _)).trans (grown_set _ _ _ _))⟩
      by_cases hq6 : x1 = 6
      · subst hq6
        have hs6 : ¬ (6 : Int) = M.s := hx
        go_wp2
        go_ret2
        exact ⟨by simp , FIN.out _ (by simpa [hx] using (rm_put (M' := ⟨6, arg / 65536, 1⟩) 2 _ (rm_put (M' := ⟨6, M.a, 1⟩) 0 _ (rm_put (M' := ⟨M.s, M.a, 1⟩) 1 _ (rm_put (M' := ⟨M.s, M.a, 0⟩) 1 _ R1.out rfl) rfl) rfl) rfl)), ((((G1.out.trans (grown_set _ _ _ _)).trans (grown_set _ _ _ _)).trans (grown_set _ _ _ _)).trans (grown_set _ _ _ _))⟩
      go_wp2
      go_ret2
      exact ⟨by simp , FIN.out _ (by simpa [hx, hq6] using (rm_put (M' := ⟨x1, arg / 65536, 0⟩) 2 _ (rm_put (M' := ⟨x1, M.a, 0⟩) 0 _ (rm_put (M' := ⟨M.s, M.a, 0⟩) 1 _ R1.out rfl) rfl) rfl)), (((G1.out.trans (grown_set _ _ _ _)).trans (grown_set _ _ _ _)).trans (grown_set _ _ _ _))⟩
    by_cases i7 : i = 7
    · subst i7
      by_cases hx : x1 = M.s
      · subst hx
        go_wp2_with fail
        refine HM1.out.mono ?_
        rintro e' w5 ⟨rfl, h5⟩
        obtain rfl := h5.symm
        go_wp2
        go_ret2
        exact ⟨by simp, FIN.out _ (by simpa using (rm_put (M' := ⟨M.s, M.a, M.l⟩) 0 _ R1.out rfl)), (G1.out.trans (grown_set _ _ _ _))⟩
      by_cases hq6 : x1 = 6
      · subst hq6
        have hs6 : ¬ (6 : Int) = M.s := hx
        go_wp2_with fail
        refine HM1.out.mono ?_
        rintro e' w5 ⟨rfl, h5⟩
        obtain rfl := h5.symm
        go_wp2
        go_ret2
        exact ⟨by simp, FIN.out _ (by simpa [hx] using (rm_put (M' := ⟨6, M.a, 1⟩) 0 _ (rm_put (M' := ⟨M.s, M.a, 1⟩) 1 _ (rm_put (M' := ⟨M.s, M.a, 0⟩) 1 _ R1.out rfl) rfl) rfl)), (((G1.out.trans (grown_set _ _ _ _)).trans (grown_set _ _ _ _)).trans (grown_set _ _ _ _))⟩
      go_wp2_with fail
      refine HM1.out.mono ?_
      rintro e' w5 ⟨rfl, h5⟩
      obtain rfl := h5.symm
      go_wp2
      go_ret2
      exact ⟨by simp, FIN.out _ (by simpa [hx, hq6] using (rm_put (M' := ⟨x1, M.a, 0⟩) 0 _ (rm_put (M' := ⟨M.s, M.a, 0⟩) 1 _ R1.out rfl) rfl)), ((G1.out.trans (grown_set _ _ _ _)).trans (grown_set _ _ _ _))⟩
    by_cases hx : x1 = M.s
    · subst hx
      go_wp2
      go_ret2
      exact ⟨by simp [i0, i7], by simpa [i3] using FIN.out _ (by simpa [i3] using (rm_put (M' := ⟨M.s, M.a, M.l⟩) 0 _ R1.out rfl)), (G1.out.trans (grown_set _ _ _ _))⟩
    by_cases hq6 : x1 = 6
    · subst hq6
      have hs6 : ¬ (6 : Int) = M.s := hx
      go_wp2
      go_ret2
      exact ⟨by simp [i0, i7], by simpa [i3] using FIN.out _ (by simpa [hx, i3] using (rm_put (M' := ⟨6, M.a, 1⟩) 0 _ (rm_put (M' := ⟨M.s, M.a, 1⟩) 1 _ (rm_put (M' := ⟨M.s, M.a, 0⟩) 1 _ R1.out rfl) rfl) rfl)), (((G1.out.trans (grown_set _ _ _ _)).trans (grown_set _ _ _ _)).trans (grown_set _ _ _ _))⟩
    go_wp2
    go_ret2
    exact ⟨by simp [i0, i7], by simpa [i3] using FIN.out _ (by simpa [hx, hq6, i3] using (rm_put (M' := ⟨x1, M.a, 0⟩) 0 _ (rm_put (M' := ⟨M.s, M.a, 0⟩) 1 _ R1.out rfl) rfl)), ((G1.out.trans (grown_set _ _ _ _)).trans (grown_set _ _ _ _))⟩
end Go.Proofs.Ytddmodiogjnhmaa.PhR
