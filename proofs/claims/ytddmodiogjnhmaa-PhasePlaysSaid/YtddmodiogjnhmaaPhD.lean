/- The machine of states: what it tells. -/
import Derived.Test.YtddmodiogjnhmaaPhC
import Derived.Test.YtddmodiogjnhmaaReg
namespace Go.Proofs.Ytddmodiogjnhmaa.PhD
open Go.ChangeShapes Go.WideShapes Go.ChangeAt Go.RowKit
open PhM PhA PhB PhC
set_option linter.unusedVariables false
set_option maxHeartbeats 1000000

/-- A machine. -/
structure Mch where
  s : Int
  a : Int
  l : Int
def four (b : Nat) (M : Mch) : Array Value := #[.map (some b), .int .i64 M.s, .int .u16 M.a, .int .i64 M.l]
def Mach (w : World) (g b : Nat) (M : Mch) : Prop := Mem.Blk w g 51 (four b M) ∧ Tab w b L4 ∧ b ≠ g
theorem Mach.below {w w' g b M} (h : Mach w g b M) (hb : Below w.heap.size w w') : Mach w' g b M := ⟨Mem.Blk.below h.1 hb h.1.lt, h.2.1.below hb, h.2.2⟩
theorem Mach.below' {w w' g b M} {n : Nat} (h : Mach w g b M) (hb : Below n w w') (hg : g < n) (hbn : b < n) : Mach w' g b M := ⟨Mem.Blk.below h.1 hb hg, h.2.1.below' hb hbn, h.2.2⟩
theorem Mach.kept {w w' g b M} {r : Nat} (h : Mach w g b M) (hg : w.grownBy w' (some r)) (h1 : g ≠ r) (h2 : b ≠ r) : Mach w' g b M :=
  ⟨(hg.block g h.1.lt (by simpa using h1)).trans h.1, h.2.1.kept hg (by simpa using h2), h.2.2⟩
theorem below_grown {w w' : World} (h : Below w.heap.size w w') (r : Option Nat) : w.grownBy w' r := ⟨h.os, h.tape, h.output, h.size, fun k hk _ => h.block k hk⟩
def mineP (M : Mch) (arg : Int) : Bool := arg / 65536 == M.a

theorem address (arg : Int) (w : World) (h0 : 0 ≤ arg) (h1 : arg ≤ 4294967295) : Calls Try.prog 28 #[.int .u32 arg] w fun e w' => e = .returned (.int .u16 (arg / 65536)) ∧ w' = w := by
  go_enter Try.func28, Try.ntmps28
  go_wp2
  go_returns
  exact ⟨rfl, rfl⟩

theorem nextW (b : Nat) (s i : Int) (m : Bool) (w : World) (hT : Tab w b L4) (hs : W s) (hi : W i) :
    Calls Try.prog 25 #[.map (some b), .int .i64 s, .int .i64 i, .bool m] w fun e w' => e = .returned (.tuple #[.int .i64 (nx s i m).1, .bool (nx s i m).2]) ∧ Below w.heap.size w w' := by
  rw [← tell_nx]
  unfold tellN
  replace hT := Lib.hid hT
  cases ho : lk L4 (s, i, m) with
  | none =>
    replace ho := Lib.hid ho
    go_enter Try.func25, Try.ntmps25
    go_wp2_with (first
      | (at_lookup
         refine wpList_get rfl (.tmp 13) (.tmp 17) rfl b L4 rfl hT.out s i m rfl hs hi ?_
         rw [ho.out])
      | fail)
    go_ret2
    exact ⟨rfl, (Below.refl _ w).alloc (Nat.le_refl _) _⟩
  | some x =>
    replace ho := Lib.hid ho
    go_enter Try.func25, Try.ntmps25
    go_wp2_with (first
      | (at_lookup
         refine wpList_get rfl (.tmp 13) (.tmp 17) rfl b L4 rfl hT.out s i m rfl hs hi ?_
         rw [ho.out])
      | fail)
    go_ret2
    exact ⟨rfl, (Below.refl _ w).alloc (Nat.le_refl _) _⟩

set_option maxRecDepth 100000 in
theorem mineW (g b : Nat) (M : Mch) (arg : Int) (w : World) (h : Mach w g b M) (h0 : 0 ≤ arg) (h1 : arg ≤ 4294967295) :
    Calls Try.prog 26 #[.pointer (some ⟨g, 0, none⟩), .int .u32 arg] w fun e w' => e = .returned (.bool (mineP M arg)) ∧ Below w.heap.size w w' := by
  have AL : Hid (∀ w', Below w.heap.size w w' → w'.cell? ⟨g, 2, none⟩ = some (.int .u16 M.a)) := Lib.hid fun w' hb => (Mach.below h hb).1.cell 2
  have DD : Hid (Below w.heap.size w w.drew) := Lib.hid (Below.refl _ _).drew
  have HA := Lib.hid (fun w => address arg w h0 h1)
  clear h
  unfold mineP
  go_enter Try.func26, Try.ntmps26
  go_wp2_with fail
  refine wp_region_held_drew (S := fun w' => w'.cell? ⟨g, 2, none⟩ = some (.int .u16 M.a)) (by kernel_rfl) (AL.out _ DD.out) (fun hS => ?_)
  refine wpAnyH_take (i := 0) (v := ?_) (by simp only [List.getElem?_toArray, List.getElem?_cons_succ, List.getElem?_cons_zero]; rfl) (by kernel_rfl) (by kernel_rfl) (by kernel_rfl) (by exact fun _ _ _ h => h) (Or.inl ⟨by rfl, ?_⟩) hS ?_
  rotate_left
  · intro w hSw
    go_simp
    try with_reducible rfl
  try simp only [Act.put, List.setIfInBounds_toArray, List.set_cons_zero, List.set_cons_succ]
  refine wpAnyH_take (i := 2) (v := ?_) (by simp only [List.getElem?_toArray, List.getElem?_cons_succ, List.getElem?_cons_zero]; rfl) (by kernel_rfl) (by kernel_rfl) (by kernel_rfl) (by exact fun _ _ _ h => h) (Or.inl ⟨by rfl, ?_⟩) hS ?_
  rotate_left
  · intro w hSw
    go_simp
    try with_reducible rfl
  try simp only [Act.put, List.setIfInBounds_toArray, List.set_cons_zero, List.set_cons_succ]
  refine wpAnyH_take (i := 3) (v := ?_) (by simp only [List.getElem?_toArray, List.getElem?_cons_succ, List.getElem?_cons_zero]; rfl) (by kernel_rfl) (by kernel_rfl) (by kernel_rfl) (by exact fun _ _ _ h => h) (Or.inl ⟨by rfl, ?_⟩) hS ?_
  rotate_left
  · intro w hSw
    go_simp
    try with_reducible rfl
  try simp only [Act.put, List.setIfInBounds_toArray, List.set_cons_zero, List.set_cons_succ]
  refine wpAnyH_take (i := 4) (v := ?_) (by simp only [List.getElem?_toArray, List.getElem?_cons_succ, List.getElem?_cons_zero]; rfl) (by kernel_rfl) (by kernel_rfl) (by kernel_rfl) (by exact fun _ _ _ h => h) (Or.inl ⟨by rfl, ?_⟩) hS ?_
  rotate_left
  · intro w hSw
    go_simp
    try with_reducible rfl
  try simp only [Act.put, List.setIfInBounds_toArray, List.set_cons_zero, List.set_cons_succ]
  refine wpAnyH_take (i := 5) (v := ?_) (by simp only [List.getElem?_toArray, List.getElem?_cons_succ, List.getElem?_cons_zero]; rfl) (by kernel_rfl) (by kernel_rfl) (by kernel_rfl) (by exact fun _ _ _ h => h) (Or.inl ⟨by rfl, ?_⟩) hS ?_
  rotate_left
  · intro w hSw
    go_simp
    try with_reducible rfl
  try simp only [Act.put, List.setIfInBounds_toArray, List.set_cons_zero, List.set_cons_succ]
  refine wpAnyH_ready (rs := [1]) (by kernel_rfl) (by simp) ?_
  refine AllReadyH.cons (by simp only [List.getElem?_toArray, List.getElem?_cons_succ, List.getElem?_cons_zero]; rfl) (fun K hK => ?_) AllReadyH.nil
  go_simp
  go_at_call 28
  refine (HA.out _).mono ?_
  rintro e' w5 ⟨rfl, h5⟩
  obtain rfl := h5.symm
  refine hK.out _ _ (hS) (fun hS => ?_)
  clear hK K
  try simp only [Act.put, List.setIfInBounds_toArray, List.set_cons_zero, List.set_cons_succ]
  refine wpAnyH_take (i := 6) (v := ?_) (by simp only [List.getElem?_toArray, List.getElem?_cons_succ, List.getElem?_cons_zero]; rfl) (by kernel_rfl) (by kernel_rfl) (by kernel_rfl) (by exact fun _ _ _ h => h) (Or.inl ⟨by rfl, ?_⟩) hS ?_
  rotate_left
  · intro w hSw
    go_simp
    try with_reducible rfl
  try simp only [Act.put, List.setIfInBounds_toArray, List.set_cons_zero, List.set_cons_succ]
  refine wpAnyH_take (i := 7) (v := ?_) (by simp only [List.getElem?_toArray, List.getElem?_cons_succ, List.getElem?_cons_zero]; rfl) (by kernel_rfl) (by kernel_rfl) (by kernel_rfl) (by exact fun _ _ _ h => h) (Or.inl ⟨by rfl, ?_⟩) hS ?_
  rotate_left
  · intro w hSw
    go_simp
    try with_reducible rfl
  try simp only [Act.put, List.setIfInBounds_toArray, List.set_cons_zero, List.set_cons_succ]
  refine wpAnyH_done (by kernel_rfl) ?_ _
  go_wp2
  go_ret
  exact ⟨rfl, DD.out⟩

set_option maxRecDepth 100000 in
theorem legalW (g b : Nat) (M : Mch) (i arg : Int) (w : World) (h : Mach w g b M) (h0 : 0 ≤ arg) (h1 : arg ≤ 4294967295) (hs : W M.s) (hi : W i) :
    Calls Try.prog 9 #[.pointer (some ⟨g, 0, none⟩), .int .i64 i, .int .u32 arg] w fun e w' => e = .returned (.bool (nx M.s i (mineP M arg)).2) ∧ Below w.heap.size w w' := by
  have AL : Hid (∀ w', Below w.heap.size w w' → w'.cell? ⟨g, 0, none⟩ = some (.map (some b)) ∧ w'.cell? ⟨g, 1, none⟩ = some (.int .i64 M.s)) := Lib.hid fun w' hb => ⟨(Mach.below h hb).1.cell 0, (Mach.below h hb).1.cell 1⟩
  have DD : Hid (Below w.heap.size w w.drew) := Lib.hid (Below.refl _ _).drew
  have HM := Lib.hid (fun w' (hb : Below w.heap.size w w') => mineW g b M arg w' (h.below hb) h0 h1)
  have HN := Lib.hid (fun w' (hb : Below w.heap.size w w') => nextW b M.s i (mineP M arg) w' (h.below hb).2.1 hs hi)
  clear h
  obtain ⟨x, hx⟩ : ∃ x, x = nx M.s i (mineP M arg) := ⟨_, rfl⟩
  rw [← hx] at HN ⊢
  obtain ⟨x1, x2⟩ := x
  generalize mineP M arg = mm at *
  clear hx
  go_enter Try.func9, Try.ntmps9
  go_wp2_with fail
  refine wp_region_held_drew (S := fun w' => w'.cell? ⟨g, 0, none⟩ = some (.map (some b)) ∧ w'.cell? ⟨g, 1, none⟩ = some (.int .i64 M.s)) (by kernel_rfl) (AL.out _ DD.out) (fun hS => ?_)
  refine wpAnyH_take (i := 0) (v := ?_) (by simp only [List.getElem?_toArray, List.getElem?_cons_succ, List.getElem?_cons_zero]; rfl) (by kernel_rfl) (by kernel_rfl) (by kernel_rfl) (by exact fun _ _ _ h => h) (Or.inl ⟨by rfl, ?_⟩) hS ?_
  rotate_left
  · intro w hSw
    go_simp
    try with_reducible rfl
  try simp only [Act.put, List.setIfInBounds_toArray, List.set_cons_zero, List.set_cons_succ]
  refine wpAnyH_take (i := 1) (v := ?_) (by simp only [List.getElem?_toArray, List.getElem?_cons_succ, List.getElem?_cons_zero]; rfl) (by kernel_rfl) (by kernel_rfl) (by kernel_rfl) (by exact fun _ _ _ h => h) (Or.inl ⟨by rfl, ?_⟩) hS ?_
  rotate_left
  · intro w hSw
    go_simp
    try with_reducible rfl
  try simp only [Act.put, List.setIfInBounds_toArray, List.set_cons_zero, List.set_cons_succ]
  refine wpAnyH_take (i := 2) (v := ?_) (by simp only [List.getElem?_toArray, List.getElem?_cons_succ, List.getElem?_cons_zero]; rfl) (by kernel_rfl) (by kernel_rfl) (by kernel_rfl) (by exact fun _ _ _ h => h) (Or.inl ⟨by rfl, ?_⟩) hS ?_
  rotate_left
  · intro w hSw
    go_simp
    try with_reducible rfl
  try simp only [Act.put, List.setIfInBounds_toArray, List.set_cons_zero, List.set_cons_succ]
  refine wpAnyH_take (i := 3) (v := ?_) (by simp only [List.getElem?_toArray, List.getElem?_cons_succ, List.getElem?_cons_zero]; rfl) (by kernel_rfl) (by kernel_rfl) (by kernel_rfl) (by exact fun _ _ _ h => h) (Or.inl ⟨by rfl, ?_⟩) hS ?_
  rotate_left
  · intro w hSw
    go_simp
    try with_reducible rfl
  try simp only [Act.put, List.setIfInBounds_toArray, List.set_cons_zero, List.set_cons_succ]
  refine wpAnyH_take (i := 4) (v := ?_) (by simp only [List.getElem?_toArray, List.getElem?_cons_succ, List.getElem?_cons_zero]; rfl) (by kernel_rfl) (by kernel_rfl) (by kernel_rfl) (by exact fun _ _ _ h => h) (Or.inl ⟨by rfl, ?_⟩) hS ?_
  rotate_left
  · intro w hSw
    go_simp
    try with_reducible rfl
  try simp only [Act.put, List.setIfInBounds_toArray, List.set_cons_zero, List.set_cons_succ]
  refine wpAnyH_take (i := 5) (v := ?_) (by simp only [List.getElem?_toArray, List.getElem?_cons_succ, List.getElem?_cons_zero]; rfl) (by kernel_rfl) (by kernel_rfl) (by kernel_rfl) (by exact fun _ _ _ h => h) (Or.inl ⟨by rfl, ?_⟩) hS ?_
  rotate_left
  · intro w hSw
    go_simp
    try with_reducible rfl
  try simp only [Act.put, List.setIfInBounds_toArray, List.set_cons_zero, List.set_cons_succ]
  refine wpAnyH_take (i := 6) (v := ?_) (by simp only [List.getElem?_toArray, List.getElem?_cons_succ, List.getElem?_cons_zero]; rfl) (by kernel_rfl) (by kernel_rfl) (by kernel_rfl) (by exact fun _ _ _ h => h) (Or.inl ⟨by rfl, ?_⟩) hS ?_
  rotate_left
  · intro w hSw
    go_simp
    try with_reducible rfl
  try simp only [Act.put, List.setIfInBounds_toArray, List.set_cons_zero, List.set_cons_succ]
  refine wpAnyH_take (i := 7) (v := ?_) (by simp only [List.getElem?_toArray, List.getElem?_cons_succ, List.getElem?_cons_zero]; rfl) (by kernel_rfl) (by kernel_rfl) (by kernel_rfl) (by exact fun _ _ _ h => h) (Or.inl ⟨by rfl, ?_⟩) hS ?_
  rotate_left
  · intro w hSw
    go_simp
    try with_reducible rfl
  try simp only [Act.put, List.setIfInBounds_toArray, List.set_cons_zero, List.set_cons_succ]
  refine wpAnyH_take (i := 8) (v := ?_) (by simp only [List.getElem?_toArray, List.getElem?_cons_succ, List.getElem?_cons_zero]; rfl) (by kernel_rfl) (by kernel_rfl) (by kernel_rfl) (by exact fun _ _ _ h => h) (Or.inl ⟨by rfl, ?_⟩) hS ?_
  rotate_left
  · intro w hSw
    go_simp
    try with_reducible rfl
  try simp only [Act.put, List.setIfInBounds_toArray, List.set_cons_zero, List.set_cons_succ]
  refine wpAnyH_take (i := 9) (v := ?_) (by simp only [List.getElem?_toArray, List.getElem?_cons_succ, List.getElem?_cons_zero]; rfl) (by kernel_rfl) (by kernel_rfl) (by kernel_rfl) (by exact fun _ _ _ h => h) (Or.inl ⟨by rfl, ?_⟩) hS ?_
  rotate_left
  · intro w hSw
    go_simp
    try with_reducible rfl
  try simp only [Act.put, List.setIfInBounds_toArray, List.set_cons_zero, List.set_cons_succ]
  refine wpAnyH_take (i := 10) (v := ?_) (by simp only [List.getElem?_toArray, List.getElem?_cons_succ, List.getElem?_cons_zero]; rfl) (by kernel_rfl) (by kernel_rfl) (by kernel_rfl) (by exact fun _ _ _ h => h) (Or.inl ⟨by rfl, ?_⟩) hS ?_
  rotate_left
  · intro w hSw
    go_simp
    try with_reducible rfl
  try simp only [Act.put, List.setIfInBounds_toArray, List.set_cons_zero, List.set_cons_succ]
  refine wpAnyH_ready (rs := [11]) (by kernel_rfl) (by simp) ?_
  refine AllReadyH.cons (by simp only [List.getElem?_toArray, List.getElem?_cons_succ, List.getElem?_cons_zero]; rfl) (fun K hK => ?_) AllReadyH.nil
  go_simp
  go_at_call 26
  refine (HM.out _ DD.out).mono ?_
  rintro e' w5 ⟨rfl, h5⟩
  have D5 : Hid (Below w.heap.size w w5) := Lib.hid (DD.out.trans (h5.mono DD.out.size))
  refine hK.out _ _ (AL.out w5 D5.out) (fun hS => ?_)
  clear hK K
  try simp only [Act.put, List.setIfInBounds_toArray, List.set_cons_zero, List.set_cons_succ]
  refine wpAnyH_ready (rs := [12]) (by kernel_rfl) (by simp) ?_
  refine AllReadyH.cons (by simp only [List.getElem?_toArray, List.getElem?_cons_succ, List.getElem?_cons_zero]; rfl) (fun K hK => ?_) AllReadyH.nil
  go_simp
  go_at_call 25
  refine (HN.out _ D5.out).mono ?_
  rintro e' w6 ⟨rfl, h6⟩
  have D6 : Hid (Below w.heap.size w w6) := Lib.hid (D5.out.trans (h6.mono D5.out.size))
  refine hK.out _ _ (AL.out w6 D6.out) (fun hS => ?_)
  clear hK K
  try simp only [Act.put, List.setIfInBounds_toArray, List.set_cons_zero, List.set_cons_succ]
  refine wpAnyH_take (i := 13) (v := ?_) (by simp only [List.getElem?_toArray, List.getElem?_cons_succ, List.getElem?_cons_zero]; rfl) (by kernel_rfl) (by kernel_rfl) (by kernel_rfl) (by exact fun _ _ _ h => h) (Or.inl ⟨by rfl, ?_⟩) hS ?_
  rotate_left
  · intro w hSw
    go_simp
    try with_reducible rfl
  try simp only [Act.put, List.setIfInBounds_toArray, List.set_cons_zero, List.set_cons_succ]
  refine wpAnyH_take (i := 14) (v := ?_) (by simp only [List.getElem?_toArray, List.getElem?_cons_succ, List.getElem?_cons_zero]; rfl) (by kernel_rfl) (by kernel_rfl) (by kernel_rfl) (by exact fun _ _ _ h => h) (Or.inl ⟨by rfl, ?_⟩) hS ?_
  rotate_left
  · intro w hSw
    go_simp
    try with_reducible rfl
  try simp only [Act.put, List.setIfInBounds_toArray, List.set_cons_zero, List.set_cons_succ]
  refine wpAnyH_take (i := 15) (v := ?_) (by simp only [List.getElem?_toArray, List.getElem?_cons_succ, List.getElem?_cons_zero]; rfl) (by kernel_rfl) (by kernel_rfl) (by kernel_rfl) (by exact fun _ _ _ h => h) (Or.inl ⟨by rfl, ?_⟩) hS ?_
  rotate_left
  · intro w hSw
    go_simp
    try with_reducible rfl
  try simp only [Act.put, List.setIfInBounds_toArray, List.set_cons_zero, List.set_cons_succ]
  refine wpAnyH_take (i := 16) (v := ?_) (by simp only [List.getElem?_toArray, List.getElem?_cons_succ, List.getElem?_cons_zero]; rfl) (by kernel_rfl) (by kernel_rfl) (by kernel_rfl) (by exact fun _ _ _ h => h) (Or.inl ⟨by rfl, ?_⟩) hS ?_
  rotate_left
  · intro w hSw
    go_simp
    try with_reducible rfl
  try simp only [Act.put, List.setIfInBounds_toArray, List.set_cons_zero, List.set_cons_succ]
  refine wpAnyH_take (i := 17) (v := ?_) (by simp only [List.getElem?_toArray, List.getElem?_cons_succ, List.getElem?_cons_zero]; rfl) (by kernel_rfl) (by kernel_rfl) (by kernel_rfl) (by exact fun _ _ _ h => h) (Or.inl ⟨by rfl, ?_⟩) hS ?_
  rotate_left
  · intro w hSw
    go_simp
    try with_reducible rfl
  try simp only [Act.put, List.setIfInBounds_toArray, List.set_cons_zero, List.set_cons_succ]
  refine wpAnyH_done (by kernel_rfl) ?_ _
  go_wp2
  go_ret
  exact ⟨rfl, D6.out⟩

theorem stateW (g b : Nat) (M : Mch) (w : World) (h : Mach w g b M) : Calls Try.prog 18 #[.pointer (some ⟨g, 0, none⟩)] w fun e w' => e = .returned (.int .i64 M.s) ∧ w' = w := by
  have k : w.cell? ⟨g, 1, none⟩ = some (.int .i64 M.s) := h.1.cell 1
  clear h
  go_enter Try.func18, Try.ntmps18
  go_wp2
  go_returns
  exact ⟨rfl, rfl⟩

theorem leftW (g b : Nat) (M : Mch) (w : World) (h : Mach w g b M) : Calls Try.prog 19 #[.pointer (some ⟨g, 0, none⟩)] w fun e w' => e = .returned (.int .i64 M.l) ∧ w' = w := by
  have k : w.cell? ⟨g, 3, none⟩ = some (.int .i64 M.l) := h.1.cell 3
  clear h
  go_enter Try.func19, Try.ntmps19
  go_wp2
  go_returns
  exact ⟨rfl, rfl⟩

theorem addrW (g b : Nat) (M : Mch) (w : World) (h : Mach w g b M) : Calls Try.prog 20 #[.pointer (some ⟨g, 0, none⟩)] w fun e w' => e = .returned (.int .u16 M.a) ∧ w' = w := by
  have k : w.cell? ⟨g, 2, none⟩ = some (.int .u16 M.a) := h.1.cell 2
  clear h
  go_enter Try.func20, Try.ntmps20
  go_wp2
  go_returns
  exact ⟨rfl, rfl⟩

theorem newW (w : World) : Calls Try.prog 8 #[] w fun e w' => ∃ g b, e = .returned (.pointer (some ⟨g, 0, none⟩)) ∧ Mach w' g b ⟨0, 0, 0⟩ ∧ w.heap.size ≤ g ∧ w.heap.size ≤ b ∧ Below w.heap.size w w' := by
  go_enter Try.func8, Try.ntmps8
  go_wp2_with fail
  refine (table w).mono ?_
  rintro e' w5 ⟨rfl, hT, hb⟩
  have hlt := hT.lt
  replace hT := Lib.hid hT
  go_wp2
  go_returns
  refine ⟨_, _, rfl, ⟨Mem.Blk.new w5 51 _, hT.out.alloc _, by omega⟩, hb.size, Nat.le_refl _, hb.alloc hb.size _⟩

theorem nextTop (s i : Int) (m : Bool) (w : World) (hs : W s) (hi : W i) :
    Calls Try.prog 21 #[.int .i64 s, .int .i64 i, .bool m] w fun e w' => e = .returned (.tuple #[.int .i64 (nx s i m).1, .bool (nx s i m).2]) ∧ Below w.heap.size w w' := by
  have HN := Lib.hid (fun w' (h : Tab w' w.heap.size L4) => nextW w.heap.size s i m w' h hs hi)
  obtain ⟨x, hx⟩ : ∃ x, x = nx s i m := ⟨_, rfl⟩
  rw [← hx] at HN ⊢
  obtain ⟨x1, x2⟩ := x
  clear hx
  go_enter Try.func21, Try.ntmps21
  go_wp2_with fail
  refine (table w).mono ?_
  rintro e' w5 ⟨rfl, hT, hb⟩
  replace hT := Lib.hid hT
  replace hb := Lib.hid hb
  go_wp2_with fail
  refine (HN.out _ hT.out).mono ?_
  rintro e' w6 ⟨rfl, hb6⟩
  go_wp2
  go_ret2
  exact ⟨rfl, hb.out.trans (hb6.mono hb.out.size)⟩
end Go.Proofs.Ytddmodiogjnhmaa.PhD
