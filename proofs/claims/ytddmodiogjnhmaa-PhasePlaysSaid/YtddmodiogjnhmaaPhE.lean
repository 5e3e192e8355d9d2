/- The machine of states: what it does. -/
import Derived.Test.YtddmodiogjnhmaaPhD
namespace Go.Proofs.Ytddmodiogjnhmaa.PhE
open Go.ChangeShapes Go.WideShapes Go.ChangeAt Go.RowKit
open PhM PhA PhB PhC PhD
set_option linter.unusedVariables false
set_option maxHeartbeats 1000000

theorem grown_set (w : World) (g k : Nat) (v : Value) : w.grownBy (w.setCell ⟨g, k, none⟩ v) (some g) := ⟨rfl, rfl, rfl, by simp, fun j _ hne => Below.heap_setCell w ⟨g, k, none⟩ v j (by simpa using hne)⟩
theorem mach_put {w g b M M'} (k : Nat) (v : Value) (h : Mach w g b M) (e : (four b M).setIfInBounds k v = four b M') : Mach (w.setCell ⟨g, k, none⟩ v) g b M' :=
  ⟨by rw [← e]; exact h.1.put k v, h.2.1.kept (grown_set w g k v) (by simpa using h.2.2), h.2.2⟩

def enterP (M : Mch) (s' : Int) : Mch := ⟨s', M.a, if s' = 6 then (if M.s = 6 then M.l else 1) else 0⟩

theorem enterW (g b : Nat) (M : Mch) (s' : Int) (w : World) (h : Mach w g b M) :
    Calls Try.prog 29 #[.pointer (some ⟨g, 0, none⟩), .int .i64 s'] w fun e w' => (∃ v, e = .returned v) ∧ Mach w' g b (enterP M s') ∧ w.grownBy w' (some g) := by
  have k1 : w.cell? ⟨g, 1, none⟩ = some (.int .i64 M.s) := h.1.cell 1
  have k3 : w.cell? ⟨g, 3, none⟩ = some (.int .i64 M.l) := h.1.cell 3
  have z1 := h.1.frozen 1
  have z3 := h.1.frozen 3
  have HH := Lib.hid h
  clear h
  unfold enterP
  by_cases h6 : s' = 6
  · subst h6
    rw [if_pos rfl]
    by_cases hs : M.s = 6
    · rw [if_pos hs]
      rw [hs] at k1
      replace hs := Lib.hid hs
      go_enter Try.func29, Try.ntmps29
      go_wp2
      go_returns
      exact ⟨⟨_, rfl⟩, mach_put 1 _ HH.out rfl, grown_set _ _ _ _⟩
    · rw [if_neg hs]
      go_enter Try.func29, Try.ntmps29
      go_wp2
      go_returns
      exact ⟨⟨_, rfl⟩, mach_put 1 _ (mach_put (M' := ⟨M.s, M.a, 1⟩) 3 _ HH.out rfl) rfl, (grown_set _ _ _ _).trans (grown_set _ _ _ _)⟩
  · rw [if_neg h6]
    go_enter Try.func29, Try.ntmps29
    go_wp2
    go_returns
    exact ⟨⟨_, rfl⟩, mach_put 1 _ (mach_put (M' := ⟨M.s, M.a, 0⟩) 3 _ HH.out rfl) rfl, (grown_set _ _ _ _).trans (grown_set _ _ _ _)⟩

def goM (M : Mch) (i arg : Int) : Mch := if (nx M.s i (mineP M arg)).2 = true then enterP ⟨M.s, if i = 3 then arg / 65536 else M.a, M.l⟩ (nx M.s i (mineP M arg)).1 else M
def goA (M : Mch) (i arg : Int) : Bool := (nx M.s i (mineP M arg)).2 && (i != 0 && (i != 7 || mineP M arg))

set_option maxRecDepth 100000 in
theorem goW (g b : Nat) (M : Mch) (i arg : Int) (w : World) (h : Mach w g b M) (h0 : 0 ≤ arg) (h1 : arg ≤ 4294967295) (hs : W M.s) (hi : W i) :
    Calls Try.prog 11 #[.pointer (some ⟨g, 0, none⟩), .int .i64 i, .int .u32 arg] w fun e w' => e = .returned (.tuple #[.bool (goA M i arg), .bool (nx M.s i (mineP M arg)).2]) ∧ Mach w' g b (goM M i arg) ∧ w.grownBy w' (some g) := by
  have AL : Hid (∀ w', Below w.heap.size w w' → w'.cell? ⟨g, 0, none⟩ = some (.map (some b)) ∧ w'.cell? ⟨g, 1, none⟩ = some (.int .i64 M.s)) := Lib.hid fun w' hb => ⟨(Mach.below h hb).1.cell 0, (Mach.below h hb).1.cell 1⟩
  have HM := Lib.hid (fun w' (hb : Below w.heap.size w w') => mineW g b M arg w' (h.below hb) h0 h1)
  have HN := Lib.hid (fun w' (hb : Below w.heap.size w w') => nextW b M.s i (mineP M arg) w' (h.below hb).2.1 hs hi)
  have HE := Lib.hid (fun M' s' w' h => enterW g b M' s' w' h)
  have HD := Lib.hid (fun w => address arg w h0 h1)
  have HK := Lib.hid (fun w' (hb : Below w.heap.size w w') => h.below hb)
  clear h
  unfold goA goM
  obtain ⟨x, hx⟩ : ∃ x, x = nx M.s i (mineP M arg) := ⟨_, rfl⟩
  rw [← hx] at HN ⊢
  obtain ⟨x1, x2⟩ := x
  generalize mineP M arg = mm at *
  clear hx
  go_enter Try.func11, Try.ntmps11
  go_wp2_with fail
  refine (HM.out _ (Below.refl _ _)).mono ?_
  rintro e' w5 ⟨rfl, h5⟩
  replace h5 := Lib.hid h5
  have DD : Hid (Below w.heap.size w w5.drew) := Lib.hid h5.out.drew
  go_wp2_with fail
  refine wp_region_held_drew (S := fun w' => w'.cell? ⟨g, 0, none⟩ = some (.map (some b)) ∧ w'.cell? ⟨g, 1, none⟩ = some (.int .i64 M.s)) (by kernel_rfl) (AL.out _ DD.out) (fun hS => ?_)
  refine wpAnyH_take (i := 0) (v := ?_) (by simp only [List.getElem?_toArray, List.getElem?_cons_succ, List.getElem?_cons_zero]; rfl) (by kernel_rfl) (by kernel_rfl) (by kernel_rfl) (by exact fun _ _ _ h => h) (Or.inl ⟨by rfl, ?_⟩) hS ?_
  rotate_left
  · intro w hSw
    go_simp
    try with_reducible rfl
  try simp only [Act.put, List.setIfInBounds_toArray, List.set_cons_zero, List.set_cons_succ]
  refine wpAnyH_take (i := 1) (v := ?_) (by simp only [List.getElem?_toArray, List.getElem?_cons_succ, List.getElem?_cons_zero]; rfl) (by kernel_rfl) (by kernel_rfl) (by kernel_rfl) (by exact fun _ _ _ h => h) (Or.inl ⟨by rfl, ?_⟩) hS ?_
  rotate_left
  · intro w hSw
    go_simp
    try with_reducible rfl
  try simp only [Act.put, List.setIfInBounds_toArray, List.set_cons_zero, List.set_cons_succ]
  refine wpAnyH_take (i := 2) (v := ?_) (by simp only [List.getElem?_toArray, List.getElem?_cons_succ, List.getElem?_cons_zero]; rfl) (by kernel_rfl) (by kernel_rfl) (by kernel_rfl) (by exact fun _ _ _ h => h) (Or.inl ⟨by rfl, ?_⟩) hS ?_
  rotate_left
  · intro w hSw
    go_simp
    try with_reducible rfl
  try simp only [Act.put, List.setIfInBounds_toArray, List.set_cons_zero, List.set_cons_succ]
  refine wpAnyH_take (i := 3) (v := ?_) (by simp only [List.getElem?_toArray, List.getElem?_cons_succ, List.getElem?_cons_zero]; rfl) (by kernel_rfl) (by kernel_rfl) (by kernel_rfl) (by exact fun _ _ _ h => h) (Or.inl ⟨by rfl, ?_⟩) hS ?_
  rotate_left
  · intro w hSw
    go_simp
    try with_reducible rfl
  try simp only [Act.put, List.setIfInBounds_toArray, List.set_cons_zero, List.set_cons_succ]
  refine wpAnyH_take (i := 4) (v := ?_) (by simp only [List.getElem?_toArray, List.getElem?_cons_succ, List.getElem?_cons_zero]; rfl) (by kernel_rfl) (by kernel_rfl) (by kernel_rfl) (by exact fun _ _ _ h => h) (Or.inl ⟨by rfl, ?_⟩) hS ?_
  rotate_left
  · intro w hSw
    go_simp
    try with_reducible rfl
  try simp only [Act.put, List.setIfInBounds_toArray, List.set_cons_zero, List.set_cons_succ]
  refine wpAnyH_take (i := 5) (v := ?_) (by simp only [List.getElem?_toArray, List.getElem?_cons_succ, List.getElem?_cons_zero]; rfl) (by kernel_rfl) (by kernel_rfl) (by kernel_rfl) (by exact fun _ _ _ h => h) (Or.inl ⟨by rfl, ?_⟩) hS ?_
  rotate_left
  · intro w hSw
    go_simp
    try with_reducible rfl
  try simp only [Act.put, List.setIfInBounds_toArray, List.set_cons_zero, List.set_cons_succ]
  refine wpAnyH_take (i := 6) (v := ?_) (by simp only [List.getElem?_toArray, List.getElem?_cons_succ, List.getElem?_cons_zero]; rfl) (by kernel_rfl) (by kernel_rfl) (by kernel_rfl) (by exact fun _ _ _ h => h) (Or.inl ⟨by rfl, ?_⟩) hS ?_
  rotate_left
  · intro w hSw
    go_simp
    try with_reducible rfl
  try simp only [Act.put, List.setIfInBounds_toArray, List.set_cons_zero, List.set_cons_succ]
  refine wpAnyH_take (i := 7) (v := ?_) (by simp only [List.getElem?_toArray, List.getElem?_cons_succ, List.getElem?_cons_zero]; rfl) (by kernel_rfl) (by kernel_rfl) (by kernel_rfl) (by exact fun _ _ _ h => h) (Or.inl ⟨by rfl, ?_⟩) hS ?_
  rotate_left
  · intro w hSw
    go_simp
    try with_reducible rfl
  try simp only [Act.put, List.setIfInBounds_toArray, List.set_cons_zero, List.set_cons_succ]
  refine wpAnyH_take (i := 8) (v := ?_) (by simp only [List.getElem?_toArray, List.getElem?_cons_succ, List.getElem?_cons_zero]; rfl) (by kernel_rfl) (by kernel_rfl) (by kernel_rfl) (by exact fun _ _ _ h => h) (Or.inl ⟨by rfl, ?_⟩) hS ?_
  rotate_left
  · intro w hSw
    go_simp
    try with_reducible rfl
  try simp only [Act.put, List.setIfInBounds_toArray, List.set_cons_zero, List.set_cons_succ]
  refine wpAnyH_take (i := 9) (v := ?_) (by simp only [List.getElem?_toArray, List.getElem?_cons_succ, List.getElem?_cons_zero]; rfl) (by kernel_rfl) (by kernel_rfl) (by kernel_rfl) (by exact fun _ _ _ h => h) (Or.inl ⟨by rfl, ?_⟩) hS ?_
  rotate_left
  · intro w hSw
    go_simp
    try with_reducible rfl
  try simp only [Act.put, List.setIfInBounds_toArray, List.set_cons_zero, List.set_cons_succ]
  refine wpAnyH_ready (rs := [10]) (by kernel_rfl) (by simp) ?_
  refine AllReadyH.cons (by simp only [List.getElem?_toArray, List.getElem?_cons_succ, List.getElem?_cons_zero]; rfl) (fun K hK => ?_) AllReadyH.nil
  go_simp
  go_at_call 25
  refine (HN.out _ DD.out).mono ?_
  rintro e' w6 ⟨rfl, h6⟩
  have D6 : Hid (Below w.heap.size w w6) := Lib.hid (DD.out.trans (h6.mono DD.out.size))
  refine hK.out _ _ (AL.out w6 D6.out) (fun hS => ?_)
  clear hK K
  try simp only [Act.put, List.setIfInBounds_toArray, List.set_cons_zero, List.set_cons_succ]
  refine wpAnyH_take (i := 11) (v := ?_) (by simp only [List.getElem?_toArray, List.getElem?_cons_succ, List.getElem?_cons_zero]; rfl) (by kernel_rfl) (by kernel_rfl) (by kernel_rfl) (by exact fun _ _ _ h => h) (Or.inl ⟨by rfl, ?_⟩) hS ?_
  rotate_left
  · intro w hSw
    go_simp
    try with_reducible rfl
  try simp only [Act.put, List.setIfInBounds_toArray, List.set_cons_zero, List.set_cons_succ]
  refine wpAnyH_take (i := 12) (v := ?_) (by simp only [List.getElem?_toArray, List.getElem?_cons_succ, List.getElem?_cons_zero]; rfl) (by kernel_rfl) (by kernel_rfl) (by kernel_rfl) (by exact fun _ _ _ h => h) (Or.inl ⟨by rfl, ?_⟩) hS ?_
  rotate_left
  · intro w hSw
    go_simp
    try with_reducible rfl
  try simp only [Act.put, List.setIfInBounds_toArray, List.set_cons_zero, List.set_cons_succ]
  refine wpAnyH_take (i := 13) (v := ?_) (by simp only [List.getElem?_toArray, List.getElem?_cons_succ, List.getElem?_cons_zero]; rfl) (by kernel_rfl) (by kernel_rfl) (by kernel_rfl) (by exact fun _ _ _ h => h) (Or.inl ⟨by rfl, ?_⟩) hS ?_
  rotate_left
  · intro w hSw
    go_simp
    try with_reducible rfl
  try simp only [Act.put, List.setIfInBounds_toArray, List.set_cons_zero, List.set_cons_succ]
  refine wpAnyH_take (i := 14) (v := ?_) (by simp only [List.getElem?_toArray, List.getElem?_cons_succ, List.getElem?_cons_zero]; rfl) (by kernel_rfl) (by kernel_rfl) (by kernel_rfl) (by exact fun _ _ _ h => h) (Or.inl ⟨by rfl, ?_⟩) hS ?_
  rotate_left
  · intro w hSw
    go_simp
    try with_reducible rfl
  try simp only [Act.put, List.setIfInBounds_toArray, List.set_cons_zero, List.set_cons_succ]
  refine wpAnyH_take (i := 15) (v := ?_) (by simp only [List.getElem?_toArray, List.getElem?_cons_succ, List.getElem?_cons_zero]; rfl) (by kernel_rfl) (by kernel_rfl) (by kernel_rfl) (by exact fun _ _ _ h => h) (Or.inl ⟨by rfl, ?_⟩) hS ?_
  rotate_left
  · intro w hSw
    go_simp
    try with_reducible rfl
  try simp only [Act.put, List.setIfInBounds_toArray, List.set_cons_zero, List.set_cons_succ]
  refine wpAnyH_done (by kernel_rfl) ?_ _
  have K6 := HK.out w6 D6.out
  have G6 : Hid (w.grownBy w6 (some g)) := Lib.hid (below_grown D6.out _)
  clear AL HM HN HK h5
  cases x2 with
  | false =>
    go_wp2
    go_ret2
    exact ⟨rfl, by simpa using K6, G6.out⟩
  | true =>
    by_cases h3 : i = 3
    · subst h3
      have k2 : w6.cell? ⟨g, 2, none⟩ = some (.int .u16 M.a) := K6.1.cell 2
      have z2 := K6.1.frozen 2
      have K7 := Lib.hid (mach_put (M' := ⟨M.s, arg / 65536, M.l⟩) 2 (.int .u16 (arg / 65536)) K6 rfl)
      have G7 := Lib.hid (G6.out.trans (grown_set w6 g 2 (.int .u16 (arg / 65536))))
      clear K6
      go_wp2_with fail
      refine (HD.out _).mono ?_
      rintro e' w7 ⟨rfl, h7⟩
      obtain rfl := h7.symm
      go_wp2_with fail
      refine (HE.out _ x1 _ K7.out).mono ?_
      rintro e' w8 ⟨⟨v, rfl⟩, K8, G8⟩
      replace K8 := Lib.hid K8
      go_wp2
      go_ret2
      exact ⟨rfl, by simpa using K8.out, G7.out.trans G8⟩
    · replace K6 := Lib.hid K6
      go_wp2_with fail
      refine (HE.out _ x1 _ K6.out).mono ?_
      rintro e' w8 ⟨⟨v, rfl⟩, K8, G8⟩
      replace K8 := Lib.hid K8
      by_cases i0 : i = 0
      · subst i0
        go_wp2
        go_ret2
        exact ⟨rfl, by simpa [h3] using K8.out, G6.out.trans G8⟩
      · by_cases i7 : i = 7
        · subst i7
          go_wp2
          go_ret2
          exact ⟨rfl, by simpa [h3] using K8.out, G6.out.trans G8⟩
        · have b0 : (i != 0) = true := by simpa using i0
          have b7 : (i != 7) = true := by simpa using i7
          go_wp2
          go_ret2
          exact ⟨by simp [i0, i7], by simpa [h3] using K8.out, G6.out.trans G8⟩

def recvM (M : Mch) (n : Int) : Mch := if M.s = 6 then ⟨M.s, M.a, max 1 (min n 64)⟩ else M
theorem recvW (g b : Nat) (M : Mch) (n : Int) (w : World) (h : Mach w g b M) :
    Calls Try.prog 13 #[.pointer (some ⟨g, 0, none⟩), .int .i64 n] w fun e w' => (∃ v, e = .returned v) ∧ Mach w' g b (recvM M n) ∧ w.grownBy w' (some g) := by
  have k1 : w.cell? ⟨g, 1, none⟩ = some (.int .i64 M.s) := h.1.cell 1
  have k3 : w.cell? ⟨g, 3, none⟩ = some (.int .i64 M.l) := h.1.cell 3
  have z3 := h.1.frozen 3
  have HH := Lib.hid h
  clear h
  unfold recvM
  by_cases hs : M.s = 6
  · rw [if_pos hs]
    rw [hs] at k1
    have hs' := Lib.hid hs
    clear hs
    go_enter Try.func13, Try.ntmps13
    go_wp2
    all_goals go_returns
    all_goals exact ⟨⟨_, rfl⟩, mach_put 3 _ HH.out (by simp [four]; omega), grown_set _ _ _ _⟩
  · rw [if_neg hs]
    go_enter Try.func13, Try.ntmps13
    go_wp2
    go_returns
    exact ⟨⟨_, rfl⟩, HH.out, ⟨rfl, rfl, rfl, Nat.le_refl _, fun _ _ _ => rfl⟩⟩

def gotM (M : Mch) : Mch := if M.s = 6 then (if M.l = 1 then ⟨4, M.a, 0⟩ else ⟨M.s, M.a, M.l - 1⟩) else M
theorem gotW (g b : Nat) (M : Mch) (w : World) (h : Mach w g b M) (hl : M.s = 6 → 1 ≤ M.l ∧ M.l ≤ 64) :
    Calls Try.prog 15 #[.pointer (some ⟨g, 0, none⟩)] w fun e w' => e = .returned (.bool (decide (M.s = 6))) ∧ Mach w' g b (gotM M) ∧ w.grownBy w' (some g) := by
  have k1 : w.cell? ⟨g, 1, none⟩ = some (.int .i64 M.s) := h.1.cell 1
  have k3 : w.cell? ⟨g, 3, none⟩ = some (.int .i64 M.l) := h.1.cell 3
  have z3 := h.1.frozen 3
  have HH := Lib.hid h
  clear h
  unfold gotM
  by_cases hs : M.s = 6
  · rw [if_pos hs]
    have hl' := hl hs
    rw [hs] at k1
    have K7 := Lib.hid (mach_put (M' := ⟨M.s, M.a, M.l - 1⟩) 3 (.int .i64 (M.l - 1)) HH.out rfl)
    have HE := Lib.hid (enterW g b _ 4 _ K7.out)
    have k7 : (w.setCell ⟨g, 3, none⟩ (.int .i64 (M.l - 1))).cell? ⟨g, 3, none⟩ = some (.int .i64 (M.l - 1)) := K7.out.1.cell 3
    have hs' := Lib.hid hs
    clear hl
    by_cases h1 : M.l = 1
    · rw [if_pos h1]
      rw [h1] at k3 k7 HE K7 hl'
      replace h1 := Lib.hid h1
      clear hs
      go_enter Try.func15, Try.ntmps15
      go_wp2_with fail
      refine HE.out.mono ?_
      rintro e' w8 ⟨⟨v, rfl⟩, K8, G8⟩
      replace K8 := Lib.hid K8
      go_wp2
      go_ret
      exact ⟨by rw [hs'.out]; rfl, K8.out, (grown_set _ _ _ _).trans G8⟩
    · rw [if_neg h1]
      have h2 : ¬ (M.l - 1 = 0) := by omega
      clear hs HE
      go_enter Try.func15, Try.ntmps15
      go_wp2
      go_ret
      exact ⟨by rw [hs'.out]; rfl, K7.out, grown_set _ _ _ _⟩
  · rw [if_neg hs]
    have hd : decide (M.s = 6) = false := by simpa using hs
    rw [hd]
    clear hd hl
    go_enter Try.func15, Try.ntmps15
    go_wp2
    go_ret
    exact ⟨rfl, HH.out, ⟨rfl, rfl, rfl, Nat.le_refl _, fun _ _ _ => rfl⟩⟩

theorem resetW (g b : Nat) (M : Mch) (w : World) (h : Mach w g b M) :
    Calls Try.prog 17 #[.pointer (some ⟨g, 0, none⟩)] w fun e w' => (∃ v, e = .returned v) ∧ Mach w' g b ⟨0, 0, 0⟩ ∧ w.grownBy w' (some g) := by
  have k1 : w.cell? ⟨g, 1, none⟩ = some (.int .i64 M.s) := h.1.cell 1
  have k2 : w.cell? ⟨g, 2, none⟩ = some (.int .u16 M.a) := h.1.cell 2
  have k3 : w.cell? ⟨g, 3, none⟩ = some (.int .i64 M.l) := h.1.cell 3
  have z1 := h.1.frozen 1
  have z2 := h.1.frozen 2
  have z3 := h.1.frozen 3
  have HH := Lib.hid h
  clear h
  go_enter Try.func17, Try.ntmps17
  go_wp2
  go_returns
  exact ⟨⟨_, rfl⟩, mach_put 3 _ (mach_put (M' := ⟨0, 0, M.l⟩) 2 _ (mach_put (M' := ⟨0, M.a, M.l⟩) 1 _ HH.out rfl) rfl) rfl, ((grown_set _ _ _ _).trans (grown_set _ _ _ _)).trans (grown_set _ _ _ _)⟩
end Go.Proofs.Ytddmodiogjnhmaa.PhE
