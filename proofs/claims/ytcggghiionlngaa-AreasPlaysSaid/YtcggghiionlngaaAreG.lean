/- Areas: where they lie is found out. -/
import Derived.Test.YtcggghiionlngaaAreF
namespace Go.Proofs.Ytcggghiionlngaa.AreG
open Go.ChangeShapes Go.WideShapes Go.ChangeAt Go.RowKit
open Mem GeoM GeoC GeoD GeoF AreA AreB AreC AreD AreE AreF
set_option linter.unusedVariables false
set_option maxHeartbeats 2000000

theorem exec_load {o : Oper} {ev : Operand → Value} (T : TypeId) (x : Operand) (ho : o.op = .load T x) (p : Addr) (hx : ev x = .pointer (some p)) (v : Value) (w : World) (h : (loadVar T p).run Try.prog w = .ok v w) :
    (execOp ev o).run Try.prog w = .ok (.value v) w := by
  unfold execOp
  simp only [ho, hx, Instr.loadAt, Instr.sureAddr, Sem.run_bind, Sem.run_pure, Result.andThen_ok, h]
def zs (a : Stt) : Array Value := #[.int .i64 a.z0, .int .i64 a.z1, .int .i64 a.z2, .int .i64 a.z3]
def Sm (a : Stt) : Prop := (0 ≤ a.z0 ∧ a.z0 ≤ 32) ∧ (0 ≤ a.z1 ∧ a.z1 ≤ 32) ∧ (0 ≤ a.z2 ∧ a.z2 ≤ 32) ∧ (0 ≤ a.z3 ∧ a.z3 ≤ 32)
/-- The sizes of the areas. -/
def sz (c : Cfg) (a : Stt) : List Int := [c.user - a.z0 * c.group - a.z1 * c.group - a.z2 * c.group - a.z3 * c.group, c.boot, c.boot, c.rpa, a.z0 * c.group, a.z1 * c.group, a.z2 * c.group, a.z3 * c.group]
def szV (c : Cfg) (a : Stt) : Array Value := #[.int .i64 (c.user - a.z0 * c.group - a.z1 * c.group - a.z2 * c.group - a.z3 * c.group), .int .i64 c.boot, .int .i64 c.boot, .int .i64 c.rpa, .int .i64 (a.z0 * c.group), .int .i64 (a.z1 * c.group), .int .i64 (a.z2 * c.group), .int .i64 (a.z3 * c.group)]
theorem sizesV (c : Cfg) (a : Stt) (hu : 1 ≤ c.user ∧ c.user ≤ 16384) (hg : 1 ≤ c.group ∧ c.group ≤ 16384) (hz : Sm a) (w : World) : Calls Try.prog 51 #[.agg (cc c), .agg (zs a)] w fun e w' => e = .returned (.agg (szV c a)) ∧ Below w.heap.size w w' := by
  obtain ⟨b, p, s, u, o, r, g, k, x⟩ := c
  obtain ⟨z0, z1, z2, z3, e, d⟩ := a
  unfold Sm at hz
  simp only [cc, zs, szV] at hu hg hz ⊢
  exact sizesW b p s u o r g k x z0 z1 z2 z3 hu hg hz w
theorem one_szV (c : Cfg) (a : Stt) : (szV c a).all (·.oneCell') = true := by kernel_rfl
def ordN (k : Nat) : Nat := match k with | 0 => 0 | 1 => 4 | 2 => 5 | 3 => 6 | 4 => 7 | 5 => 1 | 6 => 2 | _ => 3
def nx (c : Cfg) (a : Stt) : Nat → Int
  | 0 => 0
  | k + 1 => nx c a k + (sz c a).getD (ordN k) 0
theorem nx_le (c : Cfg) (a : Stt) (H : ∀ j, -10000000 ≤ (sz c a).getD j 0 ∧ (sz c a).getD j 0 ≤ 10000000) : ∀ k : Nat, -10000000 * (k : Int) ≤ nx c a k ∧ nx c a k ≤ 10000000 * (k : Int)
  | 0 => ⟨by simp [nx], by simp [nx]⟩
  | k + 1 => by have := nx_le c a H k; have := H (ordN k); unfold nx; omega
theorem szV_at (c : Cfg) (a : Stt) (j : Nat) (h : j < 8) : (szV c a).toList[j]? = some (.int .i64 ((sz c a).getD j 0)) := by
  match j, h with
  | 0, _ => rfl
  | 1, _ => rfl
  | 2, _ => rfl
  | 3, _ => rfl
  | 4, _ => rfl
  | 5, _ => rfl
  | 6, _ => rfl
  | 7, _ => rfl
theorem ordN_lt (k : Nat) : ordN k < 8 := by unfold ordN; split <;> omega
theorem ord_inj (j k : Nat) (hj : j < k) (hk : k < 8) : ordN j ≠ ordN k := by
  have H : ∀ k : Fin 8, ∀ j : Fin 8, j.val < k.val → ordN j.val ≠ ordN k.val := by decide +kernel
  exact H ⟨k, hk⟩ ⟨j, by omega⟩ hj
/-- What is found out so far. -/
def Rk (w0 w : World) (g : Nat) (c : Cfg) (l a : Stt) (k : Nat) : Prop :=
  Tt w g c l a ∧ w.rangeAt g 24 (szV c a).toList ∧ (∀ j, j < k → w.cell? ⟨g, 32 + ordN j, none⟩ = some (.int .i64 (nx c a j))) ∧ (∀ i, i < 24 → w.cell? ⟨g, i, none⟩ = w0.cell? ⟨g, i, none⟩) ∧ w0.grownBy w (some g)
theorem Rk.step {w0 w : World} {g : Nat} {c : Cfg} {l a : Stt} {k : Nat} (h : Rk w0 w g c l a k) (hk : k < 8) : Rk w0 (w.setCell ⟨g, 32 + ordN k, none⟩ (.int .i64 (nx c a k))) g c l a (k + 1) := by
  obtain ⟨h1, h2, h3, h4, h5⟩ := h
  have ho := ordN_lt k
  refine ⟨h1.put _ (by omega) _, World.rangeAt_setCells_apart h2 g (32 + ordN k) [_] (.inr (.inl (by show 24 + 8 ≤ _; omega))), fun j hj => ?_, fun i hi => ?_, ⟨h5.os, h5.tape, h5.output, ?_, fun q hq hne => ?_⟩⟩
  · by_cases e : j = k
    · subst e
      obtain ⟨v, hv⟩ := h1.some (32 + ordN j) (by omega)
      exact World.cell?_setCell_same _ _ _ hv
    · have := ord_inj j k (by omega) hk
      rw [World.cell?_setCell_other _ ⟨g, 32 + ordN k, none⟩ ⟨g, 32 + ordN j, none⟩ _ (by intro e; injection e with _ e2; omega)]
      exact h3 j (by omega)
  · rw [World.cell?_setCell_other _ ⟨g, 32 + ordN k, none⟩ ⟨g, i, none⟩ _ (by intro e; injection e with _ e2; omega)]
    exact h4 i hi
  · simpa using h5.size
  · rw [Below.heap_setCell _ _ _ _ (by intro e; exact hne (by rw [e]))]
    exact h5.block q hq hne
theorem heap_setCells (g q : Nat) (hq : q ≠ g) : ∀ (vs : List Value) (o : Nat) (w : World), (w.setCells g o vs).heap[q]? = w.heap[q]?
  | [], _, _ => rfl
  | v :: r, o, w => by
    rw [World.setCells, heap_setCells g q hq r]
    exact Below.heap_setCell _ _ _ _ (by exact hq)
theorem i24 : (Try.prog.info? 24).map (·.size) = some 4 := by kernel_rfl

set_option maxRecDepth 100000 in
theorem reckonW (g : Nat) (c : Cfg) (l a : Stt) (hu : 1 ≤ c.user ∧ c.user ≤ 16384) (hgr : 1 ≤ c.group ∧ c.group ≤ 16384) (hz : Sm a) (HB : ∀ j, -10000000 ≤ (sz c a).getD j 0 ∧ (sz c a).getD j 0 ≤ 10000000) (w : World) (h : Tt w g c l a) :
    Calls Try.prog 39 #[.pointer (some ⟨g, 0, none⟩)] w fun e w' => e = .returned (.tuple #[]) ∧ Rk w w' g c l a 8 := by
  have HT := Lib.hid (fun w' (hb : Below w.heap.size w w') => h.below hb h.lt)
  have HZ := Lib.hid (fun w' => sizesV c a hu hgr hz w')
  have HO := Lib.hid (fun w' => orderW w')
  have ALT : Hid (∀ w', Tt w' g c l a → (loadVar 23 ⟨g, 0, none⟩).run Try.prog w' = .ok (.agg (cc c)) w' ∧ (loadVar 24 ⟨g, 15, none⟩).run Try.prog w' = .ok (.agg (zs a)) w') := Lib.hid fun w' hT => by
    refine ⟨run_loadVar_mid w' g 0 23 (cc c).toList _ hT.cfg Try.underlying23 rfl i23, ?_⟩
    refine run_loadVar_mid w' g 15 24 (zs a).toList _ (fun j v hv => hT.act j v ?_) Try.underlying24 rfl i24
    have hj := (List.getElem?_eq_some_iff.1 hv).1
    match j, hj with
    | 0, _ => exact hv
    | 1, _ => exact hv
    | 2, _ => exact hv
    | 3, _ => exact hv
  have AL : Hid (∀ w', Below w.heap.size w w' → (loadVar 23 ⟨g, 0, none⟩).run Try.prog w' = .ok (.agg (cc c)) w' ∧ (loadVar 24 ⟨g, 15, none⟩).run Try.prog w' = .ok (.agg (zs a)) w') := Lib.hid fun w' hb => ALT.out w' (HT.out w' hb)
  have D0 : Hid (Below w.heap.size w w.drew) := Lib.hid (Below.refl _ _).drew
  have HK0 : Hid (∀ w2 w3 w4, Below w.heap.size w w2 → w3 = w2.setCells g 24 (szV c a).toList → Below w3.heap.size w3 w4 → Rk w w4 g c l a 0) := Lib.hid fun w2 w3 w4 b2 e b4 => by
    subst e
    have t2 := HT.out w2 b2
    have t3 := t2.puts 24 (by omega) (szV c a).toList
    have r3 := World.rangeAt_setCells_same w2 g 24 (szV c a).toList (t2.sub 24 8 (by omega))
    have b3 := below_setCells (B := 0) (Nat.zero_le g) (szV c a).toList 24 w2 (Below.refl 0 w2)
    refine ⟨t3.below b4 t3.lt, range_below r3 b4 t3.lt, fun j hj => absurd hj (by omega), fun i hi => ?_, ⟨b4.os.trans (b3.os.trans b2.os), b4.tape.trans (b3.tape.trans b2.tape), b4.output.trans (b3.output.trans b2.output), Nat.le_trans b2.size (Nat.le_trans b3.size b4.size), fun q hq hne => ?_⟩⟩
    · rw [b4.cell (p := ⟨g, i, none⟩) t3.lt, World.cell?_setCells_out g _ 24 w2 ⟨g, i, none⟩ (fun _ _ => .inl hi), b2.cell (p := ⟨g, i, none⟩) h.lt]
    · rw [b4.block q (Nat.lt_of_lt_of_le hq (Nat.le_trans b2.size b3.size))]
      rw [heap_setCells g q (fun e => hne (by rw [e]))]
      exact b2.block q hq
  clear h hu hgr hz
  go_enter Try.func39, Try.ntmps39
  go_wp2_with fail
  refine wp_region_held_drew (S := fun w' => (loadVar 23 ⟨g, 0, none⟩).run Try.prog w' = .ok (.agg (cc c)) w' ∧ (loadVar 24 ⟨g, 15, none⟩).run Try.prog w' = .ok (.agg (zs a)) w') (by kernel_rfl) (AL.out _ D0.out) (fun hS => ?_)
  try simp only [List.size_toArray, List.length_cons, List.length_nil, Nat.reduceAdd]
  refine wpAnyH_take (i := 0) (v := ?_) (by simp only [List.getElem?_toArray, List.getElem?_cons_succ, List.getElem?_cons_zero]; rfl) (by kernel_rfl) (by kernel_rfl) (by kernel_rfl) (by exact fun _ _ _ h => h) (Or.inl ⟨by rfl, ?_⟩) hS ?_
  rotate_left
  · intro w hSw
    go_simp
    try with_reducible rfl
  try simp only [Act.put, List.setIfInBounds_toArray, List.set_cons_zero, List.set_cons_succ]
  refine wpAnyH_take (i := 1) (v := ?_) (by simp only [List.getElem?_toArray, List.getElem?_cons_succ, List.getElem?_cons_zero]; rfl) (by kernel_rfl) (by kernel_rfl) (by kernel_rfl) (by exact fun _ _ _ h => h) (Or.inl ⟨by rfl, ?_⟩) hS ?_
  rotate_left
  · intro w hSw
    go_simp
    try with_reducible rfl
  try simp only [Act.put, List.setIfInBounds_toArray, List.set_cons_zero, List.set_cons_succ]
  refine wpAnyH_take (i := 2) (v := ?_) (by simp only [List.getElem?_toArray, List.getElem?_cons_succ, List.getElem?_cons_zero]; rfl) (by kernel_rfl) (by kernel_rfl) (by kernel_rfl) (by exact fun _ _ _ h => h) (Or.inl ⟨by rfl, ?_⟩) hS ?_
  rotate_left
  · intro w hSw
    go_simp
    try with_reducible rfl
  try simp only [Act.put, List.setIfInBounds_toArray, List.set_cons_zero, List.set_cons_succ]
  refine wpAnyH_take (i := 3) (v := ?_) (by simp only [List.getElem?_toArray, List.getElem?_cons_succ, List.getElem?_cons_zero]; rfl) (by kernel_rfl) (by kernel_rfl) (by kernel_rfl) (by exact fun _ _ _ h => h) (Or.inl ⟨by rfl, ?_⟩) hS ?_
  rotate_left
  · intro w hSw
    go_simp
    try with_reducible rfl
  try simp only [Act.put, List.setIfInBounds_toArray, List.set_cons_zero, List.set_cons_succ]
  refine wpAnyH_take (i := 4) (v := .agg (cc c)) (by simp only [List.getElem?_toArray, List.getElem?_cons_succ, List.getElem?_cons_zero]; rfl) (by kernel_rfl) (by kernel_rfl) (by kernel_rfl) (by exact fun _ _ _ h => h) (Or.inl ⟨by rfl, ?_⟩) hS ?_
  · intro w hSw
    exact exec_load 23 (.tmp 8) rfl ⟨g, 0, none⟩ rfl _ w hSw.1
  try simp only [Act.put, List.setIfInBounds_toArray, List.set_cons_zero, List.set_cons_succ]
  refine wpAnyH_take (i := 5) (v := ?_) (by simp only [List.getElem?_toArray, List.getElem?_cons_succ, List.getElem?_cons_zero]; rfl) (by kernel_rfl) (by kernel_rfl) (by kernel_rfl) (by exact fun _ _ _ h => h) (Or.inl ⟨by rfl, ?_⟩) hS ?_
  rotate_left
  · intro w hSw
    go_simp
    try with_reducible rfl
  try simp only [Act.put, List.setIfInBounds_toArray, List.set_cons_zero, List.set_cons_succ]
  refine wpAnyH_take (i := 6) (v := ?_) (by simp only [List.getElem?_toArray, List.getElem?_cons_succ, List.getElem?_cons_zero]; rfl) (by kernel_rfl) (by kernel_rfl) (by kernel_rfl) (by exact fun _ _ _ h => h) (Or.inl ⟨by rfl, ?_⟩) hS ?_
  rotate_left
  · intro w hSw
    go_simp
    try with_reducible rfl
  try simp only [Act.put, List.setIfInBounds_toArray, List.set_cons_zero, List.set_cons_succ]
  refine wpAnyH_take (i := 7) (v := ?_) (by simp only [List.getElem?_toArray, List.getElem?_cons_succ, List.getElem?_cons_zero]; rfl) (by kernel_rfl) (by kernel_rfl) (by kernel_rfl) (by exact fun _ _ _ h => h) (Or.inl ⟨by rfl, ?_⟩) hS ?_
  rotate_left
  · intro w hSw
    go_simp
    try with_reducible rfl
  try simp only [Act.put, List.setIfInBounds_toArray, List.set_cons_zero, List.set_cons_succ]
  refine wpAnyH_take (i := 8) (v := ?_) (by simp only [List.getElem?_toArray, List.getElem?_cons_succ, List.getElem?_cons_zero]; rfl) (by kernel_rfl) (by kernel_rfl) (by kernel_rfl) (by exact fun _ _ _ h => h) (Or.inl ⟨by rfl, ?_⟩) hS ?_
  rotate_left
  · intro w hSw
    go_simp
    try with_reducible rfl
  try simp only [Act.put, List.setIfInBounds_toArray, List.set_cons_zero, List.set_cons_succ]
  refine wpAnyH_take (i := 9) (v := .agg (zs a)) (by simp only [List.getElem?_toArray, List.getElem?_cons_succ, List.getElem?_cons_zero]; rfl) (by kernel_rfl) (by kernel_rfl) (by kernel_rfl) (by exact fun _ _ _ h => h) (Or.inl ⟨by rfl, ?_⟩) hS ?_
  · intro w hSw
    exact exec_load 24 (.tmp 13) rfl ⟨g, 15, none⟩ rfl _ w hSw.2
  try simp only [Act.put, List.setIfInBounds_toArray, List.set_cons_zero, List.set_cons_succ]
  refine wpAnyH_ready (rs := [10]) (by kernel_rfl) (by simp) ?_
  refine AllReadyH.cons (by simp only [List.getElem?_toArray, List.getElem?_cons_succ, List.getElem?_cons_zero]; rfl) (fun K hK => ?_) AllReadyH.nil
  go_simp
  go_at_call 51
  refine (HZ.out _).mono ?_
  rintro e w2 ⟨rfl, b2⟩
  have D1 : Hid (Below w.heap.size w w2) := Lib.hid (D0.out.trans (b2.mono D0.out.size))
  clear b2
  refine hK.out _ _ (AL.out _ D1.out) (fun hS => ?_)
  clear hK K
  try simp only [Act.put, List.setIfInBounds_toArray, List.set_cons_zero, List.set_cons_succ]
  refine wpAnyH_take (i := 11) (v := ?_) (by simp only [List.getElem?_toArray, List.getElem?_cons_succ, List.getElem?_cons_zero]; rfl) (by kernel_rfl) (by kernel_rfl) (by kernel_rfl) (by exact fun _ _ _ h => h) (Or.inl ⟨by rfl, ?_⟩) hS ?_
  rotate_left
  · intro w hSw
    go_simp
    try with_reducible rfl
  try simp only [Act.put, List.setIfInBounds_toArray, List.set_cons_zero, List.set_cons_succ]
  refine wpAnyH_take (i := 12) (v := ?_) (by simp only [List.getElem?_toArray, List.getElem?_cons_succ, List.getElem?_cons_zero]; rfl) (by kernel_rfl) (by kernel_rfl) (by kernel_rfl) (by exact fun _ _ _ h => h) (Or.inl ⟨by rfl, ?_⟩) hS ?_
  rotate_left
  · intro w hSw
    go_simp
    try with_reducible rfl
  try simp only [Act.put, List.setIfInBounds_toArray, List.set_cons_zero, List.set_cons_succ]
  have T2 : Hid (Tt (w2.setCells g 24 (szV c a).toList) g c l a) := Lib.hid ((HT.out w2 D1.out).puts 24 (by omega) _)
  have R2 : Hid ((w2.setCells g 24 (szV c a).toList).rangeAt g 24 (szV c a).toList) := Lib.hid (World.rangeAt_setCells_same w2 g 24 _ ((HT.out w2 D1.out).sub 24 8 (by omega)))
  refine wpAnyH_ready (rs := [13]) (by kernel_rfl) (by simp) ?_
  refine AllReadyH.cons (by simp only [List.getElem?_toArray, List.getElem?_cons_succ, List.getElem?_cons_zero]; rfl) (fun K hK => ?_) AllReadyH.nil
  refine wp_store_mid 76 (.tmp 17) (.tmp 15) rfl g 24 (szV c a) rfl rfl ((HT.out w2 D1.out).sub 24 8 (by omega)) i76 (one_szV c a) ?_
  refine hK.out _ _ (ALT.out _ T2.out) (fun hS => ?_)
  clear hK K
  try simp only [Act.put, List.setIfInBounds_toArray, List.set_cons_zero, List.set_cons_succ]
  refine wpAnyH_done (by kernel_rfl) ?_ _
  obtain ⟨w3, hw3⟩ : ∃ w3, w3 = w2.setCells g 24 (szV c a).toList := ⟨_, rfl⟩
  rw [← hw3] at T2 R2 hS ⊢
  replace hw3 := Lib.hid hw3
  go_wp2_with fail
  refine (HO.out _).mono ?_
  rintro e w4 ⟨rfl, b4⟩
  have RK : Hid (Rk w w4 g c l a 0) := Lib.hid (HK0.out w2 w3 w4 D1.out hw3.out b4)
  have hN := Lib.hid (nx_le c a HB)
  clear b4
  go_wp2_with fail
  go_loopw [19, 2] (fun i v wr => ∃ k : Nat, k ≤ 8 ∧ i = .int .i64 (k : Int) ∧ v = .int .i64 (nx c a k) ∧ Rk w wr g c l a k) (fun i _ _ => 8 - (intOf i).toNat)
  case atStart => exact ⟨0, by omega, rfl, rfl, RK.out⟩
  case round =>
    clear RK
    obtain ⟨k, hk, rfl, rfl, hR⟩ := hrel
    by_cases hlt : k < 8
    · have hS := Lib.hid (hR.step hlt)
      have ho := ordN_lt k
      have hcs0 := hR.2.1 (ordN k) _ (szV_at c a (ordN k) ho)
      have hfz0 := hR.1.free (32 + ordN k) (by omega)
      obtain ⟨v0, hv0⟩ := hR.1.some (32 + ordN k) (by omega)
      have hnx : Hid (nx c a (k + 1) = nx c a k + (sz c a).getD (ordN k) 0) := Lib.hid rfl
      have hn := hN.out k
      have hb := HB (ordN k)
      obtain ⟨S, hSS⟩ : ∃ S, S = (sz c a).getD (ordN k) 0 := ⟨_, rfl⟩
      rw [← hSS] at hcs0 hnx hb
      obtain ⟨N, hNN⟩ : ∃ N, N = nx c a k := ⟨_, rfl⟩
      rw [← hNN] at hnx hn hS
      rw [← hNN]
      replace hSS := Lib.hid hSS
      replace hNN := Lib.hid hNN
      clear hR ho
      rcases (show k = 0 ∨ k = 1 ∨ k = 2 ∨ k = 3 ∨ k = 4 ∨ k = 5 ∨ k = 6 ∨ k = 7 by omega) with rfl | rfl | rfl | rfl | rfl | rfl | rfl | rfl
      · have hx : ∀ w', (Instr.index 76 (.agg ordL) (.int .i64 0)).run Try.prog w' = .ok (.int .i64 0) w' := fun _ => by kernel_rfl
        have hcs : wr.cell? ⟨g, 24, none⟩ = some (.int .i64 S) := hcs0
        have hfz : wr.frozen? ⟨g, 32, none⟩ = false := hfz0
        have hv : wr.cell? ⟨g, 32, none⟩ = some v0 := hv0
        clear hcs0 hfz0 hv0
        go_wp2
        go_roundw
        case rel => exact ⟨1, by omega, rfl, by rw [hnx.out], hS.out⟩
        case measure => simp [intOf]
      · have hx : ∀ w', (Instr.index 76 (.agg ordL) (.int .i64 1)).run Try.prog w' = .ok (.int .i64 4) w' := fun _ => by kernel_rfl
        have hcs : wr.cell? ⟨g, 28, none⟩ = some (.int .i64 S) := hcs0
        have hfz : wr.frozen? ⟨g, 36, none⟩ = false := hfz0
        have hv : wr.cell? ⟨g, 36, none⟩ = some v0 := hv0
        clear hcs0 hfz0 hv0
        go_wp2
        go_roundw
        case rel => exact ⟨2, by omega, rfl, by rw [hnx.out], hS.out⟩
        case measure => simp [intOf]
      · have hx : ∀ w', (Instr.index 76 (.agg ordL) (.int .i64 2)).run Try.prog w' = .ok (.int .i64 5) w' := fun _ => by kernel_rfl
        have hcs : wr.cell? ⟨g, 29, none⟩ = some (.int .i64 S) := hcs0
        have hfz : wr.frozen? ⟨g, 37, none⟩ = false := hfz0
        have hv : wr.cell? ⟨g, 37, none⟩ = some v0 := hv0
        clear hcs0 hfz0 hv0
        go_wp2
        go_roundw
        case rel => exact ⟨3, by omega, rfl, by rw [hnx.out], hS.out⟩
        case measure => simp [intOf]
      · have hx : ∀ w', (Instr.index 76 (.agg ordL) (.int .i64 3)).run Try.prog w' = .ok (.int .i64 6) w' := fun _ => by kernel_rfl
        have hcs : wr.cell? ⟨g, 30, none⟩ = some (.int .i64 S) := hcs0
        have hfz : wr.frozen? ⟨g, 38, none⟩ = false := hfz0
        have hv : wr.cell? ⟨g, 38, none⟩ = some v0 := hv0
        clear hcs0 hfz0 hv0
        go_wp2
        go_roundw
        case rel => exact ⟨4, by omega, rfl, by rw [hnx.out], hS.out⟩
        case measure => simp [intOf]
      · have hx : ∀ w', (Instr.index 76 (.agg ordL) (.int .i64 4)).run Try.prog w' = .ok (.int .i64 7) w' := fun _ => by kernel_rfl
        have hcs : wr.cell? ⟨g, 31, none⟩ = some (.int .i64 S) := hcs0
        have hfz : wr.frozen? ⟨g, 39, none⟩ = false := hfz0
        have hv : wr.cell? ⟨g, 39, none⟩ = some v0 := hv0
        clear hcs0 hfz0 hv0
        go_wp2
        go_roundw
        case rel => exact ⟨5, by omega, rfl, by rw [hnx.out], hS.out⟩
        case measure => simp [intOf]
      · have hx : ∀ w', (Instr.index 76 (.agg ordL) (.int .i64 5)).run Try.prog w' = .ok (.int .i64 1) w' := fun _ => by kernel_rfl
        have hcs : wr.cell? ⟨g, 25, none⟩ = some (.int .i64 S) := hcs0
        have hfz : wr.frozen? ⟨g, 33, none⟩ = false := hfz0
        have hv : wr.cell? ⟨g, 33, none⟩ = some v0 := hv0
        clear hcs0 hfz0 hv0
        go_wp2
        go_roundw
        case rel => exact ⟨6, by omega, rfl, by rw [hnx.out], hS.out⟩
        case measure => simp [intOf]
      · have hx : ∀ w', (Instr.index 76 (.agg ordL) (.int .i64 6)).run Try.prog w' = .ok (.int .i64 2) w' := fun _ => by kernel_rfl
        have hcs : wr.cell? ⟨g, 26, none⟩ = some (.int .i64 S) := hcs0
        have hfz : wr.frozen? ⟨g, 34, none⟩ = false := hfz0
        have hv : wr.cell? ⟨g, 34, none⟩ = some v0 := hv0
        clear hcs0 hfz0 hv0
        go_wp2
        go_roundw
        case rel => exact ⟨7, by omega, rfl, by rw [hnx.out], hS.out⟩
        case measure => simp [intOf]
      · have hx : ∀ w', (Instr.index 76 (.agg ordL) (.int .i64 7)).run Try.prog w' = .ok (.int .i64 3) w' := fun _ => by kernel_rfl
        have hcs : wr.cell? ⟨g, 27, none⟩ = some (.int .i64 S) := hcs0
        have hfz : wr.frozen? ⟨g, 35, none⟩ = false := hfz0
        have hv : wr.cell? ⟨g, 35, none⟩ = some v0 := hv0
        clear hcs0 hfz0 hv0
        go_wp2
        go_roundw
        case rel => exact ⟨8, by omega, rfl, by rw [hnx.out], hS.out⟩
        case measure => simp [intOf]
    · obtain rfl : k = 8 := by omega
      replace hR := Lib.hid hR
      go_wp2
      go_end0
      exact ⟨rfl, hR.out⟩
end Go.Proofs.Ytcggghiionlngaa.AreG
