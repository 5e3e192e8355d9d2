/- Blocks on the wire: the document's reading of any bytes. -/
import Derived.Test.YtbnjijlpbeplmaaTokC
import Derived.Test.YtbnjijlpbeplmaaReg
import Derived.IntWalk
namespace Go.Proofs.Ytbnjijlpbeplmaa.TokD
open Go.ChangeShapes Go.WideShapes Go.ChangeAt Go.RowKit
open CrcM CrcB CrcL CrcQ TokA TokB TokC
set_option linter.unusedVariables false
set_option maxHeartbeats 1000000

theorem refEmpty (a : Option Addr) (c : Nat) (size : Int) (w : World) :
    Calls Try.prog 51 #[.slice a 0 c, .int .i64 size] w fun e w' => e = .returned (none3 23) ∧ w = w' := by
  go_enter Try.func51, Try.ntmps51
  go_wp2
  go_ret3
  exact ⟨rfl, rfl⟩

theorem refForm (a : Option Addr) (l : List B8) (n c : Nat) (size : Int) (w : World) (hn : l.length = n) (hr : Rd w a l) (hpos : 0 < n) (hne : l.getD 0 0 ≠ 254) :
    Calls Try.prog 51 #[.slice a n c, .int .i64 size] w fun e w' => e = .returned (none3 24) ∧ w = w' := by
  obtain ⟨b, off, ea, hc⟩ := hr.2 0 (by omega)
  subst ea
  obtain ⟨x, hx⟩ : ∃ x, x = l.getD 0 0 := ⟨_, rfl⟩
  rw [← hx] at hc hne
  have h254 : ((x.toNat : Int) != 254) = true := by
    rw [bne_iff_ne]
    intro e
    exact hne (BitVec.eq_of_toNat_eq (by have : x.toNat = 254 := by omega
                                         rw [this]; rfl))
  have hz : ((n : Int) == 0) = false := by simp; omega
  have hp : 0 < (n : Int) := by omega
  simp only [Nat.add_zero] at hc
  clear hx hne hr hn
  go_enter Try.func51, Try.ntmps51
  go_wp2
  go_ret3
  exact ⟨rfl, rfl⟩

theorem refShort (a : Option Addr) (l : List B8) (n c k : Nat) (w : World) (hn : l.length = n) (hr : Rd w a l) (hpos : 0 < n) (h0 : l.getD 0 0 = 254) (hk : k ≤ 4096) (hs : n < k + 3) :
    Calls Try.prog 51 #[.slice a n c, .int .i64 k] w fun e w' => e = .returned (none3 23) ∧ w = w' := by
  obtain ⟨b, off, ea, hc⟩ := hr.2 0 (by omega)
  subst ea
  rw [h0] at hc
  have hc' : w.cell? ⟨b, off, none⟩ = some (.int .u8 254) := by simpa using hc
  have hz : ((n : Int) == 0) = false := by simp; omega
  have hp : 0 < (n : Int) := by omega
  have d1 : decide ((k : Int) < 0) = false := by simp
  have d2 : decide ((4096 : Int) < (k : Int)) = false := by simp; omega
  have d3 : decide ((n : Int) < (k : Int) + 3) = true := by simp; omega
  clear hc h0 hr hn
  go_enter Try.func51, Try.ntmps51
  go_wp2
  go_ret3
  exact ⟨rfl, rfl⟩

theorem refForm2 (a : Option Addr) (l : List B8) (n c : Nat) (size : Int) (w : World) (hn : l.length = n) (hr : Rd w a l) (hpos : 0 < n) (h0 : l.getD 0 0 = 254) (hs : size < 0 ∨ 4096 < size) :
    Calls Try.prog 51 #[.slice a n c, .int .i64 size] w fun e w' => e = .returned (none3 24) ∧ w = w' := by
  obtain ⟨b, off, ea, hc⟩ := hr.2 0 (by omega)
  subst ea
  rw [h0] at hc
  have hc' : w.cell? ⟨b, off, none⟩ = some (.int .u8 254) := by simpa using hc
  have hz : ((n : Int) == 0) = false := by simp; omega
  have hp : 0 < (n : Int) := by omega
  clear hc h0 hr hn
  rcases hs with hs | hs
  · have d1 : decide (size < 0) = true := by simpa using hs
    go_enter Try.func51, Try.ntmps51
    go_wp2
    go_ret3
    exact ⟨rfl, rfl⟩
  · have d1 : decide (size < 0) = false := by simp; omega
    have d2 : decide ((4096 : Int) < size) = true := by simpa using hs
    go_enter Try.func51, Try.ntmps51
    go_wp2
    go_ret3
    exact ⟨rfl, rfl⟩


set_option maxRecDepth 100000 in
theorem refSum (a : Option Addr) (l : List B8) (n c k : Nat) (w : World) (hn : l.length = n) (hr : Rd w a l) (h0 : l.getD 0 0 = 254) (hk : k ≤ 4096) (hs : k + 3 ≤ n) (hcn : n ≤ c) (hsum : ¬ sum16 (block l k) = sumOf l k) (ha : ∀ x, 0 < l.length → a = some x → x.block < w.heap.size) :
    Calls Try.prog 51 #[.slice a n c, .int .i64 k] w fun e w' => e = .returned (none3 25) ∧ Below w.heap.size w w' := by
  have hm := hr.1
  rw [hn] at hm
  unfold maxLen at hm
  obtain ⟨b, off, ea, hc⟩ := hr.2 0 (by omega)
  subst ea
  rw [h0] at hc
  have hc' : w.cell? ⟨b, off, none⟩ = some (.int .u8 254) := by simpa using hc
  have hbb : b < w.heap.size := ha ⟨b, off, none⟩ (by omega) rfl
  have HB := block_rd hr (k := k) (by omega)
  have HL : Hid (∀ w', Below w.heap.size w w' → Calls Try.prog 55 #[.slice (some ⟨b, off + 1, none⟩) k (c - 1)] w' fun e w'' => ∃ a' c', e = .returned (.slice a' (k + 3) c') ∧ Own w'' w'.heap.size (.slice a' (k + 3) c') (laid (block l k)) ∧ Below w'.heap.size w' w'') := Lib.hid fun w' hb' =>
    layR _ (block l k) k (c - 1) w' HB.2 (Rd.below HB.1 hb' (fun x _ e => by injection e with e; subst e; exact hbb)) (fun x _ e => by injection e with e; subst e; exact Nat.lt_of_lt_of_le hbb hb'.size) (by omega)
  have HT : Hid (∀ w', Below w.heap.size w w' → (convert 24 9 (.slice (some ⟨b, off, none⟩) (k + 3) c)).run Try.prog w' = .ok (.string (strB (l.take (k + 3)))) w') := Lib.hid fun w' hb' =>
    conv w' _ (l.take (k + 3)) (k + 3) c (by simp; omega) (Rd.take (Rd.below hr hb' (fun x _ e => by injection e with e; subst e; exact hbb)) (k + 3))
  have hq : laid (block l k) = l.take (k + 3) ↔ false = true := by
    rw [tail_sum l k (by omega)]
    exact ⟨fun h => absurd h.2 hsum, fun h => by cases h⟩
  have hT := testS (laid (block l k)) (l.take (k + 3)) false hq
  have hLL := Lib.hid (show (laid (block l k)).length = k + 3 by rw [laid_length, HB.2])
  have HC := Lib.hid (fun w' a c h => conv w' a (laid (block l k)) (k + 3) c hLL.out h)
  have HBK := Lib.hid HB.1
  have HBL := Lib.hid HB.2
  generalize hS1 : strB (laid (block l k)) = S1 at hT HC
  generalize hS2 : strB (l.take (k + 3)) = S2 at hT HT
  have hT' : (S1.toList != S2.toList) = !false := by rw [bne, hT]
  have hz : ((n : Int) == 0) = false := by simp; omega
  have hp : 0 < (n : Int) := by omega
  have d1 : decide ((k : Int) < 0) = false := by simp
  have d2 : decide ((4096 : Int) < (k : Int)) = false := by simp; omega
  have d3 : decide ((n : Int) < (k : Int) + 3) = false := by simp; omega
  have l1 : 1 + (k : Int) < (n : Int) := by omega
  have l2 : 2 + (k : Int) < (n : Int) := by omega
  have l3 : 1 + (k : Int) ≤ (c : Int) := by omega
  have l4 : (k : Int) + 3 ≤ (c : Int) := by omega
  have l5 : k + 3 ≤ c := by omega
  have l6 : IntKind.i64.wrap ((k : Int) + 3) = (k : Int) + 3 := IntWalk.i64_in _ (by omega)
  have l7 : (0 : Int) ≤ (k : Int) + 3 := by omega
  have l8 : ((k : Int) + 3).toNat = k + 3 := by omega
  have c1 : ¬ c = 1 := by omega
  replace hsum := Lib.hid hsum
  clear hc h0 hr hn hS1 hS2 hq ha HB
  have D0 : Hid (Below w.heap.size w w.drew) := Lib.hid (Below.refl _ _).drew
  go_enter Try.func51, Try.ntmps51
  go_wp2_with fail
  refine wp_region_held_drew (S := fun w' => (convert 24 9 (.slice (some ⟨b, off, none⟩) (k + 3) c)).run Try.prog w' = .ok (.string S2) w') (by kernel_rfl) (HT.out _ D0.out) (fun hS => ?_)
  refine wpAnyH_take (i := 0) (v := ?_) (by simp only [List.getElem?_toArray, List.getElem?_cons_succ, List.getElem?_cons_zero]; rfl) (by kernel_rfl) (by kernel_rfl) (by kernel_rfl) (by exact fun _ _ _ h => h) (Or.inl ⟨by rfl, ?_⟩) hS ?_
  rotate_left
  · intro w hSw
    go_simp
    try with_reducible rfl
  try simp only [Act.put, List.setIfInBounds_toArray, List.set_cons_zero, List.set_cons_succ]
  refine wpAnyH_take (i := 3) (v := ?_) (by simp only [List.getElem?_toArray, List.getElem?_cons_succ, List.getElem?_cons_zero]; rfl) (by kernel_rfl) (by kernel_rfl) (by kernel_rfl) (by exact fun _ _ _ h => h) (Or.inl ⟨by rfl, ?_⟩) hS ?_
  rotate_left
  · intro w hSw
    go_simp
    try with_reducible rfl
  try simp only [Act.put, List.setIfInBounds_toArray, List.set_cons_zero, List.set_cons_succ]
  refine wpAnyH_take (i := 4) (v := ?_) (by simp only [List.getElem?_toArray, List.getElem?_cons_succ, List.getElem?_cons_zero]; rfl) (by kernel_rfl) (by kernel_rfl) (by kernel_rfl) (by exact fun _ _ _ h => h) (Or.inl ⟨by rfl, ?_⟩) hS ?_
  rotate_left
  · intro w hSw
    go_simp
    try with_reducible rfl
  try simp only [Act.put, List.setIfInBounds_toArray, List.set_cons_zero, List.set_cons_succ]
  refine wpAnyH_take (i := 5) (v := ?_) (by simp only [List.getElem?_toArray, List.getElem?_cons_succ, List.getElem?_cons_zero]; rfl) (by kernel_rfl) (by kernel_rfl) (by kernel_rfl) (by exact fun _ _ _ h => h) (Or.inl ⟨by rfl, ?_⟩) hS ?_
  rotate_left
  · intro w hSw
    go_simp
    try with_reducible rfl
  try simp only [Act.put, List.setIfInBounds_toArray, List.set_cons_zero, List.set_cons_succ]
  refine wpAnyH_take (i := 6) (v := ?_) (by simp only [List.getElem?_toArray, List.getElem?_cons_succ, List.getElem?_cons_zero]; rfl) (by kernel_rfl) (by kernel_rfl) (by kernel_rfl) (by exact fun _ _ _ h => h) (Or.inl ⟨by rfl, ?_⟩) hS ?_
  rotate_left
  · intro w hSw
    go_simp
    try with_reducible rfl
  try simp only [Act.put, List.setIfInBounds_toArray, List.set_cons_zero, List.set_cons_succ]
  refine wpAnyH_take (i := 7) (v := ?_) (by simp only [List.getElem?_toArray, List.getElem?_cons_succ, List.getElem?_cons_zero]; rfl) (by kernel_rfl) (by kernel_rfl) (by kernel_rfl) (by exact fun _ _ _ h => h) (Or.inl ⟨by rfl, ?_⟩) hS ?_
  rotate_left
  · intro w hSw
    go_simp
    try with_reducible rfl
  try simp only [Act.put, List.setIfInBounds_toArray, List.set_cons_zero, List.set_cons_succ]
  refine wpAnyH_ready (rs := [1]) (by kernel_rfl) (by simp) ?_
  refine AllReadyH.cons (by simp only [List.getElem?_toArray, List.getElem?_cons_succ, List.getElem?_cons_zero]; rfl) (fun K hK => ?_) AllReadyH.nil
  go_simp
  go_at_call 55
  refine (HL.out _ D0.out).mono ?_
  rintro e wx ⟨ax, cx, rfl, ox, bx⟩
  have Dx : Hid (Below w.heap.size w wx) := Lib.hid (D0.out.trans (bx.mono D0.out.size))
  refine hK.out _ _ (HT.out wx Dx.out) (fun hS => ?_)
  clear hK K
  try simp only [Act.put, List.setIfInBounds_toArray, List.set_cons_zero, List.set_cons_succ]
  refine Reg.raise (fun w' => (convert 24 9 (.slice (some ⟨b, off, none⟩) (k + 3) c)).run Try.prog w' = .ok (.string S2) w' ∧ (convert 24 9 (.slice ax (k + 3) cx)).run Try.prog w' = .ok (.string S1) w') (fun w h => h.1) ⟨hS, HC.out wx ax cx ox.rd.1⟩ (fun hS => ?_)
  refine wpAnyH_take (i := 2) (v := ?_) (by simp only [List.getElem?_toArray, List.getElem?_cons_succ, List.getElem?_cons_zero]; rfl) (by kernel_rfl) (by kernel_rfl) (by kernel_rfl) (by exact fun _ _ _ h => h) (Or.inl ⟨by rfl, ?_⟩) hS ?_
  rotate_left
  · intro w hSw
    go_simp
    try with_reducible rfl
  try simp only [Act.put, List.setIfInBounds_toArray, List.set_cons_zero, List.set_cons_succ]
  refine wpAnyH_take (i := 8) (v := ?_) (by simp only [List.getElem?_toArray, List.getElem?_cons_succ, List.getElem?_cons_zero]; rfl) (by kernel_rfl) (by kernel_rfl) (by kernel_rfl) (by exact fun _ _ _ h => h) (Or.inl ⟨by rfl, ?_⟩) hS ?_
  rotate_left
  · intro w hSw
    go_simp
    try with_reducible rfl
  try simp only [Act.put, List.setIfInBounds_toArray, List.set_cons_zero, List.set_cons_succ]
  refine wpAnyH_done (by kernel_rfl) ?_ _
  clear hS bx
  go_wp2
  go_ret3
  exact ⟨rfl, Dx.out⟩

set_option maxRecDepth 100000 in
theorem refGood (a : Option Addr) (l : List B8) (n c k : Nat) (w : World) (hn : l.length = n) (hr : Rd w a l) (h0 : l.getD 0 0 = 254) (hk : k ≤ 4096) (hs : k + 3 ≤ n) (hcn : n ≤ c) (hsum : sum16 (block l k) = sumOf l k) (ha : ∀ x, 0 < l.length → a = some x → x.block < w.heap.size) :
    Calls Try.prog 51 #[.slice a n c, .int .i64 k] w fun e w' => ∃ a' c', e = .returned (.tuple #[.slice a' k c', .int .i64 ((k : Int) + 3), .int .i64 0]) ∧ Rd w' a' (block l k) ∧ (∀ x, a' = some x → w.heap.size ≤ x.block ∧ x.block < w'.heap.size) ∧ Below w.heap.size w w' := by
  have hm := hr.1
  rw [hn] at hm
  unfold maxLen at hm
  obtain ⟨b, off, ea, hc⟩ := hr.2 0 (by omega)
  subst ea
  rw [h0] at hc
  have hc' : w.cell? ⟨b, off, none⟩ = some (.int .u8 254) := by simpa using hc
  have hbb : b < w.heap.size := ha ⟨b, off, none⟩ (by omega) rfl
  have HB := block_rd hr (k := k) (by omega)
  have HL : Hid (∀ w', Below w.heap.size w w' → Calls Try.prog 55 #[.slice (some ⟨b, off + 1, none⟩) k (c - 1)] w' fun e w'' => ∃ a' c', e = .returned (.slice a' (k + 3) c') ∧ Own w'' w'.heap.size (.slice a' (k + 3) c') (laid (block l k)) ∧ Below w'.heap.size w' w'') := Lib.hid fun w' hb' =>
    layR _ (block l k) k (c - 1) w' HB.2 (Rd.below HB.1 hb' (fun x _ e => by injection e with e; subst e; exact hbb)) (fun x _ e => by injection e with e; subst e; exact Nat.lt_of_lt_of_le hbb hb'.size) (by omega)
  have HT : Hid (∀ w', Below w.heap.size w w' → (convert 24 9 (.slice (some ⟨b, off, none⟩) (k + 3) c)).run Try.prog w' = .ok (.string (strB (l.take (k + 3)))) w') := Lib.hid fun w' hb' =>
    conv w' _ (l.take (k + 3)) (k + 3) c (by simp; omega) (Rd.take (Rd.below hr hb' (fun x _ e => by injection e with e; subst e; exact hbb)) (k + 3))
  have hq : laid (block l k) = l.take (k + 3) ↔ true = true := by
    rw [tail_sum l k (by omega)]
    exact ⟨fun _ => rfl, fun _ => ⟨h0, hsum⟩⟩
  have hT := testS (laid (block l k)) (l.take (k + 3)) true hq
  have hLL := Lib.hid (show (laid (block l k)).length = k + 3 by rw [laid_length, HB.2])
  have HC := Lib.hid (fun w' a c h => conv w' a (laid (block l k)) (k + 3) c hLL.out h)
  have HBK := Lib.hid HB.1
  have HBL := Lib.hid HB.2
  generalize hS1 : strB (laid (block l k)) = S1 at hT HC
  generalize hS2 : strB (l.take (k + 3)) = S2 at hT HT
  have hT' : (S1.toList != S2.toList) = !true := by rw [bne, hT]
  have hz : ((n : Int) == 0) = false := by simp; omega
  have hp : 0 < (n : Int) := by omega
  have d1 : decide ((k : Int) < 0) = false := by simp
  have d2 : decide ((4096 : Int) < (k : Int)) = false := by simp; omega
  have d3 : decide ((n : Int) < (k : Int) + 3) = false := by simp; omega
  have l1 : 1 + (k : Int) < (n : Int) := by omega
  have l2 : 2 + (k : Int) < (n : Int) := by omega
  have l3 : 1 + (k : Int) ≤ (c : Int) := by omega
  have l4 : (k : Int) + 3 ≤ (c : Int) := by omega
  have l5 : k + 3 ≤ c := by omega
  have l6 : IntKind.i64.wrap ((k : Int) + 3) = (k : Int) + 3 := IntWalk.i64_in _ (by omega)
  have l7 : (0 : Int) ≤ (k : Int) + 3 := by omega
  have l8 : ((k : Int) + 3).toNat = k + 3 := by omega
  have c1 : ¬ c = 1 := by omega
  replace hsum := Lib.hid hsum
  clear hc h0 hr hn hS1 hS2 hq ha HB
  have D0 : Hid (Below w.heap.size w w.drew) := Lib.hid (Below.refl _ _).drew
  go_enter Try.func51, Try.ntmps51
  go_wp2_with fail
  refine wp_region_held_drew (S := fun w' => (convert 24 9 (.slice (some ⟨b, off, none⟩) (k + 3) c)).run Try.prog w' = .ok (.string S2) w') (by kernel_rfl) (HT.out _ D0.out) (fun hS => ?_)
  refine wpAnyH_take (i := 0) (v := ?_) (by simp only [List.getElem?_toArray, List.getElem?_cons_succ, List.getElem?_cons_zero]; rfl) (by kernel_rfl) (by kernel_rfl) (by kernel_rfl) (by exact fun _ _ _ h => h) (Or.inl ⟨by rfl, ?_⟩) hS ?_
  rotate_left
  · intro w hSw
    go_simp
    try with_reducible rfl
  try simp only [Act.put, List.setIfInBounds_toArray, List.set_cons_zero, List.set_cons_succ]
  refine wpAnyH_take (i := 3) (v := ?_) (by simp only [List.getElem?_toArray, List.getElem?_cons_succ, List.getElem?_cons_zero]; rfl) (by kernel_rfl) (by kernel_rfl) (by kernel_rfl) (by exact fun _ _ _ h => h) (Or.inl ⟨by rfl, ?_⟩) hS ?_
  rotate_left
  · intro w hSw
    go_simp
    try with_reducible rfl
  try simp only [Act.put, List.setIfInBounds_toArray, List.set_cons_zero, List.set_cons_succ]
  refine wpAnyH_take (i := 4) (v := ?_) (by simp only [List.getElem?_toArray, List.getElem?_cons_succ, List.getElem?_cons_zero]; rfl) (by kernel_rfl) (by kernel_rfl) (by kernel_rfl) (by exact fun _ _ _ h => h) (Or.inl ⟨by rfl, ?_⟩) hS ?_
  rotate_left
  · intro w hSw
    go_simp
    try with_reducible rfl
  try simp only [Act.put, List.setIfInBounds_toArray, List.set_cons_zero, List.set_cons_succ]
  refine wpAnyH_take (i := 5) (v := ?_) (by simp only [List.getElem?_toArray, List.getElem?_cons_succ, List.getElem?_cons_zero]; rfl) (by kernel_rfl) (by kernel_rfl) (by kernel_rfl) (by exact fun _ _ _ h => h) (Or.inl ⟨by rfl, ?_⟩) hS ?_
  rotate_left
  · intro w hSw
    go_simp
    try with_reducible rfl
  try simp only [Act.put, List.setIfInBounds_toArray, List.set_cons_zero, List.set_cons_succ]
  refine wpAnyH_take (i := 6) (v := ?_) (by simp only [List.getElem?_toArray, List.getElem?_cons_succ, List.getElem?_cons_zero]; rfl) (by kernel_rfl) (by kernel_rfl) (by kernel_rfl) (by exact fun _ _ _ h => h) (Or.inl ⟨by rfl, ?_⟩) hS ?_
  rotate_left
  · intro w hSw
    go_simp
    try with_reducible rfl
  try simp only [Act.put, List.setIfInBounds_toArray, List.set_cons_zero, List.set_cons_succ]
  refine wpAnyH_take (i := 7) (v := ?_) (by simp only [List.getElem?_toArray, List.getElem?_cons_succ, List.getElem?_cons_zero]; rfl) (by kernel_rfl) (by kernel_rfl) (by kernel_rfl) (by exact fun _ _ _ h => h) (Or.inl ⟨by rfl, ?_⟩) hS ?_
  rotate_left
  · intro w hSw
    go_simp
    try with_reducible rfl
  try simp only [Act.put, List.setIfInBounds_toArray, List.set_cons_zero, List.set_cons_succ]
  refine wpAnyH_ready (rs := [1]) (by kernel_rfl) (by simp) ?_
  refine AllReadyH.cons (by simp only [List.getElem?_toArray, List.getElem?_cons_succ, List.getElem?_cons_zero]; rfl) (fun K hK => ?_) AllReadyH.nil
  go_simp
  go_at_call 55
  refine (HL.out _ D0.out).mono ?_
  rintro e wx ⟨ax, cx, rfl, ox, bx⟩
  have Dx : Hid (Below w.heap.size w wx) := Lib.hid (D0.out.trans (bx.mono D0.out.size))
  refine hK.out _ _ (HT.out wx Dx.out) (fun hS => ?_)
  clear hK K
  try simp only [Act.put, List.setIfInBounds_toArray, List.set_cons_zero, List.set_cons_succ]
  refine Reg.raise (fun w' => (convert 24 9 (.slice (some ⟨b, off, none⟩) (k + 3) c)).run Try.prog w' = .ok (.string S2) w' ∧ (convert 24 9 (.slice ax (k + 3) cx)).run Try.prog w' = .ok (.string S1) w') (fun w h => h.1) ⟨hS, HC.out wx ax cx ox.rd.1⟩ (fun hS => ?_)
  refine wpAnyH_take (i := 2) (v := ?_) (by simp only [List.getElem?_toArray, List.getElem?_cons_succ, List.getElem?_cons_zero]; rfl) (by kernel_rfl) (by kernel_rfl) (by kernel_rfl) (by exact fun _ _ _ h => h) (Or.inl ⟨by rfl, ?_⟩) hS ?_
  rotate_left
  · intro w hSw
    go_simp
    try with_reducible rfl
  try simp only [Act.put, List.setIfInBounds_toArray, List.set_cons_zero, List.set_cons_succ]
  refine wpAnyH_take (i := 8) (v := ?_) (by simp only [List.getElem?_toArray, List.getElem?_cons_succ, List.getElem?_cons_zero]; rfl) (by kernel_rfl) (by kernel_rfl) (by kernel_rfl) (by exact fun _ _ _ h => h) (Or.inl ⟨by rfl, ?_⟩) hS ?_
  rotate_left
  · intro w hSw
    go_simp
    try with_reducible rfl
  try simp only [Act.put, List.setIfInBounds_toArray, List.set_cons_zero, List.set_cons_succ]
  refine wpAnyH_done (by kernel_rfl) ?_ _
  clear hS bx
  have HO := Lib.hid (Own.made wx wx.heap.size (Nat.le_refl _) #[] 0 [] rfl (Nat.zero_le _) rfl)
  have hb2 := (Below.refl wx.heap.size wx).alloc (Nat.le_refl _) (.cells #[] 5)
  go_wp2_with (first
    | (at_builtin
       refine wpList_app rfl (.tmp 41) (.tmp 42) rfl wx.heap.size (.slice (some ⟨wx.heap.size, 0, none⟩) 0 0) [] rfl HO.out _ (block l k) k (c - 1) rfl HBL.out (Rd.below HBK.out (Dx.out.trans (hb2.mono Dx.out.size)) (fun x _ e => by injection e with e; subst e; exact hbb)) (block l k) k rfl HBL.out (by omega) hb2.size ?_
       intro a1 c1' w2 hv1 hr1 hg1 hn1
       have hb3 := hb2.grown hg1 hb2.size (HO.out.blocks · · |>.1)
       have HR1 := Lib.hid hr1
       have HN1 := Lib.hid hn1
       clear hr1 hg1 hv1 hn1))
  go_ret3
  exact ⟨a1, c1', rfl, HR1.out, fun x e => ⟨Nat.le_trans Dx.out.size (HN1.out x e).1, (HN1.out x e).2⟩, Dx.out.trans (hb3.mono Dx.out.size)⟩

theorem refAny (a : Option Addr) (l : List B8) (n c : Nat) (s : Int) (w : World) (hn : l.length = n) (hr : Rd w a l) (hc : n ≤ c) (ha : ∀ x, 0 < l.length → a = some x → x.block < w.heap.size) :
    Calls Try.prog 51 #[.slice a n c, .int .i64 s] w (Gives (rdSpec l s) w) := by
  unfold rdSpec
  by_cases h0 : l = []
  · rw [if_pos h0]
    subst h0
    simp at hn
    subst hn
    exact gives_none' rfl (refEmpty a c s w)
  · rw [if_neg h0]
    have hpos : 0 < n := by
      have := List.length_pos_iff.2 h0
      omega
    by_cases h1 : l.getD 0 0 = 254
    · by_cases h2 : s < 0 ∨ 4096 < s
      · rw [if_pos (.inr h2)]
        exact gives_none' rfl (refForm2 a l n c s w hn hr hpos h1 h2)
      · rw [if_neg (by intro h; rcases h with h | h; exact h h1; exact h2 h)]
        obtain ⟨k, rfl⟩ := Int.eq_ofNat_of_zero_le (show 0 ≤ s by omega)
        simp only [Int.toNat_natCast]
        by_cases h3 : n < k + 3
        · rw [if_pos (by omega)]
          exact gives_none' rfl (refShort a l n c k w hn hr hpos h1 (by omega) h3)
        · rw [if_neg (by omega)]
          by_cases h4 : sum16 (block l k) = sumOf l k
          · rw [if_neg (by simpa using h4)]
            refine (refGood a l n c k w hn hr h1 (by omega) (by omega) hc h4 ha).mono ?_
            rintro e w' ⟨a', c', rfl, hr', hb', hw'⟩
            have hl : (block l k).length = k := by simp [block]; omega
            exact ⟨⟨a', c', by rw [hl]; rfl, hr', hb'⟩, hw'⟩
          · rw [if_pos h4]
            exact gives_none rfl (refSum a l n c k w hn hr h1 (by omega) (by omega) hc h4 ha)
    · rw [if_pos (.inl h1)]
      exact gives_none' rfl (refForm a l n c s w hn hr hpos h1)

end Go.Proofs.Ytbnjijlpbeplmaa.TokD
