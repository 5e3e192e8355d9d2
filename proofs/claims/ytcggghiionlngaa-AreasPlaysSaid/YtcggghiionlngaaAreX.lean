/- Areas: bytes as a setting. -/
import Derived.Test.YtcggghiionlngaaAreW
import Derived.StillTailTactics
namespace Go.Proofs.Ytcggghiionlngaa.AreX
open Go.ChangeShapes Go.WideShapes Go.ChangeAt Go.RowKit
open Mem AreA AreL AreT AreK AreU AreV AreW
set_option linter.unusedVariables false
set_option maxHeartbeats 2000000

set_option maxRecDepth 100000 in
theorem decFull19 (b off c : Nat) (l : List Y8) (f : Nat → Int) (e : Int) (D : Int) (w : World) (hf : ∀ k, k < 4 → num l k = f k) (hb : b < w.heap.size) (he : ((l.getD 16 0).toNat : Int) = e) (hd : ((l.getD 17 0).toNat : Int) = D) (hD : 0 ≤ D ∧ D ≤ 1)
    (hc : ∀ i, i < 18 → w.cell? ⟨b, off + i, none⟩ = some (.int .u8 (l.getD i 0).toNat)) :
    Calls Try.prog 19 #[.slice (some ⟨b, off, none⟩) 18 c] w fun e' w' => e' = .returned (.tuple #[.agg #[.int .i64 (f 0), .int .i64 (f 1), .int .i64 (f 2), .int .i64 (f 3), .int .u8 e, .bool (D == 1)], .int .i64 0]) ∧ Below w.heap.size w w' := by
  obtain ⟨w1, hw1⟩ : ∃ w1, w1 = w.alloc (.cells #[.int .i64 0, .int .i64 0, .int .i64 0, .int .i64 0, .int .u8 0, .bool false] 37) := ⟨_, rfl⟩
  obtain ⟨w2, hw2⟩ : ∃ w2, w2 = (w1.alloc (.cells (arr f e (D == 1) 0) 37)).drew := ⟨_, rfl⟩
  have s1 : w1.heap.size = w.heap.size + 1 := by rw [hw1]; simp
  have e1 : Mem.Blk w1 w.heap.size 37 #[.int .i64 0, .int .i64 0, .int .i64 0, .int .i64 0, .int .u8 0, .bool false] := by rw [hw1]; exact Mem.Blk.new w 37 _
  have D1 : Below w.heap.size w w1 := by rw [hw1]; exact (Below.refl _ _).alloc (Nat.le_refl _) _
  have HC : Hid (∀ wr, Below w.heap.size w wr → ∀ i, i < 18 → wr.cell? ⟨b, off + i, none⟩ = some (.int .u8 (l.getD i 0).toNat)) := Lib.hid fun wr hbl i hi => (hbl.cell (p := ⟨b, off + i, none⟩) hb).trans (hc i hi)
  have HF := Lib.hid hf
  have HST := Lib.hid (fun k h => arr_step f e (D == 1) k h)
  have h16 := HC.out w1 D1 16 (by omega)
  have h17 := HC.out w1 D1 17 (by omega)
  have h16d := HC.out w1.drew D1.drew 16 (by omega)
  have h17d := HC.out w1.drew D1.drew 17 (by omega)
  rw [he] at h16 h16d
  rw [hd] at h17 h17d
  have h17r := h17
  rw [hw1] at h17r
  have e2 : Hid (Mem.Blk w2 w.heap.size 37 #[.int .i64 0, .int .i64 0, .int .i64 0, .int .i64 0, .int .u8 0, .bool false]) := Lib.hid (by rw [hw2]; exact (e1.alloc _).drew)
  have a2 : Hid (Mem.Blk w2 w1.heap.size 37 (arr f e (D == 1) 0)) := Lib.hid (by rw [hw2]; exact (Mem.Blk.new w1 37 _).drew)
  have D2 : Hid (Below w.heap.size w w2) := Lib.hid (by rw [hw2]; exact (D1.alloc D1.size _).drew)
  have hq : ¬ 1 < D := by omega
  have h16a : ((w1.alloc (.cells #[.int .i64 0, .int .i64 0, .int .i64 0, .int .i64 0, .int .u8 0, .bool false] 37)).drew).cell? ⟨b, off + 16, none⟩ = some (.int .u8 e) := by
    have := HC.out _ (D1.alloc D1.size (.cells #[.int .i64 0, .int .i64 0, .int .i64 0, .int .i64 0, .int .u8 0, .bool false] 37)).drew 16 (by omega)
    rw [he] at this; exact this
  have h17a : ((w1.alloc (.cells #[.int .i64 0, .int .i64 0, .int .i64 0, .int .i64 0, .int .u8 0, .bool false] 37)).drew).cell? ⟨b, off + 17, none⟩ = some (.int .u8 D) := by
    have := HC.out _ (D1.alloc D1.size (.cells #[.int .i64 0, .int .i64 0, .int .i64 0, .int .i64 0, .int .u8 0, .bool false] 37)).drew 17 (by omega)
    rw [hd] at this; exact this
  replace D1 := Lib.hid D1
  have HC16 : Hid (w.cell? ⟨b, off + 16, none⟩ = some (.int .u8 e)) := Lib.hid (by rw [hc 16 (by omega), he])
  have HC17 : Hid (w.cell? ⟨b, off + 17, none⟩ = some (.int .u8 D)) := Lib.hid (by rw [hc 17 (by omega), hd])
  have HBL := Lib.hid hb
  clear e1 hc hf hb he hd
  replace hw2 := Lib.hid hw2
  replace s1 := Lib.hid s1
  go_enter Try.func19, Try.ntmps19
  go_wp2_with fail
  rw [← hw1]
  replace hw1 := Lib.hid hw1
  try go_wp2_with fail
  refine wp_region_held_drew (S := fun w' => w'.cell? ⟨b, off + 16, none⟩ = some (.int .u8 e) ∧ w'.cell? ⟨b, off + 17, none⟩ = some (.int .u8 D)) (by kernel_rfl) ⟨h16d, h17d⟩ (fun hS => ?_)
  try simp only [List.size_toArray, List.length_cons, List.length_nil, Nat.reduceAdd]
  refine wpAnyH_take (i := 0) (v := ?_) (by simp only [List.getElem?_toArray, List.getElem?_cons_succ, List.getElem?_cons_zero]; rfl) (by kernel_rfl) (by kernel_rfl) (by kernel_rfl) (by exact fun _ _ _ h => h) (Or.inl ⟨by rfl, ?_⟩) hS ?_
  rotate_left
  · intro w hSw
    go_simp
    try with_reducible rfl
  try simp only [Act.put, List.setIfInBounds_toArray, List.set_cons_zero, List.set_cons_succ]
  refine wpAnyH_take (i := 1) (v := ?_) (by simp only [List.getElem?_toArray, List.getElem?_cons_succ, List.getElem?_cons_zero]; rfl) (by kernel_rfl) (by kernel_rfl) (by kernel_rfl) (by exact fun _ _ _ h => h) (Or.inl ⟨by rfl, ?_⟩) hS ?_
  rotate_left
  · intro w hSw
    go_simp
    try with_reducible rfl
  try simp only [Act.put, List.setIfInBounds_toArray, List.set_cons_zero, List.set_cons_succ]
  refine wpAnyH_take (i := 2) (v := ?_) (by simp only [List.getElem?_toArray, List.getElem?_cons_succ, List.getElem?_cons_zero]; rfl) (by kernel_rfl) (by kernel_rfl) (by kernel_rfl) (by exact fun _ _ _ h => h) (Or.inl ⟨by rfl, ?_⟩) hS ?_
  rotate_left
  · intro w hSw
    go_simp
    try with_reducible rfl
  try simp only [Act.put, List.setIfInBounds_toArray, List.set_cons_zero, List.set_cons_succ]
  refine wpAnyH_take (i := 3) (v := ?_) (by simp only [List.getElem?_toArray, List.getElem?_cons_succ, List.getElem?_cons_zero]; rfl) (by kernel_rfl) (by kernel_rfl) (by kernel_rfl) (by exact fun _ _ _ h => h) (Or.inl ⟨by rfl, ?_⟩) hS ?_
  rotate_left
  · intro w hSw
    go_simp
    try with_reducible rfl
  try simp only [Act.put, List.setIfInBounds_toArray, List.set_cons_zero, List.set_cons_succ]
  refine wpAnyH_take (i := 4) (v := ?_) (by simp only [List.getElem?_toArray, List.getElem?_cons_succ, List.getElem?_cons_zero]; rfl) (by kernel_rfl) (by kernel_rfl) (by kernel_rfl) (by exact fun _ _ _ h => h) (Or.inl ⟨by rfl, ?_⟩) hS ?_
  rotate_left
  · intro w hSw
    go_simp
    try with_reducible rfl
  try simp only [Act.put, List.setIfInBounds_toArray, List.set_cons_zero, List.set_cons_succ]
  refine wpAnyH_take (i := 5) (v := ?_) (by simp only [List.getElem?_toArray, List.getElem?_cons_succ, List.getElem?_cons_zero]; rfl) (by kernel_rfl) (by kernel_rfl) (by kernel_rfl) (by exact fun _ _ _ h => h) (Or.inl ⟨by rfl, ?_⟩) hS ?_
  rotate_left
  · intro w hSw
    go_simp
    try with_reducible rfl
  try simp only [Act.put, List.setIfInBounds_toArray, List.set_cons_zero, List.set_cons_succ]
  refine wpAnyH_take (i := 6) (v := ?_) (by simp only [List.getElem?_toArray, List.getElem?_cons_succ, List.getElem?_cons_zero]; rfl) (by kernel_rfl) (by kernel_rfl) (by kernel_rfl) (by exact fun _ _ _ h => h) (Or.inl ⟨by rfl, ?_⟩) hS ?_
  rotate_left
  · intro w hSw
    go_simp
    try with_reducible rfl
  try simp only [Act.put, List.setIfInBounds_toArray, List.set_cons_zero, List.set_cons_succ]
  refine wpAnyH_take (i := 7) (v := ?_) (by simp only [List.getElem?_toArray, List.getElem?_cons_succ, List.getElem?_cons_zero]; rfl) (by kernel_rfl) (by kernel_rfl) (by kernel_rfl) (by exact fun _ _ _ h => h) (Or.inl ⟨by rfl, ?_⟩) hS ?_
  rotate_left
  · intro w hSw
    go_simp
    try with_reducible rfl
  try simp only [Act.put, List.setIfInBounds_toArray, List.set_cons_zero, List.set_cons_succ]
  refine wpAnyH_ready (rs := [8]) (by kernel_rfl) (by simp) ?_
  refine AllReadyH.cons (by simp only [List.getElem?_toArray, List.getElem?_cons_succ, List.getElem?_cons_zero]; rfl) (fun K hK => ?_) AllReadyH.nil
  go_simp
  refine hK.out _ _ ⟨h16a, h17a⟩ (fun hS => ?_)
  clear hK K
  try simp only [Act.put, List.setIfInBounds_toArray, List.set_cons_zero, List.set_cons_succ]
  refine wpAnyH_ready (rs := [9]) (by kernel_rfl) (by simp) ?_
  refine AllReadyH.cons (by simp only [List.getElem?_toArray, List.getElem?_cons_succ, List.getElem?_cons_zero]; rfl) (fun K hK => ?_) AllReadyH.nil
  go_simp
  have h16b := (D2.out.cell (p := ⟨b, off + 16, none⟩) HBL.out).trans HC16.out
  have h17b := (D2.out.cell (p := ⟨b, off + 17, none⟩) HBL.out).trans HC17.out
  have HW2 := hw2.out
  unfold arr at HW2
  simp only [Nat.lt_irrefl, if_false, Nat.not_lt_zero] at HW2
  rw [← HW2]
  clear HW2 h16 h17 h16d h17d h16a h17a h17r
  refine hK.out _ _ ⟨h16b, h17b⟩ (fun hS => ?_)
  clear hK K
  try simp only [Act.put, List.setIfInBounds_toArray, List.set_cons_zero, List.set_cons_succ]
  refine wpAnyH_done (by kernel_rfl) ?_ _
  clear h16b h17b HC16 HC17 HBL hS
  go_wp2_with fail
  go_loopw [5, 24] (fun i _ wr => ∃ k : Nat, k ≤ 4 ∧ i = .int .i64 (k : Int) ∧ Mem.Blk wr w1.heap.size 37 (arr f e (D == 1) k) ∧ Mem.Blk wr w.heap.size 37 #[.int .i64 0, .int .i64 0, .int .i64 0, .int .i64 0, .int .u8 0, .bool false] ∧ Below w.heap.size w wr) (fun i _ _ => 4 - (intOf i).toNat)
  case atStart => exact ⟨0, by omega, rfl, a2.out, e2.out, D2.out⟩
  case round =>
    obtain ⟨k, hk, rfl, ha, he, hbl⟩ := hrel
    clear a2 e2 D2
    by_cases hlt : k < 4
    · have hlt' : (k : Int) < 4 := by omega
      go_wp2_with fail
      have hv := HF.out k hlt
      obtain ⟨q0, q1, q2, q3, ⟨hq0, hq1, hq2, hq3⟩, m0, m0a, m1, m2, m3, l0, l1, l2, l3⟩ := ar k hlt
      have h0 := HC.out wr.drew hbl.drew q0 (by omega)
      have h1 := HC.out wr.drew hbl.drew q1 (by omega)
      have h2 := HC.out wr.drew hbl.drew q2 (by omega)
      have h3 := HC.out wr.drew hbl.drew q3 (by omega)
      unfold num at hv
      rw [← hq3, ← hq2, ← hq1, ← hq0] at hv
      have hx0 := (l.getD q0 0).isLt
      have hx1 := (l.getD q1 0).isLt
      have hx2 := (l.getD q2 0).isLt
      have hx3 := (l.getD q3 0).isLt
      generalize (l.getD q0 0).toNat = x0 at *
      generalize (l.getD q1 0).toNat = x1 at *
      generalize (l.getD q2 0).toNat = x2 at *
      generalize (l.getD q3 0).toNat = x3 at *
      obtain ⟨y1, y2, y3, ⟨t0, t1, t2, t3⟩, p1, p2, z1, z2, z3⟩ := yz x0 x1 x2 x3 hx0 hx1 hx2 hx3 _ hv
      clear hv hq0 hq1 hq2 hq3
      have hst := HST.out k hlt
      replace hst := Lib.hid hst
      have had := ha.drew
      have hcell : wr.drew.cell? ⟨w1.heap.size, k, none⟩ = some (.int .i64 0) := by
        rw [had.cell k]
        obtain rfl | rfl | rfl | rfl := four_of hlt
        all_goals rfl
      have hfr := had.frozen k
      have hP : Hid (Mem.Blk (wr.drew.setCell ⟨w1.heap.size, k, none⟩ (.int .i64 (f k))) w1.heap.size 37 (arr f e (D == 1) (k + 1))) := Lib.hid (by rw [← hst.out]; exact had.put k _)
      have hQ : Hid (Mem.Blk (wr.drew.setCell ⟨w1.heap.size, k, none⟩ (.int .i64 (f k))) w.heap.size 37 #[.int .i64 0, .int .i64 0, .int .i64 0, .int .i64 0, .int .u8 0, .bool false]) := Lib.hid (Mem.Blk.far he.drew (p := ⟨w1.heap.size, k, none⟩) (by show w.heap.size ≠ w1.heap.size; have := s1.out; omega) _)
      have hR : Hid (Below w.heap.size w (wr.drew.setCell ⟨w1.heap.size, k, none⟩ (.int .i64 (f k)))) := Lib.hid (hbl.drew.setCell (p := ⟨w1.heap.size, k, none⟩) D1.out.size _)
      clear had hx0 hx1 hx2 hx3
      refine wp_region_still_tail 36 (by kernel_rfl) (by kernel_rfl) ?_
      simp only [List.take_succ_cons, List.take_zero, List.drop_succ_cons, List.drop_zero]
      change wpStill _ _ (World.drew _) (fun a' => wpList _ _ _ _ a' (World.drew _)) _ _
      repeat still_step
      try refine wpStill_nil ?_
      change wpList _ _ _ _ _ (World.drew _)
      go_wp2
      go_roundw
      case rel => exact ⟨k + 1, by omega, by go_num, hP.out, hQ.out, hR.out⟩
      case measure => simp [intOf]; omega
    · obtain rfl : k = 4 := by omega
      have r1 := Lib.hid ha.range
      replace he := Lib.hid he
      replace hbl := Lib.hid hbl
      have hlt' : ¬ ((4 : Nat) : Int) < 4 := by omega
      go_wp2_with (first
        | ((with_reducible show wpList _ _ _ (Oper.mk _ (Op.load 37 (.tmp 4)) _ _ _ _ :: _) _ _); refine Mem.loadMid 37 (.tmp 4) rfl w1.heap.size 0 rfl (arr f e (D == 1) 4) r1.out _ Try.underlying37 rfl i37 rfl ?_)
        | ((with_reducible show wpList _ _ _ (Oper.mk _ (Op.store 37 (.tmp 2) (.tmp 64)) _ _ _ _ :: _) _ _); refine Mem.storeBlk 37 (.tmp 2) (.tmp 64) rfl w.heap.size rfl _ (arr f e (D == 1) 4) rfl 37 he.out i37 rfl (by kernel_rfl) w.heap.size w hbl.out (Nat.le_refl _) rfl ?_; intro w5 hB5 hb5))
      exact bodyPost_ret (Mem.results_mid2 Try.results19 _ _ w.heap.size (arr f e (D == 1) 4) _ rfl (Mem.Blk.range hB5) Try.underlying37 rfl i37) rfl ⟨rfl, hb5⟩

end Go.Proofs.Ytcggghiionlngaa.AreX
