/- Groups and the document's, one by one: looks. -/
import Derived.Test.YtleflegbdnmgeaaGdJ1
namespace Go.Proofs.Ytleflegbdnmgeaa.GdJ2
open Go.ChangeShapes Go.WideShapes Go.ChangeAt Go.RowKit Go.Shelf
open GdT GdA GdB GdC GdD GdE GdQ GdS GdJ GdJ1
set_option linter.unusedVariables false
set_option maxHeartbeats 2000000
attribute [local go_sem] Oper.semAt_some

theorem own_below {w w' : World} {B : Nat} {v : Value} {xs : List B8} (h : GdT.Own w B v xs) (hb : Below w.heap.size w w') : GdT.Own w' B v xs :=
  World.ownsRow.kept (row := none) h ⟨hb.os, hb.tape, hb.output, hb.size, fun k hk _ => hb.block k hk⟩ (by cases v.ownBlock <;> simp)

theorem St.below {b4 b6 b7 r s n L A B} {W W' : World} (h : St b4 b6 b7 r s n L A W) (hb : Below B W W') (h4 : b4 < B) (h6 : b6 < B) (h7 : b7 < B) (hr : r < B) (hs : s < B) : St b4 b6 b7 r s n L A W' :=
  ⟨(hb.cell (p := ⟨b4, 0, none⟩) h4).trans h.1, ⟨(hb.cell (p := ⟨b7, 0, none⟩) h7).trans h.2.1.1, (frozen_below hb ⟨b7, 0, none⟩ h7).trans h.2.1.2⟩,
   ⟨(hb.cell (p := ⟨b6, 0, none⟩) h6).trans h.2.2.1.1, (frozen_below hb ⟨b6, 0, none⟩ h6).trans h.2.2.1.2⟩, (hb.cell (p := ⟨r, 0, none⟩) hr).trans h.2.2.2.1, fun k hk => (hb.cell (p := ⟨s, k, none⟩) hs).trans (h.2.2.2.2 k hk)⟩
theorem St.own (b4 b6 b7 r s n : Nat) (L : List B8) : Own (fun (pre : List (Nat × Nat)) W => ∃ A, A ≤ n ∧ pre = prs L A ∧ St b4 b6 b7 r s n L A W) := fun sx A B row hs hg hr => by
  obtain ⟨a, h1, h2, h4, ⟨h7, f7⟩, ⟨h6, f6⟩, hr', hs'⟩ := hs
  exact ⟨a, h1, h2, cell_kept h4 hg hr, ⟨cell_kept h7 hg hr, (frozen_kept h7 hg hr).trans f7⟩, ⟨cell_kept h6 hg hr, (frozen_kept h6 hg hr).trans f6⟩, cell_kept hr' hg hr, fun k hk => cell_kept (hs' k hk) hg hr⟩

set_option maxRecDepth 100000 in
theorem looksIn (g q r s n : Nat) (L : List B8) (k : Int) (w : World) (hG : Gd w g q n L) (hR : Rg w r s n L) (h0 : 1 ≤ n) (hki : -9223372036854775808 ≤ k ∧ k ≤ 9223372036854775807) :
    CallsIn Fence.wide 4 Try.prog 18 #[.pointer (some ⟨g, 0, none⟩), .pointer (some ⟨r, 0, none⟩), .int .i64 k] w fun e w' => e = .returned (.bool true) ∧ Below w.heap.size w w' := by
  obtain ⟨w1, hw1⟩ : ∃ w1, w1 = w.alloc (.cells #[.pointer (some ⟨r, 0, none⟩)] 28) := ⟨_, rfl⟩
  have s1 : w1.heap.size = w.heap.size + 1 := by rw [hw1]; simp
  have x1 : Mem.Blk w1 w.heap.size 28 #[.pointer (some ⟨r, 0, none⟩)] := by rw [hw1]; exact Mem.Blk.new w 28 _
  have B1 : Below w.heap.size w w1 := by rw [hw1]; exact (Below.refl _ w).alloc (Nat.le_refl _) _
  obtain ⟨w2, hw2⟩ : ∃ w2, w2 = w1.alloc (.cells #[.bool false] 4) := ⟨_, rfl⟩
  have s2 : w2.heap.size = w.heap.size + 2 := by rw [hw2, World.size_alloc, s1]
  have x2 : Mem.Blk w2 w.heap.size 28 #[.pointer (some ⟨r, 0, none⟩)] := by rw [hw2]; exact x1.alloc _
  have y2 : Mem.Blk w2 (w.heap.size + 1) 4 #[.bool false] := by rw [hw2, ← s1]; exact Mem.Blk.new w1 4 _
  have B2 : Below w.heap.size w w2 := by rw [hw2]; exact B1.alloc B1.size _
  have AB : Hid (∀ w', Below w2.heap.size w2 w' → Below w.heap.size w w') := Lib.hid fun w' hb => B2.trans (hb.mono B2.size)
  have AG : Hid (∀ w', Below w2.heap.size w2 w' → Gd w' g q n L) := Lib.hid fun w' hb => hG.below (AB.out _ hb)
  have AR : Hid (∀ w', Below w2.heap.size w2 w' → Rg w' r s n L) := Lib.hid fun w' hb => hR.below (AB.out _ hb)
  have AL : Hid (∀ w', Below w2.heap.size w2 w' → w'.cell? ⟨w.heap.size, 0, none⟩ = some (.pointer (some ⟨r, 0, none⟩))) := Lib.hid fun w' hb => (Mem.Blk.below x2 hb x2.lt).cell 0
  have HK1 := Lib.hid (fun w' (hb : Below w2.heap.size w2 w') => kindW g q n L k w' (AG.out _ hb))
  have HK2 := Lib.hid (fun w' (hb : Below w2.heap.size w2 w') => kindR r s n L k w' (AR.out _ hb))
  have HM1 := Lib.hid (fun w' (hb : Below w2.heap.size w2 w') => mayW g q n L k w' (AG.out _ hb))
  have HM2 := Lib.hid (fun w' (hb : Below w2.heap.size w2 w') => mayR r s n L k w' (AR.out _ hb))
  have HB1 := Lib.hid (fun w' (hb : Below w2.heap.size w2 w') => bitsW g q n L k w' (AG.out _ hb) h0)
  have HB2 := Lib.hid (fun w' (hb : Below w2.heap.size w2 w') => bitsR r s n L k w' (AR.out _ hb) hki)
  have HL1 := Lib.hid (fun w' (hb : Below w2.heap.size w2 w') => lastingW g q n L w' (AG.out _ hb) h0)
  have HL2 := Lib.hid (fun w' (hb : Below w2.heap.size w2 w') => lastR r s n L w' (AR.out _ hb))
  have hll : (L.map lst).length = n := by simp [hG.2.2.2.1]
  have HCV : Hid (∀ w' B a c, GdT.Own w' B (.slice a n c) (L.map lst) → (convert 38 9 (.slice a n c)).run Try.prog w' = .ok (.string (strB (L.map lst))) w') := Lib.hid fun w' B a c h => conv w' a (L.map lst) n c hll h.rd.1
  have HAll := Lib.hid (fun w' (hb : Below w2.heap.size w2 w') => allW g q n L w' (AG.out _ hb) h0)
  have D0 : Hid (Below w2.heap.size w2 w2.drew) := Lib.hid (Below.refl _ _).drew
  have hL := Lib.hid hG.2.2.2.1
  have hn := hG.2.2.2.2
  have hrs : Hid (r < w.heap.size ∧ s < w.heap.size) := Lib.hid ⟨hR.1.lt, hR.2.1.lt⟩
  generalize kindP n L k = KP at *
  generalize mayP n L k = MP at *
  generalize bitsP n L k = BP at *
  generalize strB (L.map lst) = SL at *
  generalize L.map lst = LL at *
  replace x2 := Lib.hid x2
  replace y2 := Lib.hid y2
  clear hG hR x1 B1 hll
  refine callsIn_of_wp_marks Try.func18 rfl trivial ?_ rfl
  simp only [Try.ntmps18, List.size_toArray, List.length_cons, List.length_nil, Nat.reduceAdd, Nat.reduceSub, Array.replicate_succ, Array.replicate_zero, List.push_toArray, List.append_toArray, List.nil_append, List.cons_append]
  gi_wp2_with fail
  rw [← hw1, ← hw2]
  replace hw1 := Lib.hid hw1
  replace hw2 := Lib.hid hw2
  refine wpIn_wide.2 (wp_region_noPanic ?_)
  refine wp_region_held_drew (S := fun w' => w'.cell? ⟨w.heap.size, 0, none⟩ = some (.pointer (some ⟨r, 0, none⟩))) (by kernel_rfl) (AL.out _ D0.out) (fun hS => ?_)
  try simp only [List.size_toArray, List.length_cons, List.length_nil, Nat.reduceAdd]
  refine wpAnyH_take (i := 0) (v := ?_) (by simp only [List.getElem?_toArray, List.getElem?_cons_succ, List.getElem?_cons_zero]; rfl) (by kernel_rfl) (by kernel_rfl) (by kernel_rfl) (by exact fun _ _ _ h => h) (Or.inl ⟨by rfl, ?_⟩) hS ?_
  rotate_left
  · intro w hSw
    go_simp
    try with_reducible rfl
  try simp only [Act.put, List.setIfInBounds_toArray, List.set_cons_zero, List.set_cons_succ]
  refine wpAnyH_take (i := 1) (v := ?_) (by simp only [List.getElem?_toArray, List.getElem?_cons_succ, List.getElem?_cons_zero]; rfl) (by kernel_rfl) (by kernel_rfl) (by kernel_rfl) (by exact fun _ _ _ h => h) (Or.inl ⟨by rfl, ?_⟩) hS ?_
  rotate_left
  · intro w hSw
    go_simp
    try with_reducible rfl
  try simp only [Act.put, List.setIfInBounds_toArray, List.set_cons_zero, List.set_cons_succ]
  refine wpAnyH_take (i := 3) (v := ?_) (by simp only [List.getElem?_toArray, List.getElem?_cons_succ, List.getElem?_cons_zero]; rfl) (by kernel_rfl) (by kernel_rfl) (by kernel_rfl) (by exact fun _ _ _ h => h) (Or.inl ⟨by rfl, ?_⟩) hS ?_
  rotate_left
  · intro w hSw
    go_simp
    try with_reducible rfl
  try simp only [Act.put, List.setIfInBounds_toArray, List.set_cons_zero, List.set_cons_succ]
  refine wpAnyH_take (i := 4) (v := ?_) (by simp only [List.getElem?_toArray, List.getElem?_cons_succ, List.getElem?_cons_zero]; rfl) (by kernel_rfl) (by kernel_rfl) (by kernel_rfl) (by exact fun _ _ _ h => h) (Or.inl ⟨by rfl, ?_⟩) hS ?_
  rotate_left
  · intro w hSw
    go_simp
    try with_reducible rfl
  try simp only [Act.put, List.setIfInBounds_toArray, List.set_cons_zero, List.set_cons_succ]
  refine wpAnyH_ready (rs := [2]) (by kernel_rfl) (by simp) ?_
  refine AllReadyH.cons (by simp only [List.getElem?_toArray, List.getElem?_cons_succ, List.getElem?_cons_zero]; rfl) (fun K hK => ?_) AllReadyH.nil
  go_simp
  go_at_call 23
  refine (HK1.out _ D0.out).mono ?_
  rintro e' wx ⟨rfl, hx⟩
  obtain rfl := hx.symm
  refine hK.out _ _ (hS) (fun hS => ?_)
  clear hK K
  try simp only [Act.put, List.setIfInBounds_toArray, List.set_cons_zero, List.set_cons_succ]
  refine wpAnyH_ready (rs := [5]) (by kernel_rfl) (by simp) ?_
  refine AllReadyH.cons (by simp only [List.getElem?_toArray, List.getElem?_cons_succ, List.getElem?_cons_zero]; rfl) (fun K hK => ?_) AllReadyH.nil
  go_simp
  go_at_call 27
  refine (HK2.out _ D0.out).mono ?_
  rintro e' wx ⟨rfl, hx⟩
  obtain rfl := hx.symm
  refine hK.out _ _ (hS) (fun hS => ?_)
  clear hK K
  try simp only [Act.put, List.setIfInBounds_toArray, List.set_cons_zero, List.set_cons_succ]
  refine wpAnyH_take (i := 6) (v := ?_) (by simp only [List.getElem?_toArray, List.getElem?_cons_succ, List.getElem?_cons_zero]; rfl) (by kernel_rfl) (by kernel_rfl) (by kernel_rfl) (by exact fun _ _ _ h => h) (Or.inl ⟨by rfl, ?_⟩) hS ?_
  rotate_left
  · intro w hSw
    go_simp
    try with_reducible rfl
  try simp only [Act.put, List.setIfInBounds_toArray, List.set_cons_zero, List.set_cons_succ]
  refine wpAnyH_take (i := 7) (v := ?_) (by simp only [List.getElem?_toArray, List.getElem?_cons_succ, List.getElem?_cons_zero]; rfl) (by kernel_rfl) (by kernel_rfl) (by kernel_rfl) (by exact fun _ _ _ h => h) (Or.inl ⟨by rfl, ?_⟩) hS ?_
  rotate_left
  · intro w hSw
    go_simp
    try with_reducible rfl
  try simp only [Act.put, List.setIfInBounds_toArray, List.set_cons_zero, List.set_cons_succ]
  refine wpAnyH_take (i := 8) (v := ?_) (by simp only [List.getElem?_toArray, List.getElem?_cons_succ, List.getElem?_cons_zero]; rfl) (by kernel_rfl) (by kernel_rfl) (by kernel_rfl) (by exact fun _ _ _ h => h) (Or.inl ⟨by rfl, ?_⟩) hS ?_
  rotate_left
  · intro w hSw
    go_simp
    try with_reducible rfl
  try simp only [Act.put, List.setIfInBounds_toArray, List.set_cons_zero, List.set_cons_succ]
  refine wpAnyH_take (i := 9) (v := ?_) (by simp only [List.getElem?_toArray, List.getElem?_cons_succ, List.getElem?_cons_zero]; rfl) (by kernel_rfl) (by kernel_rfl) (by kernel_rfl) (by exact fun _ _ _ h => h) (Or.inl ⟨by rfl, ?_⟩) hS ?_
  rotate_left
  · intro w hSw
    go_simp
    try with_reducible rfl
  try simp only [Act.put, List.setIfInBounds_toArray, List.set_cons_zero, List.set_cons_succ]
  refine wpAnyH_take (i := 11) (v := ?_) (by simp only [List.getElem?_toArray, List.getElem?_cons_succ, List.getElem?_cons_zero]; rfl) (by kernel_rfl) (by kernel_rfl) (by kernel_rfl) (by exact fun _ _ _ h => h) (Or.inl ⟨by rfl, ?_⟩) hS ?_
  rotate_left
  · intro w hSw
    go_simp
    try with_reducible rfl
  try simp only [Act.put, List.setIfInBounds_toArray, List.set_cons_zero, List.set_cons_succ]
  refine wpAnyH_take (i := 12) (v := ?_) (by simp only [List.getElem?_toArray, List.getElem?_cons_succ, List.getElem?_cons_zero]; rfl) (by kernel_rfl) (by kernel_rfl) (by kernel_rfl) (by exact fun _ _ _ h => h) (Or.inl ⟨by rfl, ?_⟩) hS ?_
  rotate_left
  · intro w hSw
    go_simp
    try with_reducible rfl
  try simp only [Act.put, List.setIfInBounds_toArray, List.set_cons_zero, List.set_cons_succ]
  refine wpAnyH_ready (rs := [10]) (by kernel_rfl) (by simp) ?_
  refine AllReadyH.cons (by simp only [List.getElem?_toArray, List.getElem?_cons_succ, List.getElem?_cons_zero]; rfl) (fun K hK => ?_) AllReadyH.nil
  go_simp
  go_at_call 22
  refine (HM1.out _ D0.out).mono ?_
  rintro e' wx ⟨rfl, hx⟩
  obtain rfl := hx.symm
  refine hK.out _ _ (hS) (fun hS => ?_)
  clear hK K
  try simp only [Act.put, List.setIfInBounds_toArray, List.set_cons_zero, List.set_cons_succ]
  refine wpAnyH_ready (rs := [13]) (by kernel_rfl) (by simp) ?_
  refine AllReadyH.cons (by simp only [List.getElem?_toArray, List.getElem?_cons_succ, List.getElem?_cons_zero]; rfl) (fun K hK => ?_) AllReadyH.nil
  go_simp
  go_at_call 28
  refine (HM2.out _ D0.out).mono ?_
  rintro e' wx ⟨rfl, hx⟩
  obtain rfl := hx.symm
  refine hK.out _ _ (hS) (fun hS => ?_)
  clear hK K
  try simp only [Act.put, List.setIfInBounds_toArray, List.set_cons_zero, List.set_cons_succ]
  refine wpAnyH_take (i := 14) (v := ?_) (by simp only [List.getElem?_toArray, List.getElem?_cons_succ, List.getElem?_cons_zero]; rfl) (by kernel_rfl) (by kernel_rfl) (by kernel_rfl) (by exact fun _ _ _ h => h) (Or.inl ⟨by rfl, ?_⟩) hS ?_
  rotate_left
  · intro w hSw
    go_simp
    try with_reducible rfl
  try simp only [Act.put, List.setIfInBounds_toArray, List.set_cons_zero, List.set_cons_succ]
  refine wpAnyH_take (i := 15) (v := ?_) (by simp only [List.getElem?_toArray, List.getElem?_cons_succ, List.getElem?_cons_zero]; rfl) (by kernel_rfl) (by kernel_rfl) (by kernel_rfl) (by exact fun _ _ _ h => h) (Or.inl ⟨by rfl, ?_⟩) hS ?_
  rotate_left
  · intro w hSw
    go_simp
    try with_reducible rfl
  try simp only [Act.put, List.setIfInBounds_toArray, List.set_cons_zero, List.set_cons_succ]
  refine wpAnyH_take (i := 16) (v := ?_) (by simp only [List.getElem?_toArray, List.getElem?_cons_succ, List.getElem?_cons_zero]; rfl) (by kernel_rfl) (by kernel_rfl) (by kernel_rfl) (by exact fun _ _ _ h => h) (Or.inl ⟨by rfl, ?_⟩) hS ?_
  rotate_left
  · intro w hSw
    go_simp
    try with_reducible rfl
  try simp only [Act.put, List.setIfInBounds_toArray, List.set_cons_zero, List.set_cons_succ]
  refine wpAnyH_take (i := 17) (v := ?_) (by simp only [List.getElem?_toArray, List.getElem?_cons_succ, List.getElem?_cons_zero]; rfl) (by kernel_rfl) (by kernel_rfl) (by kernel_rfl) (by exact fun _ _ _ h => h) (Or.inl ⟨by rfl, ?_⟩) hS ?_
  rotate_left
  · intro w hSw
    go_simp
    try with_reducible rfl
  try simp only [Act.put, List.setIfInBounds_toArray, List.set_cons_zero, List.set_cons_succ]
  refine wpAnyH_take (i := 18) (v := ?_) (by simp only [List.getElem?_toArray, List.getElem?_cons_succ, List.getElem?_cons_zero]; rfl) (by kernel_rfl) (by kernel_rfl) (by kernel_rfl) (by exact fun _ _ _ h => h) (Or.inl ⟨by rfl, ?_⟩) hS ?_
  rotate_left
  · intro w hSw
    go_simp
    try with_reducible rfl
  try simp only [Act.put, List.setIfInBounds_toArray, List.set_cons_zero, List.set_cons_succ]
  refine wpAnyH_take (i := 20) (v := ?_) (by simp only [List.getElem?_toArray, List.getElem?_cons_succ, List.getElem?_cons_zero]; rfl) (by kernel_rfl) (by kernel_rfl) (by kernel_rfl) (by exact fun _ _ _ h => h) (Or.inl ⟨by rfl, ?_⟩) hS ?_
  rotate_left
  · intro w hSw
    go_simp
    try with_reducible rfl
  try simp only [Act.put, List.setIfInBounds_toArray, List.set_cons_zero, List.set_cons_succ]
  refine wpAnyH_take (i := 21) (v := ?_) (by simp only [List.getElem?_toArray, List.getElem?_cons_succ, List.getElem?_cons_zero]; rfl) (by kernel_rfl) (by kernel_rfl) (by kernel_rfl) (by exact fun _ _ _ h => h) (Or.inl ⟨by rfl, ?_⟩) hS ?_
  rotate_left
  · intro w hSw
    go_simp
    try with_reducible rfl
  try simp only [Act.put, List.setIfInBounds_toArray, List.set_cons_zero, List.set_cons_succ]
  refine wpAnyH_ready (rs := [19]) (by kernel_rfl) (by simp) ?_
  refine AllReadyH.cons (by simp only [List.getElem?_toArray, List.getElem?_cons_succ, List.getElem?_cons_zero]; rfl) (fun K hK => ?_) AllReadyH.nil
  go_simp
  go_at_call 24
  refine (HB1.out _ D0.out).mono ?_
  rintro e' wb ⟨rfl, bb⟩
  have Db : Hid (Below w2.heap.size w2 wb) := Lib.hid (D0.out.trans (bb.mono D0.out.size))
  clear bb
  refine hK.out _ _ (AL.out _ Db.out) (fun hS => ?_)
  clear hK K
  try simp only [Act.put, List.setIfInBounds_toArray, List.set_cons_zero, List.set_cons_succ]
  refine wpAnyH_ready (rs := [22]) (by kernel_rfl) (by simp) ?_
  refine AllReadyH.cons (by simp only [List.getElem?_toArray, List.getElem?_cons_succ, List.getElem?_cons_zero]; rfl) (fun K hK => ?_) AllReadyH.nil
  go_simp
  go_at_call 29
  refine (HB2.out _ Db.out).mono ?_
  rintro e' wx ⟨rfl, hx⟩
  obtain rfl := hx.symm
  refine hK.out _ _ (hS) (fun hS => ?_)
  clear hK K
  try simp only [Act.put, List.setIfInBounds_toArray, List.set_cons_zero, List.set_cons_succ]
  refine wpAnyH_take (i := 23) (v := ?_) (by simp only [List.getElem?_toArray, List.getElem?_cons_succ, List.getElem?_cons_zero]; rfl) (by kernel_rfl) (by kernel_rfl) (by kernel_rfl) (by exact fun _ _ _ h => h) (Or.inl ⟨by rfl, ?_⟩) hS ?_
  rotate_left
  · intro w hSw
    go_simp
    try with_reducible rfl
  try simp only [Act.put, List.setIfInBounds_toArray, List.set_cons_zero, List.set_cons_succ]
  refine wpAnyH_take (i := 24) (v := ?_) (by simp only [List.getElem?_toArray, List.getElem?_cons_succ, List.getElem?_cons_zero]; rfl) (by kernel_rfl) (by kernel_rfl) (by kernel_rfl) (by exact fun _ _ _ h => h) (Or.inl ⟨by rfl, ?_⟩) hS ?_
  rotate_left
  · intro w hSw
    go_simp
    try with_reducible rfl
  try simp only [Act.put, List.setIfInBounds_toArray, List.set_cons_zero, List.set_cons_succ]
  refine wpAnyH_take (i := 25) (v := ?_) (by simp only [List.getElem?_toArray, List.getElem?_cons_succ, List.getElem?_cons_zero]; rfl) (by kernel_rfl) (by kernel_rfl) (by kernel_rfl) (by exact fun _ _ _ h => h) (Or.inl ⟨by rfl, ?_⟩) hS ?_
  rotate_left
  · intro w hSw
    go_simp
    try with_reducible rfl
  try simp only [Act.put, List.setIfInBounds_toArray, List.set_cons_zero, List.set_cons_succ]
  refine wpAnyH_take (i := 26) (v := ?_) (by simp only [List.getElem?_toArray, List.getElem?_cons_succ, List.getElem?_cons_zero]; rfl) (by kernel_rfl) (by kernel_rfl) (by kernel_rfl) (by exact fun _ _ _ h => h) (Or.inl ⟨by rfl, ?_⟩) hS ?_
  rotate_left
  · intro w hSw
    go_simp
    try with_reducible rfl
  try simp only [Act.put, List.setIfInBounds_toArray, List.set_cons_zero, List.set_cons_succ]
  refine wpAnyH_take (i := 29) (v := ?_) (by simp only [List.getElem?_toArray, List.getElem?_cons_succ, List.getElem?_cons_zero]; rfl) (by kernel_rfl) (by kernel_rfl) (by kernel_rfl) (by exact fun _ _ _ h => h) (Or.inl ⟨by rfl, ?_⟩) hS ?_
  rotate_left
  · intro w hSw
    go_simp
    try with_reducible rfl
  try simp only [Act.put, List.setIfInBounds_toArray, List.set_cons_zero, List.set_cons_succ]
  refine wpAnyH_ready (rs := [27]) (by kernel_rfl) (by simp) ?_
  refine AllReadyH.cons (by simp only [List.getElem?_toArray, List.getElem?_cons_succ, List.getElem?_cons_zero]; rfl) (fun K hK => ?_) AllReadyH.nil
  go_simp
  go_at_call 17
  refine (HL1.out _ Db.out).mono ?_
  rintro e' wc ⟨g5, c5, rfl, o5, _, bc⟩
  have Dc : Hid (Below w2.heap.size w2 wc) := Lib.hid (Db.out.trans (bc.mono Db.out.size))
  have ow5 : Hid (∀ w', Below wc.heap.size wc w' → (convert 38 9 (.slice (some ⟨g5, 0, none⟩) n c5)).run Try.prog w' = .ok (.string SL) w') := Lib.hid fun w' hb => HCV.out _ _ _ _ (own_below o5 hb)
  clear bc
  refine hK.out _ _ (AL.out _ Dc.out) (fun hS => ?_)
  clear hK K
  try simp only [Act.put, List.setIfInBounds_toArray, List.set_cons_zero, List.set_cons_succ]
  refine Reg.raise (fun w' => (w'.cell? ⟨w.heap.size, 0, none⟩ = some (.pointer (some ⟨r, 0, none⟩))) ∧ (convert 38 9 (.slice (some ⟨g5, 0, none⟩) n c5)).run Try.prog w' = .ok (.string SL) w') (fun w h => h.1) (⟨hS, ow5.out _ (Below.refl _ _)⟩) (fun hS => ?_)
  refine wpAnyH_take (i := 28) (v := ?_) (by simp only [List.getElem?_toArray, List.getElem?_cons_succ, List.getElem?_cons_zero]; rfl) (by kernel_rfl) (by kernel_rfl) (by kernel_rfl) (by exact fun _ _ _ h => h) (Or.inl ⟨by rfl, ?_⟩) hS ?_
  rotate_left
  · intro w hSw
    go_simp
    try with_reducible rfl
  try simp only [Act.put, List.setIfInBounds_toArray, List.set_cons_zero, List.set_cons_succ]
  refine wpAnyH_ready (rs := [30]) (by kernel_rfl) (by simp) ?_
  refine AllReadyH.cons (by simp only [List.getElem?_toArray, List.getElem?_cons_succ, List.getElem?_cons_zero]; rfl) (fun K hK => ?_) AllReadyH.nil
  go_simp
  go_at_call 30
  refine (HL2.out _ Dc.out).mono ?_
  rintro e' wd ⟨a6, c6, rfl, o6, bd⟩
  have Dd : Hid (Below w2.heap.size w2 wd) := Lib.hid (Dc.out.trans (bd.mono Dc.out.size))
  refine hK.out _ _ (⟨AL.out _ Dd.out, ow5.out _ bd⟩) (fun hS => ?_)
  clear hK K
  try simp only [Act.put, List.setIfInBounds_toArray, List.set_cons_zero, List.set_cons_succ]
  refine Reg.raise (fun w' => ((w'.cell? ⟨w.heap.size, 0, none⟩ = some (.pointer (some ⟨r, 0, none⟩))) ∧ (convert 38 9 (.slice (some ⟨g5, 0, none⟩) n c5)).run Try.prog w' = .ok (.string SL) w') ∧ (convert 38 9 (.slice a6 n c6)).run Try.prog w' = .ok (.string SL) w') (fun w h => h.1) (⟨hS, HCV.out _ _ _ _ o6⟩) (fun hS => ?_)
  refine wpAnyH_take (i := 31) (v := ?_) (by simp only [List.getElem?_toArray, List.getElem?_cons_succ, List.getElem?_cons_zero]; rfl) (by kernel_rfl) (by kernel_rfl) (by kernel_rfl) (by exact fun _ _ _ h => h) (Or.inl ⟨by rfl, ?_⟩) hS ?_
  rotate_left
  · intro w hSw
    go_simp
    try with_reducible rfl
  try simp only [Act.put, List.setIfInBounds_toArray, List.set_cons_zero, List.set_cons_succ]
  refine wpAnyH_take (i := 32) (v := ?_) (by simp only [List.getElem?_toArray, List.getElem?_cons_succ, List.getElem?_cons_zero]; rfl) (by kernel_rfl) (by kernel_rfl) (by kernel_rfl) (by exact fun _ _ _ h => h) (Or.inl ⟨by rfl, ?_⟩) hS ?_
  rotate_left
  · intro w hSw
    go_simp
    try with_reducible rfl
  try simp only [Act.put, List.setIfInBounds_toArray, List.set_cons_zero, List.set_cons_succ]
  refine wpAnyH_take (i := 33) (v := ?_) (by simp only [List.getElem?_toArray, List.getElem?_cons_succ, List.getElem?_cons_zero]; rfl) (by kernel_rfl) (by kernel_rfl) (by kernel_rfl) (by exact fun _ _ _ h => h) (Or.inl ⟨by rfl, ?_⟩) hS ?_
  rotate_left
  · intro w hSw
    go_simp
    try with_reducible rfl
  try simp only [Act.put, List.setIfInBounds_toArray, List.set_cons_zero, List.set_cons_succ]
  refine wpAnyH_done (by kernel_rfl) ?_ _
  refine NoPanic.normal ?_
  have Dd' := Dd
  have B6 := AB.out _ Dd.out
  have G6 := AG.out _ Dd.out
  have R6 := AR.out _ Dd.out
  have X6 := Mem.Blk.below x2.out Dd.out x2.out.lt
  have Y6 := Mem.Blk.below y2.out Dd.out y2.out.lt
  have z6 : w.heap.size + 2 ≤ wd.heap.size := by have := Dd.out.size; omega
  obtain ⟨w7, hw7⟩ : ∃ w7, w7 = wd.alloc (.cells #[.int .i64 0] 3) := ⟨_, rfl⟩
  have X7 : Mem.Blk w7 w.heap.size 28 #[.pointer (some ⟨r, 0, none⟩)] := by rw [hw7]; exact X6.alloc _
  have Y7 : Mem.Blk w7 (w.heap.size + 1) 4 #[.bool false] := by rw [hw7]; exact Y6.alloc _
  have Z7 : Mem.Blk w7 wd.heap.size 3 #[.int .i64 0] := by rw [hw7]; exact Mem.Blk.new wd 3 _
  have D7 : Hid (Below w2.heap.size w2 w7) := Lib.hid (by rw [hw7]; exact Dd.out.alloc Dd.out.size _)
  have z7 : w7.heap.size = wd.heap.size + 1 := by rw [hw7, World.size_alloc]
  have R7 := AR.out _ D7.out
  have St7 : Hid (St w.heap.size (w.heap.size + 1) wd.heap.size r s n L 0 w7) := Lib.hid ⟨X7.cell 0, ⟨Z7.cell 0, Z7.frozen 0⟩, ⟨Y7.cell 0, Y7.frozen 0⟩, R7.head, fun k hk => R7.cell k hk⟩
  have hap : Hid (Ap w.heap.size (w.heap.size + 1) wd.heap.size r s) := Lib.hid ⟨by omega, by omega, by have := hrs.out; omega, by have := hrs.out; omega⟩
  have HAll7 := Lib.hid (HAll.out _ D7.out)
  replace z6 := Lib.hid z6
  replace z7 := Lib.hid z7
  clear X6 Y6 X7 Y7 Z7 G6 R6 R7 HK1 HK2 HM1 HM2 HB1 HB2 HL1 HL2 HCV HAll ow5 o6 Dd'
  gi_wp2_with fail
  rw [← hw7]
  replace hw7 := Lib.hid hw7
  refine ⟨trivial, ?_⟩
  refine (callsIn_wide.2 HAll7.out).mono ?_
  rintro e' w8 ⟨Bs, b, c8, rfl, hBs, hcs, hb1, hb2, hb3, hb4⟩
  have St8 := St.below St7.out hb4 (by have := z7.out; have := z6.out; omega) (by have := z7.out; have := z6.out; omega) (by have := z7.out; omega) (by have := hrs.out; have := z7.out; have := z6.out; omega) (by have := hrs.out; have := z7.out; have := z6.out; omega)
  have B8 : Below w.heap.size w w8 := (AB.out _ D7.out).trans (hb4.mono (AB.out _ D7.out).size)
  have hb7 : Hid (b ≠ wd.heap.size ∧ w.heap.size ≤ wd.heap.size ∧ w.heap.size + 2 ≤ wd.heap.size ∧ wd.heap.size + 1 ≤ b) := Lib.hid ⟨by have := z7.out; omega, by have := z6.out; omega, z6.out, by have := z7.out; omega⟩
  clear AL AG AR AB St7 D7 HAll7
  gi_wp2_with fail
  refine wpIn_rangeFunc_ownG rfl (by omega) (gf := 32) (lb := #[.pointer (some ⟨Bs, 0, none⟩)]) rfl trivial (enters_of Try.func32 (by kernel_rfl) rfl)
    (all_stops Bs b n c8 L hL.out hn w8 hb3 (by omega) hBs hcs) (fun h h' => Eq.trans h' h) (fun W l o o' hl _ _ _ => World.putObj_heap_other (by omega)) (Below.refl _ _) (fun _ => rfl)
    (fun pre W => (∃ A, A ≤ n ∧ pre = prs L A ∧ St w.heap.size (w.heap.size + 1) wd.heap.size r s n L A W) ∧ Below w.heap.size w W)
    (fun _ pre _ => ∀ k, k ≤ n → pre ≠ prs L k)
    (OwnFrom.and (Own.from (St.own _ _ _ _ _ _ L) _) (ownFrom_below (Nat.le_refl _) B8.size))
    (fun _ _ _ _ _ hs _ _ => hs)
    ⟨⟨0, Nat.zero_le _, rfl, St8⟩, B8⟩ ?a1 ?assign ?body ?done ?stop
  case assign =>
    intro l x W K hK
    gi_wp2
    exact hK
  case body =>
    rintro l pre ⟨x1, x2⟩ W ⟨⟨A, hA, hpre, hSt⟩, hB⟩ _
    exact round l _ _ b w.heap.size n r s _ _ _ w L hn hap.out hb7.out.1 hb7.out.2.1 pre x1 x2 W A hA hpre hSt hB _ _ _ _ _ _ _ _ _ _ _ _ _ _ _ _ _ _ _ _ _ _ _ _ _ _ _ _ _ _ _ _ _ _ _ _ _ _ _ _ _ _ _ _ _ _ _ _ _ _ _ _ _ _ _ _ _ _ _ _ _ _ _ _ _ _ _ _ _ _ _ _ _ _ _ _ _ _ _ _ _ _ _ _ _ _ _ _ _ _ _ _ _ _ _ _ _ _ _ _ _ _ _ _ _ _ _ _ _ _ _ _ _
  case stop =>
    rintro D c pre W _ ⟨k, hk, e⟩ h _
    exact absurd e (h k hk)
  case done =>
    rintro D ys W hD rfl ⟨⟨A, hA, hpre, hSt⟩, hB⟩ hK
    have h0 : Hid (∃ m : Nat, m ≤ n ∧ Gap L A m ∧ St w.heap.size (w.heap.size + 1) wd.heap.size r s n L m W ∧ Below w.heap.size w W ∧ W.heap[D]? = some (.deferred (some []))) := Lib.hid ⟨A, hA, Gap.refl L A, hSt, hB, hK⟩
    replace hpre := Lib.hid hpre
    have hwD : Hid (wd.heap.size < D) := Lib.hid (by have := hb7.out; omega)
    clear hSt hB hK St8 B8 hBs hcs
    gi_wp2
    gi_loopw [] (fun wr => ∃ m : Nat, m ≤ n ∧ Gap L A m ∧ St w.heap.size (w.heap.size + 1) wd.heap.size r s n L m wr ∧ Below w.heap.size w wr ∧ wr.heap[D]? = some (.deferred (some []))) (fun wr => n - cellN wd.heap.size wr)
    case atStart => exact h0.out
    case round =>
      clear h0
      obtain ⟨m, hm, hGp, hSt, hB, hK⟩ := hrel
      have hcN : cellN wd.heap.size wr = m := by unfold cellN; rw [hSt.2.1.1]; exact Int.toNat_natCast m
      obtain ⟨we, hwe⟩ : ∃ we, we = World.drew wr := ⟨_, rfl⟩
      have hSe : St w.heap.size (w.heap.size + 1) wd.heap.size r s n L m we := by rw [hwe]; exact hSt.drew
      have hBe : Below w.heap.size w we := by rw [hwe]; exact hB.drew
      have hKe : we.heap[D]? = some (.deferred (some [])) := by rw [hwe]; exact hK
      clear hSt hB hK
      have c4 := hSe.1
      have c7 := hSe.2.1.1
      have f7 := hSe.2.1.2
      have c6 := hSe.2.2.1.1
      have f6 := hSe.2.2.1.2
      have cr := hSe.2.2.2.1
      by_cases hlt : m < n
      · have hlt' : (m : Int) < (n : Int) := by omega
        have hz := all_zero hGp hpre.out hlt
        have cs := hSe.2.2.2.2 m hlt
        have e0 : (((L.getD m 0).toNat : Nat) : Int) = 0 := by rw [hz]; rfl
        rw [e0] at cs
        have HP : Hid (Gap L A (m + 1) ∧ St w.heap.size (w.heap.size + 1) wd.heap.size r s n L (m + 1) (we.setCell ⟨wd.heap.size, 0, none⟩ (.int .i64 (m + 1 : Nat))) ∧ Below w.heap.size w (we.setCell ⟨wd.heap.size, 0, none⟩ (.int .i64 (m + 1 : Nat))) ∧ (we.setCell ⟨wd.heap.size, 0, none⟩ (.int .i64 (m + 1 : Nat))).heap[D]? = some (.deferred (some []))) :=
          Lib.hid ⟨hGp.more hz, hSe.put hap.out _, hBe.setCell hb7.out.2.1 _, (Below.heap_setCell we ⟨wd.heap.size, 0, none⟩ _ D (by have := hwD.out; simp; omega)).trans hKe⟩
        clear hSe hBe hKe hGp
        replace hwe := Lib.hid hwe
        gi_wp2
        replace hwe := hwe.out
        refine wpIn_wide.2 (wp_region_noPanic ?_)
        refine wp_region_held_drew (S := fun w' => w'.cell? ⟨w.heap.size, 0, none⟩ = some (.pointer (some ⟨r, 0, none⟩)) ∧ w'.cell? ⟨wd.heap.size, 0, none⟩ = some (.int .i64 m) ∧ w'.cell? ⟨r, 0, none⟩ = some (.slice (some ⟨s, 0, none⟩) n n) ∧ w'.cell? ⟨s, m, none⟩ = some (.int .i64 0)) (by kernel_rfl) (by rw [← hwe]; exact ⟨c4, c7, cr, cs⟩) (fun hS => ?_)
        try simp only [List.size_toArray, List.length_cons, List.length_nil, Nat.reduceAdd]
        rw [← hwe] at hS ⊢
        clear hwe
        refine wpAnyH_take (i := 0) (v := ?_) (by simp only [List.getElem?_toArray, List.getElem?_cons_succ, List.getElem?_cons_zero]; rfl) (by kernel_rfl) (by kernel_rfl) (by kernel_rfl) (by exact fun _ _ _ h => h) (Or.inl ⟨by rfl, ?_⟩) hS ?_
        rotate_left
        · intro w hSw
          go_simp
          try with_reducible rfl
        try simp only [Act.put, List.setIfInBounds_toArray, List.set_cons_zero, List.set_cons_succ]
        refine wpAnyH_take (i := 1) (v := ?_) (by simp only [List.getElem?_toArray, List.getElem?_cons_succ, List.getElem?_cons_zero]; rfl) (by kernel_rfl) (by kernel_rfl) (by kernel_rfl) (by exact fun _ _ _ h => h) (Or.inl ⟨by rfl, ?_⟩) hS ?_
        rotate_left
        · intro w hSw
          go_simp
          try with_reducible rfl
        try simp only [Act.put, List.setIfInBounds_toArray, List.set_cons_zero, List.set_cons_succ]
        refine wpAnyH_take (i := 2) (v := ?_) (by simp only [List.getElem?_toArray, List.getElem?_cons_succ, List.getElem?_cons_zero]; rfl) (by kernel_rfl) (by kernel_rfl) (by kernel_rfl) (by exact fun _ _ _ h => h) (Or.inl ⟨by rfl, ?_⟩) hS ?_
        rotate_left
        · intro w hSw
          go_simp
          try with_reducible rfl
        try simp only [Act.put, List.setIfInBounds_toArray, List.set_cons_zero, List.set_cons_succ]
        refine wpAnyH_take (i := 3) (v := ?_) (by simp only [List.getElem?_toArray, List.getElem?_cons_succ, List.getElem?_cons_zero]; rfl) (by kernel_rfl) (by kernel_rfl) (by kernel_rfl) (by exact fun _ _ _ h => h) (Or.inl ⟨by rfl, ?_⟩) hS ?_
        rotate_left
        · intro w hSw
          go_simp
          try with_reducible rfl
        try simp only [Act.put, List.setIfInBounds_toArray, List.set_cons_zero, List.set_cons_succ]
        refine wpAnyH_take (i := 4) (v := ?_) (by simp only [List.getElem?_toArray, List.getElem?_cons_succ, List.getElem?_cons_zero]; rfl) (by kernel_rfl) (by kernel_rfl) (by kernel_rfl) (by exact fun _ _ _ h => h) (Or.inl ⟨by rfl, ?_⟩) hS ?_
        rotate_left
        · intro w hSw
          go_simp
          try with_reducible rfl
        try simp only [Act.put, List.setIfInBounds_toArray, List.set_cons_zero, List.set_cons_succ]
        refine wpAnyH_take (i := 5) (v := ?_) (by simp only [List.getElem?_toArray, List.getElem?_cons_succ, List.getElem?_cons_zero]; rfl) (by kernel_rfl) (by kernel_rfl) (by kernel_rfl) (by exact fun _ _ _ h => h) (Or.inl ⟨by rfl, ?_⟩) hS ?_
        rotate_left
        · intro w hSw
          go_simp
          try with_reducible rfl
        try simp only [Act.put, List.setIfInBounds_toArray, List.set_cons_zero, List.set_cons_succ]
        refine wpAnyH_take (i := 6) (v := ?_) (by simp only [List.getElem?_toArray, List.getElem?_cons_succ, List.getElem?_cons_zero]; rfl) (by kernel_rfl) (by kernel_rfl) (by kernel_rfl) (by exact fun _ _ _ h => h) (Or.inl ⟨by rfl, ?_⟩) hS ?_
        rotate_left
        · intro w hSw
          go_simp
          try with_reducible rfl
        try simp only [Act.put, List.setIfInBounds_toArray, List.set_cons_zero, List.set_cons_succ]
        refine wpAnyH_take (i := 7) (v := ?_) (by simp only [List.getElem?_toArray, List.getElem?_cons_succ, List.getElem?_cons_zero]; rfl) (by kernel_rfl) (by kernel_rfl) (by kernel_rfl) (by exact fun _ _ _ h => h) (Or.inl ⟨by rfl, ?_⟩) hS ?_
        rotate_left
        · intro w hSw
          go_simp
          try with_reducible rfl
        try simp only [Act.put, List.setIfInBounds_toArray, List.set_cons_zero, List.set_cons_succ]
        refine wpAnyH_take (i := 8) (v := ?_) (by simp only [List.getElem?_toArray, List.getElem?_cons_succ, List.getElem?_cons_zero]; rfl) (by kernel_rfl) (by kernel_rfl) (by kernel_rfl) (by exact fun _ _ _ h => h) (Or.inl ⟨by rfl, ?_⟩) hS ?_
        rotate_left
        · intro w hSw
          go_simp
          try with_reducible rfl
        try simp only [Act.put, List.setIfInBounds_toArray, List.set_cons_zero, List.set_cons_succ]
        refine wpAnyH_take (i := 9) (v := ?_) (by simp only [List.getElem?_toArray, List.getElem?_cons_succ, List.getElem?_cons_zero]; rfl) (by kernel_rfl) (by kernel_rfl) (by kernel_rfl) (by exact fun _ _ _ h => h) (Or.inl ⟨by rfl, ?_⟩) hS ?_
        rotate_left
        · intro w hSw
          go_simp
          try with_reducible rfl
        try simp only [Act.put, List.setIfInBounds_toArray, List.set_cons_zero, List.set_cons_succ]
        refine wpAnyH_take (i := 10) (v := ?_) (by simp only [List.getElem?_toArray, List.getElem?_cons_succ, List.getElem?_cons_zero]; rfl) (by kernel_rfl) (by kernel_rfl) (by kernel_rfl) (by exact fun _ _ _ h => h) (Or.inl ⟨by rfl, ?_⟩) hS ?_
        rotate_left
        · intro w hSw
          go_simp
          try with_reducible rfl
        try simp only [Act.put, List.setIfInBounds_toArray, List.set_cons_zero, List.set_cons_succ]
        refine wpAnyH_take (i := 11) (v := ?_) (by simp only [List.getElem?_toArray, List.getElem?_cons_succ, List.getElem?_cons_zero]; rfl) (by kernel_rfl) (by kernel_rfl) (by kernel_rfl) (by exact fun _ _ _ h => h) (Or.inl ⟨by rfl, ?_⟩) hS ?_
        rotate_left
        · intro w hSw
          go_simp
          try with_reducible rfl
        try simp only [Act.put, List.setIfInBounds_toArray, List.set_cons_zero, List.set_cons_succ]
        refine wpAnyH_take (i := 12) (v := ?_) (by simp only [List.getElem?_toArray, List.getElem?_cons_succ, List.getElem?_cons_zero]; rfl) (by kernel_rfl) (by kernel_rfl) (by kernel_rfl) (by exact fun _ _ _ h => h) (Or.inl ⟨by rfl, ?_⟩) hS ?_
        rotate_left
        · intro w hSw
          go_simp
          try with_reducible rfl
        try simp only [Act.put, List.setIfInBounds_toArray, List.set_cons_zero, List.set_cons_succ]
        refine wpAnyH_take (i := 13) (v := ?_) (by simp only [List.getElem?_toArray, List.getElem?_cons_succ, List.getElem?_cons_zero]; rfl) (by kernel_rfl) (by kernel_rfl) (by kernel_rfl) (by exact fun _ _ _ h => h) (Or.inl ⟨by rfl, ?_⟩) hS ?_
        rotate_left
        · intro w hSw
          go_simp
          try with_reducible rfl
        try simp only [Act.put, List.setIfInBounds_toArray, List.set_cons_zero, List.set_cons_succ]
        refine wpAnyH_take (i := 14) (v := ?_) (by simp only [List.getElem?_toArray, List.getElem?_cons_succ, List.getElem?_cons_zero]; rfl) (by kernel_rfl) (by kernel_rfl) (by kernel_rfl) (by exact fun _ _ _ h => h) (Or.inl ⟨by rfl, ?_⟩) hS ?_
        rotate_left
        · intro w hSw
          go_simp
          try with_reducible rfl
        try simp only [Act.put, List.setIfInBounds_toArray, List.set_cons_zero, List.set_cons_succ]
        refine wpAnyH_take (i := 15) (v := ?_) (by simp only [List.getElem?_toArray, List.getElem?_cons_succ, List.getElem?_cons_zero]; rfl) (by kernel_rfl) (by kernel_rfl) (by kernel_rfl) (by exact fun _ _ _ h => h) (Or.inl ⟨by rfl, ?_⟩) hS ?_
        rotate_left
        · intro w hSw
          go_simp
          try with_reducible rfl
        try simp only [Act.put, List.setIfInBounds_toArray, List.set_cons_zero, List.set_cons_succ]
        refine wpAnyH_take (i := 16) (v := ?_) (by simp only [List.getElem?_toArray, List.getElem?_cons_succ, List.getElem?_cons_zero]; rfl) (by kernel_rfl) (by kernel_rfl) (by kernel_rfl) (by exact fun _ _ _ h => h) (Or.inl ⟨by rfl, ?_⟩) hS ?_
        rotate_left
        · intro w hSw
          go_simp
          try with_reducible rfl
        try simp only [Act.put, List.setIfInBounds_toArray, List.set_cons_zero, List.set_cons_succ]
        refine wpAnyH_done (by kernel_rfl) ?_ _
        refine NoPanic.normal ?_
        gi_wp2
        go_roundw
        case rel => exact ⟨m + 1, by omega, HP.out⟩
        case measure =>
          have h2 := HP.out.2.1.2.1.1
          have : cellN wd.heap.size (we.setCell ⟨wd.heap.size, 0, none⟩ (.int .i64 (m + 1 : Nat))) = m + 1 := by unfold cellN; rw [h2]; exact Int.toNat_natCast _
          first | (rw [hcN]; erw [this]; omega) | omega
      · obtain rfl : m = n := by omega
        replace hwe := Lib.hid hwe
        have HE := Lib.hid (And.intro hBe hKe)
        have DE : Hid (St w.heap.size (w.heap.size + 1) wd.heap.size r s m L m (World.drew we)) := Lib.hid hSe.drew
        clear hBe hKe hGp
        gi_wp2
        replace hwe := hwe.out
        refine wpIn_wide.2 (wp_region_noPanic ?_)
        refine wp_region_held_drew (S := fun w' => w'.cell? ⟨w.heap.size, 0, none⟩ = some (.pointer (some ⟨r, 0, none⟩)) ∧ w'.cell? ⟨wd.heap.size, 0, none⟩ = some (.int .i64 m) ∧ w'.cell? ⟨r, 0, none⟩ = some (.slice (some ⟨s, 0, none⟩) m m)) (by kernel_rfl) (by rw [← hwe]; exact ⟨c4, c7, cr⟩) (fun hS => ?_)
        try simp only [List.size_toArray, List.length_cons, List.length_nil, Nat.reduceAdd]
        rw [← hwe] at hS ⊢
        clear hwe
        refine wpAnyH_take (i := 0) (v := ?_) (by simp only [List.getElem?_toArray, List.getElem?_cons_succ, List.getElem?_cons_zero]; rfl) (by kernel_rfl) (by kernel_rfl) (by kernel_rfl) (by exact fun _ _ _ h => h) (Or.inl ⟨by rfl, ?_⟩) hS ?_
        rotate_left
        · intro w hSw
          go_simp
          try with_reducible rfl
        try simp only [Act.put, List.setIfInBounds_toArray, List.set_cons_zero, List.set_cons_succ]
        refine wpAnyH_take (i := 1) (v := ?_) (by simp only [List.getElem?_toArray, List.getElem?_cons_succ, List.getElem?_cons_zero]; rfl) (by kernel_rfl) (by kernel_rfl) (by kernel_rfl) (by exact fun _ _ _ h => h) (Or.inl ⟨by rfl, ?_⟩) hS ?_
        rotate_left
        · intro w hSw
          go_simp
          try with_reducible rfl
        try simp only [Act.put, List.setIfInBounds_toArray, List.set_cons_zero, List.set_cons_succ]
        refine wpAnyH_take (i := 2) (v := ?_) (by simp only [List.getElem?_toArray, List.getElem?_cons_succ, List.getElem?_cons_zero]; rfl) (by kernel_rfl) (by kernel_rfl) (by kernel_rfl) (by exact fun _ _ _ h => h) (Or.inl ⟨by rfl, ?_⟩) hS ?_
        rotate_left
        · intro w hSw
          go_simp
          try with_reducible rfl
        try simp only [Act.put, List.setIfInBounds_toArray, List.set_cons_zero, List.set_cons_succ]
        refine wpAnyH_take (i := 3) (v := ?_) (by simp only [List.getElem?_toArray, List.getElem?_cons_succ, List.getElem?_cons_zero]; rfl) (by kernel_rfl) (by kernel_rfl) (by kernel_rfl) (by exact fun _ _ _ h => h) (Or.inl ⟨by rfl, ?_⟩) hS ?_
        rotate_left
        · intro w hSw
          go_simp
          try with_reducible rfl
        try simp only [Act.put, List.setIfInBounds_toArray, List.set_cons_zero, List.set_cons_succ]
        refine wpAnyH_take (i := 4) (v := ?_) (by simp only [List.getElem?_toArray, List.getElem?_cons_succ, List.getElem?_cons_zero]; rfl) (by kernel_rfl) (by kernel_rfl) (by kernel_rfl) (by exact fun _ _ _ h => h) (Or.inl ⟨by rfl, ?_⟩) hS ?_
        rotate_left
        · intro w hSw
          go_simp
          try with_reducible rfl
        try simp only [Act.put, List.setIfInBounds_toArray, List.set_cons_zero, List.set_cons_succ]
        refine wpAnyH_take (i := 5) (v := ?_) (by simp only [List.getElem?_toArray, List.getElem?_cons_succ, List.getElem?_cons_zero]; rfl) (by kernel_rfl) (by kernel_rfl) (by kernel_rfl) (by exact fun _ _ _ h => h) (Or.inl ⟨by rfl, ?_⟩) hS ?_
        rotate_left
        · intro w hSw
          go_simp
          try with_reducible rfl
        try simp only [Act.put, List.setIfInBounds_toArray, List.set_cons_zero, List.set_cons_succ]
        refine wpAnyH_take (i := 6) (v := ?_) (by simp only [List.getElem?_toArray, List.getElem?_cons_succ, List.getElem?_cons_zero]; rfl) (by kernel_rfl) (by kernel_rfl) (by kernel_rfl) (by exact fun _ _ _ h => h) (Or.inl ⟨by rfl, ?_⟩) hS ?_
        rotate_left
        · intro w hSw
          go_simp
          try with_reducible rfl
        try simp only [Act.put, List.setIfInBounds_toArray, List.set_cons_zero, List.set_cons_succ]
        refine wpAnyH_take (i := 7) (v := ?_) (by simp only [List.getElem?_toArray, List.getElem?_cons_succ, List.getElem?_cons_zero]; rfl) (by kernel_rfl) (by kernel_rfl) (by kernel_rfl) (by exact fun _ _ _ h => h) (Or.inl ⟨by rfl, ?_⟩) hS ?_
        rotate_left
        · intro w hSw
          go_simp
          try with_reducible rfl
        try simp only [Act.put, List.setIfInBounds_toArray, List.set_cons_zero, List.set_cons_succ]
        refine wpAnyH_take (i := 8) (v := undef) (by simp only [List.getElem?_toArray, List.getElem?_cons_succ, List.getElem?_cons_zero]; rfl) (by kernel_rfl) (by kernel_rfl) (by kernel_rfl) (by exact fun _ _ _ h => h) (Or.inr ⟨by rfl, rfl⟩) hS ?_
        try simp only [Act.put, List.setIfInBounds_toArray, List.set_cons_zero, List.set_cons_succ]
        refine wpAnyH_take (i := 9) (v := undef) (by simp only [List.getElem?_toArray, List.getElem?_cons_succ, List.getElem?_cons_zero]; rfl) (by kernel_rfl) (by kernel_rfl) (by kernel_rfl) (by exact fun _ _ _ h => h) (Or.inr ⟨by rfl, rfl⟩) hS ?_
        try simp only [Act.put, List.setIfInBounds_toArray, List.set_cons_zero, List.set_cons_succ]
        refine wpAnyH_take (i := 10) (v := undef) (by simp only [List.getElem?_toArray, List.getElem?_cons_succ, List.getElem?_cons_zero]; rfl) (by kernel_rfl) (by kernel_rfl) (by kernel_rfl) (by exact fun _ _ _ h => h) (Or.inr ⟨by rfl, rfl⟩) hS ?_
        try simp only [Act.put, List.setIfInBounds_toArray, List.set_cons_zero, List.set_cons_succ]
        refine wpAnyH_take (i := 11) (v := undef) (by simp only [List.getElem?_toArray, List.getElem?_cons_succ, List.getElem?_cons_zero]; rfl) (by kernel_rfl) (by kernel_rfl) (by kernel_rfl) (by exact fun _ _ _ h => h) (Or.inr ⟨by rfl, rfl⟩) hS ?_
        try simp only [Act.put, List.setIfInBounds_toArray, List.set_cons_zero, List.set_cons_succ]
        refine wpAnyH_take (i := 12) (v := undef) (by simp only [List.getElem?_toArray, List.getElem?_cons_succ, List.getElem?_cons_zero]; rfl) (by kernel_rfl) (by kernel_rfl) (by kernel_rfl) (by exact fun _ _ _ h => h) (Or.inr ⟨by rfl, rfl⟩) hS ?_
        try simp only [Act.put, List.setIfInBounds_toArray, List.set_cons_zero, List.set_cons_succ]
        refine wpAnyH_take (i := 13) (v := undef) (by simp only [List.getElem?_toArray, List.getElem?_cons_succ, List.getElem?_cons_zero]; rfl) (by kernel_rfl) (by kernel_rfl) (by kernel_rfl) (by exact fun _ _ _ h => h) (Or.inr ⟨by rfl, rfl⟩) hS ?_
        try simp only [Act.put, List.setIfInBounds_toArray, List.set_cons_zero, List.set_cons_succ]
        refine wpAnyH_take (i := 14) (v := undef) (by simp only [List.getElem?_toArray, List.getElem?_cons_succ, List.getElem?_cons_zero]; rfl) (by kernel_rfl) (by kernel_rfl) (by kernel_rfl) (by exact fun _ _ _ h => h) (Or.inr ⟨by rfl, rfl⟩) hS ?_
        try simp only [Act.put, List.setIfInBounds_toArray, List.set_cons_zero, List.set_cons_succ]
        refine wpAnyH_take (i := 15) (v := undef) (by simp only [List.getElem?_toArray, List.getElem?_cons_succ, List.getElem?_cons_zero]; rfl) (by kernel_rfl) (by kernel_rfl) (by kernel_rfl) (by exact fun _ _ _ h => h) (Or.inr ⟨by rfl, rfl⟩) hS ?_
        try simp only [Act.put, List.setIfInBounds_toArray, List.set_cons_zero, List.set_cons_succ]
        refine wpAnyH_take (i := 16) (v := ?_) (by simp only [List.getElem?_toArray, List.getElem?_cons_succ, List.getElem?_cons_zero]; rfl) (by kernel_rfl) (by kernel_rfl) (by kernel_rfl) (by exact fun _ _ _ h => h) (Or.inl ⟨by rfl, ?_⟩) hS ?_
        rotate_left
        · intro w hSw
          go_simp
          try with_reducible rfl
        try simp only [Act.put, List.setIfInBounds_toArray, List.set_cons_zero, List.set_cons_succ]
        refine wpAnyH_done (by kernel_rfl) ?_ _
        refine NoPanic.normal ?_
        gi_wp2
        clear c4 c7 f7 c6 f6 cr hS
        refine wpIn_wide.2 (wp_region_still_tail 7 (by kernel_rfl) (by kernel_rfl) ?_)
        simp only [List.take_succ_cons, List.take_zero, List.drop_succ_cons, List.drop_zero]
        change wpStill _ _ (World.drew we) (fun a' => wpList _ _ _ _ a' (World.drew we)) _ _
        have HE2 : Hid (Below w.heap.size w (World.drew we) ∧ (World.drew we).heap[D]? = some (.deferred (some []))) := Lib.hid ⟨HE.out.1.drew, HE.out.2⟩
        generalize World.drew we = wf at *
        have c4 := DE.out.1
        have c7 := DE.out.2.1.1
        have cr := DE.out.2.2.2.1
        have c6 := DE.out.2.2.1.1
        have f6 := DE.out.2.2.1.2
        repeat still_step
        try refine wpStill_nil ?_
        change wpList _ _ _ _ _ wf
        go_wp2
        gi_wp2
        have hK' := (KeepsOthers.setCell wf ⟨w.heap.size + 1, 0, none⟩ (.bool true)).same D _ HE2.out.2 rfl
        refine ⟨by simp, .inl ⟨_, _, rfl, run_takeDeferred hK', ?_⟩⟩
        have hc5 := cell_kept (World.cell?_setCell_same' wf ⟨w.heap.size + 1, 0, none⟩ (.bool true) (by rw [c6]; rfl)) (grownBy_putObj' _ D (.deferred none)) (fun r e => by cases e; exact ⟨_, hK', rfl⟩)
        refine ⟨.bool true, ?_, rfl, (HE2.out.1.setCell (p := ⟨w.heap.size + 1, 0, none⟩) (by simp) _).trans (belowK_b (w := w) (Nat.le_refl _) _ D _ _ (by have := hwD.out; have := hb7.out; omega) hK' rfl rfl)⟩
        simp [results, Try.f18, go_sem, hc5]
theorem looksW (g q r s n : Nat) (L : List B8) (k : Int) (w : World) (hG : Gd w g q n L) (hR : Rg w r s n L) (h0 : 1 ≤ n) (hki : -9223372036854775808 ≤ k ∧ k ≤ 9223372036854775807) :
    Calls Try.prog 18 #[.pointer (some ⟨g, 0, none⟩), .pointer (some ⟨r, 0, none⟩), .int .i64 k] w fun e w' => e = .returned (.bool true) ∧ Below w.heap.size w w' :=
  callsIn_wide.1 (looksIn g q r s n L k w hG hR h0 hki)
end Go.Proofs.Ytleflegbdnmgeaa.GdJ2
