/- Areas: bytes as a setting. -/
import Derived.Test.YtcggghiionlngaaAreV
import Derived.StillTailTactics
namespace Go.Proofs.Ytcggghiionlngaa.AreW
open Go.ChangeShapes Go.WideShapes Go.ChangeAt Go.RowKit
open Mem AreA AreL AreT AreK AreU AreV
set_option linter.unusedVariables false
set_option maxHeartbeats 2000000

def num (l : List Y8) (k : Nat) : Int := ((l.getD (4 * k) 0).toNat : Int) + ((l.getD (4 * k + 1) 0).toNat : Int) * 256 + ((l.getD (4 * k + 2) 0).toNat : Int) * 65536 + ((l.getD (4 * k + 3) 0).toNat : Int) * 16777216
def arr (f : Nat → Int) (e : Int) (d : Bool) (k : Nat) : Array Value := #[.int .i64 (if 0 < k then f 0 else 0), .int .i64 (if 1 < k then f 1 else 0), .int .i64 (if 2 < k then f 2 else 0), .int .i64 (if 3 < k then f 3 else 0), .int .u8 e, .bool d]
theorem arr_step (f : Nat → Int) (e : Int) (d : Bool) (k : Nat) (h : k < 4) : (arr f e d k).setIfInBounds k (.int .i64 (f k)) = arr f e d (k + 1) := by
  obtain rfl | rfl | rfl | rfl := four_of h
  all_goals rfl
theorem or1 (a b : Int) (ha : 0 ≤ a ∧ a ≤ 255) (hb : 0 ≤ b ∧ b ≤ 255) : bits .or .u32 a (b * 256) = a + b * 256 := by
  obtain ⟨a, rfl⟩ := Int.eq_ofNat_of_zero_le ha.1
  obtain ⟨b, rfl⟩ := Int.eq_ofNat_of_zero_le hb.1
  rw [show ((b : Int) * 256) = ((b * 256 : Nat) : Int) by omega, u32_or_nat _ _ (by omega) (by omega)]
  have := Nat.shiftLeft_add_eq_or_of_lt (b := a) (i := 8) (by omega) b
  rw [Nat.shiftLeft_eq] at this
  rw [Nat.or_comm, show b * 256 = b * 2 ^ 8 from rfl, ← this]
  omega
theorem or2 (a b : Int) (ha : 0 ≤ a ∧ a ≤ 65535) (hb : 0 ≤ b ∧ b ≤ 255) : bits .or .u32 a (b * 65536) = a + b * 65536 := by
  obtain ⟨a, rfl⟩ := Int.eq_ofNat_of_zero_le ha.1
  obtain ⟨b, rfl⟩ := Int.eq_ofNat_of_zero_le hb.1
  rw [show ((b : Int) * 65536) = ((b * 65536 : Nat) : Int) by omega, u32_or_nat _ _ (by omega) (by omega)]
  have := Nat.shiftLeft_add_eq_or_of_lt (b := a) (i := 16) (by omega) b
  rw [Nat.shiftLeft_eq] at this
  rw [Nat.or_comm, show b * 65536 = b * 2 ^ 16 from rfl, ← this]
  omega
theorem or3 (a b : Int) (ha : 0 ≤ a ∧ a ≤ 16777215) (hb : 0 ≤ b ∧ b ≤ 255) : bits .or .u32 a (b * 16777216) = a + b * 16777216 := by
  obtain ⟨a, rfl⟩ := Int.eq_ofNat_of_zero_le ha.1
  obtain ⟨b, rfl⟩ := Int.eq_ofNat_of_zero_le hb.1
  rw [show ((b : Int) * 16777216) = ((b * 16777216 : Nat) : Int) by omega, u32_or_nat _ _ (by omega) (by omega)]
  have := Nat.shiftLeft_add_eq_or_of_lt (b := a) (i := 24) (by omega) b
  rw [Nat.shiftLeft_eq] at this
  rw [Nat.or_comm, show b * 16777216 = b * 2 ^ 24 from rfl, ← this]
  omega


theorem ar (k : Nat) (h : k < 4) : ∃ q0 q1 q2 q3 : Nat, (q0 = 4 * k ∧ q1 = 4 * k + 1 ∧ q2 = 4 * k + 2 ∧ q3 = 4 * k + 3) ∧ IntKind.i64.wrap (4 * (k : Int)) = (q0 : Int) ∧ IntKind.i64.wrap (4 * (k : Int)) = (q0 : Int) ∧ IntKind.i64.wrap ((q0 : Int) + 1) = (q1 : Int) ∧ IntKind.i64.wrap ((q0 : Int) + 2) = (q2 : Int) ∧ IntKind.i64.wrap ((q0 : Int) + 3) = (q3 : Int) ∧ (q0 : Int) < 18 ∧ (q1 : Int) < 18 ∧ (q2 : Int) < 18 ∧ (q3 : Int) < 18 := by
  refine ⟨4 * k, 4 * k + 1, 4 * k + 2, 4 * k + 3, ⟨rfl, rfl, rfl, rfl⟩, ?_, ?_, ?_, ?_, ?_, by omega, by omega, by omega, by omega⟩
  · rw [IntWalk.i64_in _ (by omega)]; omega
  · rw [IntWalk.i64_in _ (by omega)]; omega
  · rw [IntWalk.i64_in _ (by omega)]; omega
  · rw [IntWalk.i64_in _ (by omega)]; omega
  · rw [IntWalk.i64_in _ (by omega)]; omega
theorem yz (x0 x1 x2 x3 : Nat) (h0 : x0 < 256) (h1 : x1 < 256) (h2 : x2 < 256) (h3 : x3 < 256) (F : Int) (hF : (x0 : Int) + (x1 : Int) * 256 + (x2 : Int) * 65536 + (x3 : Int) * 16777216 = F) :
    IntKind.i64.wrap ((x1 : Int) * 256) = (x1 : Int) * 256 ∧ IntKind.i64.wrap ((x2 : Int) * 65536) = (x2 : Int) * 65536 ∧ IntKind.i64.wrap ((x3 : Int) * 16777216) = (x3 : Int) * 16777216 ∧
    (IntKind.i64.wrap (x0 : Int) = (x0 : Int) ∧ IntKind.i64.wrap (x1 : Int) = (x1 : Int) ∧ IntKind.i64.wrap (x2 : Int) = (x2 : Int) ∧ IntKind.i64.wrap (x3 : Int) = (x3 : Int)) ∧ ∃ s1 s2 : Int, IntKind.i64.wrap ((x0 : Int) + (x1 : Int) * 256) = s1 ∧ IntKind.i64.wrap (s1 + (x2 : Int) * 65536) = s2 ∧ IntKind.i64.wrap (s2 + (x3 : Int) * 16777216) = F := by
  refine ⟨IntWalk.i64_in _ (by omega), IntWalk.i64_in _ (by omega), IntWalk.i64_in _ (by omega), ⟨IntWalk.i64_in _ (by omega), IntWalk.i64_in _ (by omega), IntWalk.i64_in _ (by omega), IntWalk.i64_in _ (by omega)⟩, _, _, IntWalk.i64_in _ (by omega), IntWalk.i64_in _ (by omega), ?_⟩
  rw [IntWalk.i64_in _ (by omega), hF]



set_option maxRecDepth 100000 in
theorem decBad18 (a : Option Addr) (n c : Nat) (w : World) (h : n ≠ 18 ∨ ∃ b off x, a = some ⟨b, off, none⟩ ∧ n = 18 ∧ w.cell? ⟨b, off + 17, none⟩ = some (.int .u8 x) ∧ 1 < x ∧ b < w.heap.size) :
    Calls Try.prog 18 #[.slice a n c] w fun e w' => e = .returned (.tuple #[sv zeroS, .int .i64 24]) ∧ Below w.heap.size w w' := by
  have hB := Mem.Blk.new w 26 #[.int .i64 0, .int .i64 0, .int .i64 0, .int .i64 0, .int .u8 0, .bool false]
  have D := (Below.refl w.heap.size w).alloc (Nat.le_refl _) (.cells #[.int .i64 0, .int .i64 0, .int .i64 0, .int .i64 0, .int .u8 0, .bool false] 26)
  rcases h with hn | ⟨b, off, x, rfl, rfl, hc, hx, hb⟩
  · have hq : ((n : Int) != 18) = true := by rw [bne_iff_ne]; omega
    go_enter Try.func18, Try.ntmps18
    go_wp2
    exact bodyPost_ret (Mem.results_mid2 Try.results18 _ _ w.heap.size (sc zeroS) _ rfl (Mem.Blk.range hB) Try.underlying26 rfl i26) rfl ⟨rfl, D⟩
  · have hc1 := (D.cell (p := ⟨b, off + 17, none⟩) hb).trans hc
    go_enter Try.func18, Try.ntmps18
    go_wp2
    exact bodyPost_ret (Mem.results_mid2 Try.results18 _ _ w.heap.size (sc zeroS) _ rfl (Mem.Blk.range hB) Try.underlying26 rfl i26) rfl ⟨rfl, D⟩

set_option maxRecDepth 100000 in
theorem decBad19 (a : Option Addr) (n c : Nat) (w : World) (h : n ≠ 18 ∨ ∃ b off x, a = some ⟨b, off, none⟩ ∧ n = 18 ∧ w.cell? ⟨b, off + 17, none⟩ = some (.int .u8 x) ∧ 1 < x ∧ b < w.heap.size) :
    Calls Try.prog 19 #[.slice a n c] w fun e w' => e = .returned (.tuple #[sv zeroS, .int .i64 24]) ∧ Below w.heap.size w w' := by
  have hB := Mem.Blk.new w 37 #[.int .i64 0, .int .i64 0, .int .i64 0, .int .i64 0, .int .u8 0, .bool false]
  have D := (Below.refl w.heap.size w).alloc (Nat.le_refl _) (.cells #[.int .i64 0, .int .i64 0, .int .i64 0, .int .i64 0, .int .u8 0, .bool false] 37)
  rcases h with hn | ⟨b, off, x, rfl, rfl, hc, hx, hb⟩
  · have hq : ((n : Int) != 18) = true := by rw [bne_iff_ne]; omega
    go_enter Try.func19, Try.ntmps19
    go_wp2
    exact bodyPost_ret (Mem.results_mid2 Try.results19 _ _ w.heap.size (sc zeroS) _ rfl (Mem.Blk.range hB) Try.underlying37 rfl i37) rfl ⟨rfl, D⟩
  · have hc1 := (D.cell (p := ⟨b, off + 17, none⟩) hb).trans hc
    go_enter Try.func19, Try.ntmps19
    go_wp2
    exact bodyPost_ret (Mem.results_mid2 Try.results19 _ _ w.heap.size (sc zeroS) _ rfl (Mem.Blk.range hB) Try.underlying37 rfl i37) rfl ⟨rfl, D⟩

set_option maxRecDepth 100000 in
theorem decFull18 (b off c : Nat) (l : List Y8) (f : Nat → Int) (e : Int) (D : Int) (w : World) (hf : ∀ k, k < 4 → num l k = f k) (hb : b < w.heap.size) (he : ((l.getD 16 0).toNat : Int) = e) (hd : ((l.getD 17 0).toNat : Int) = D) (hD : 0 ≤ D ∧ D ≤ 1)
    (hc : ∀ i, i < 18 → w.cell? ⟨b, off + i, none⟩ = some (.int .u8 (l.getD i 0).toNat)) :
    Calls Try.prog 18 #[.slice (some ⟨b, off, none⟩) 18 c] w fun e' w' => e' = .returned (.tuple #[.agg #[.int .i64 (f 0), .int .i64 (f 1), .int .i64 (f 2), .int .i64 (f 3), .int .u8 e, .bool (D == 1)], .int .i64 0]) ∧ Below w.heap.size w w' := by
  obtain ⟨w1, hw1⟩ : ∃ w1, w1 = w.alloc (.cells #[.int .i64 0, .int .i64 0, .int .i64 0, .int .i64 0, .int .u8 0, .bool false] 26) := ⟨_, rfl⟩
  obtain ⟨w2, hw2⟩ : ∃ w2, w2 = (w1.alloc (.cells (arr f e (D == 1) 0) 26)).drew := ⟨_, rfl⟩
  have s1 : w1.heap.size = w.heap.size + 1 := by rw [hw1]; simp
  have e1 : Mem.Blk w1 w.heap.size 26 #[.int .i64 0, .int .i64 0, .int .i64 0, .int .i64 0, .int .u8 0, .bool false] := by rw [hw1]; exact Mem.Blk.new w 26 _
  have D1 : Below w.heap.size w w1 := by rw [hw1]; exact (Below.refl _ _).alloc (Nat.le_refl _) _
  have HC : Hid (∀ wr, Below w.heap.size w wr → ∀ i, i < 18 → wr.cell? ⟨b, off + i, none⟩ = some (.int .u8 (l.getD i 0).toNat)) := Lib.hid fun wr hbl i hi => (hbl.cell (p := ⟨b, off + i, none⟩) hb).trans (hc i hi)
  have HF := Lib.hid hf
  have HST := Lib.hid (fun k h => arr_step f e (D == 1) k h)
  have h16 := HC.out w1 D1 16 (by omega)
  have h17 := HC.out w1 D1 17 (by omega)
  have h16d := HC.out w1.drew D1.drew 16 (by omega)
  have h17d := HC.out w1.drew D1.drew 17 (by omega)
  rw [he] at h16 h16d
  rw [hd] at h17 h17d
  have h17r := h17
  rw [hw1] at h17r
  have e2 : Hid (Mem.Blk w2 w.heap.size 26 #[.int .i64 0, .int .i64 0, .int .i64 0, .int .i64 0, .int .u8 0, .bool false]) := Lib.hid (by rw [hw2]; exact (e1.alloc _).drew)
  have a2 : Hid (Mem.Blk w2 w1.heap.size 26 (arr f e (D == 1) 0)) := Lib.hid (by rw [hw2]; exact (Mem.Blk.new w1 26 _).drew)
  have D2 : Hid (Below w.heap.size w w2) := Lib.hid (by rw [hw2]; exact (D1.alloc D1.size _).drew)
  have hq : ¬ 1 < D := by omega
  have h16a : ((w1.alloc (.cells #[.int .i64 0, .int .i64 0, .int .i64 0, .int .i64 0, .int .u8 0, .bool false] 26)).drew).cell? ⟨b, off + 16, none⟩ = some (.int .u8 e) := by
    have := HC.out _ (D1.alloc D1.size (.cells #[.int .i64 0, .int .i64 0, .int .i64 0, .int .i64 0, .int .u8 0, .bool false] 26)).drew 16 (by omega)
    rw [he] at this; exact this
  have h17a : ((w1.alloc (.cells #[.int .i64 0, .int .i64 0, .int .i64 0, .int .i64 0, .int .u8 0, .bool false] 26)).drew).cell? ⟨b, off + 17, none⟩ = some (.int .u8 D) := by
    have := HC.out _ (D1.alloc D1.size (.cells #[.int .i64 0, .int .i64 0, .int .i64 0, .int .i64 0, .int .u8 0, .bool false] 26)).drew 17 (by omega)
    rw [hd] at this; exact this
  replace D1 := Lib.hid D1
  have HC16 : Hid (w.cell? ⟨b, off + 16, none⟩ = some (.int .u8 e)) := Lib.hid (by rw [hc 16 (by omega), he])
  have HC17 : Hid (w.cell? ⟨b, off + 17, none⟩ = some (.int .u8 D)) := Lib.hid (by rw [hc 17 (by omega), hd])
  have HBL := Lib.hid hb
  clear e1 hc hf hb he hd
  replace hw2 := Lib.hid hw2
  replace s1 := Lib.hid s1
  go_enter Try.func18, Try.ntmps18
  go_wp2_with fail
  rw [← hw1]
  replace hw1 := Lib.hid hw1
  try go_wp2_with fail
  refine wp_region_held_drew (S := fun w' => w'.cell? ⟨b, off + 16, none⟩ = some (.int .u8 e) ∧ w'.cell? ⟨b, off + 17, none⟩ = some (.int .u8 D)) (by kernel_rfl) ⟨h16d, h17d⟩ (fun hS => ?_)
  try simp only [List.size_toArray, List.length_cons, List.length_nil, Nat.reduceAdd]
  refine wpAnyH_take (i := 0) (v := ?_) (by simp only [List.getElem?_toArray, List.getElem?_cons_succ, List.getElem?_cons_zero]; rfl) (by kernel_rfl) (by kernel_rfl) (by kernel_rfl) (by exact fun _ _ _ h => h) (Or.inl ⟨by rfl, ?_⟩) hS ?_
  rotate_left
  · intro w hSw
    go_simp
    try with_reducible rfl
  try simp only [Act.put, List.setIfInBounds_toArray, List.set_cons_zero, List.set_cons_succ]
  refine wpAnyH_take (i := 1) (v := ?_) (by simp only [List.getElem?_toArray, List.getElem?_cons_succ, List.getElem?_cons_zero]; rfl) (by kernel_rfl) (by kernel_rfl) (by kernel_rfl) (by exact fun _ _ _ h => h) (Or.inl ⟨by rfl, ?_⟩) hS ?_
  rotate_left
  · intro w hSw
    go_simp
    try with_reducible rfl
  try simp only [Act.put, List.setIfInBounds_toArray, List.set_cons_zero, List.set_cons_succ]
  refine wpAnyH_take (i := 2) (v := ?_) (by simp only [List.getElem?_toArray, List.getElem?_cons_succ, List.getElem?_cons_zero]; rfl) (by kernel_rfl) (by kernel_rfl) (by kernel_rfl) (by exact fun _ _ _ h => h) (Or.inl ⟨by rfl, ?_⟩) hS ?_
  rotate_left
  · intro w hSw
    go_simp
    try with_reducible rfl
  try simp only [Act.put, List.setIfInBounds_toArray, List.set_cons_zero, List.set_cons_succ]
  refine wpAnyH_take (i := 3) (v := ?_) (by simp only [List.getElem?_toArray, List.getElem?_cons_succ, List.getElem?_cons_zero]; rfl) (by kernel_rfl) (by kernel_rfl) (by kernel_rfl) (by exact fun _ _ _ h => h) (Or.inl ⟨by rfl, ?_⟩) hS ?_
  rotate_left
  · intro w hSw
    go_simp
    try with_reducible rfl
  try simp only [Act.put, List.setIfInBounds_toArray, List.set_cons_zero, List.set_cons_succ]
  refine wpAnyH_take (i := 4) (v := ?_) (by simp only [List.getElem?_toArray, List.getElem?_cons_succ, List.getElem?_cons_zero]; rfl) (by kernel_rfl) (by kernel_rfl) (by kernel_rfl) (by exact fun _ _ _ h => h) (Or.inl ⟨by rfl, ?_⟩) hS ?_
  rotate_left
  · intro w hSw
    go_simp
    try with_reducible rfl
  try simp only [Act.put, List.setIfInBounds_toArray, List.set_cons_zero, List.set_cons_succ]
  refine wpAnyH_take (i := 5) (v := ?_) (by simp only [List.getElem?_toArray, List.getElem?_cons_succ, List.getElem?_cons_zero]; rfl) (by kernel_rfl) (by kernel_rfl) (by kernel_rfl) (by exact fun _ _ _ h => h) (Or.inl ⟨by rfl, ?_⟩) hS ?_
  rotate_left
  · intro w hSw
    go_simp
    try with_reducible rfl
  try simp only [Act.put, List.setIfInBounds_toArray, List.set_cons_zero, List.set_cons_succ]
  refine wpAnyH_take (i := 6) (v := ?_) (by simp only [List.getElem?_toArray, List.getElem?_cons_succ, List.getElem?_cons_zero]; rfl) (by kernel_rfl) (by kernel_rfl) (by kernel_rfl) (by exact fun _ _ _ h => h) (Or.inl ⟨by rfl, ?_⟩) hS ?_
  rotate_left
  · intro w hSw
    go_simp
    try with_reducible rfl
  try simp only [Act.put, List.setIfInBounds_toArray, List.set_cons_zero, List.set_cons_succ]
  refine wpAnyH_take (i := 7) (v := ?_) (by simp only [List.getElem?_toArray, List.getElem?_cons_succ, List.getElem?_cons_zero]; rfl) (by kernel_rfl) (by kernel_rfl) (by kernel_rfl) (by exact fun _ _ _ h => h) (Or.inl ⟨by rfl, ?_⟩) hS ?_
  rotate_left
  · intro w hSw
    go_simp
    try with_reducible rfl
  try simp only [Act.put, List.setIfInBounds_toArray, List.set_cons_zero, List.set_cons_succ]
  refine wpAnyH_ready (rs := [8]) (by kernel_rfl) (by simp) ?_
  refine AllReadyH.cons (by simp only [List.getElem?_toArray, List.getElem?_cons_succ, List.getElem?_cons_zero]; rfl) (fun K hK => ?_) AllReadyH.nil
  go_simp
  refine hK.out _ _ ⟨h16a, h17a⟩ (fun hS => ?_)
  clear hK K
  try simp only [Act.put, List.setIfInBounds_toArray, List.set_cons_zero, List.set_cons_succ]
  refine wpAnyH_ready (rs := [9]) (by kernel_rfl) (by simp) ?_
  refine AllReadyH.cons (by simp only [List.getElem?_toArray, List.getElem?_cons_succ, List.getElem?_cons_zero]; rfl) (fun K hK => ?_) AllReadyH.nil
  go_simp
  have h16b := (D2.out.cell (p := ⟨b, off + 16, none⟩) HBL.out).trans HC16.out
  have h17b := (D2.out.cell (p := ⟨b, off + 17, none⟩) HBL.out).trans HC17.out
  have HW2 := hw2.out
  unfold arr at HW2
  simp only [Nat.lt_irrefl, if_false, Nat.not_lt_zero] at HW2
  rw [← HW2]
  clear HW2 h16 h17 h16d h17d h16a h17a h17r
  refine hK.out _ _ ⟨h16b, h17b⟩ (fun hS => ?_)
  clear hK K
  try simp only [Act.put, List.setIfInBounds_toArray, List.set_cons_zero, List.set_cons_succ]
  refine wpAnyH_done (by kernel_rfl) ?_ _
  clear h16b h17b HC16 HC17 HBL hS
  go_wp2_with fail
  go_loopw [5, 24] (fun _ i wr => ∃ k : Nat, k ≤ 4 ∧ i = .int .i64 (k : Int) ∧ Mem.Blk wr w1.heap.size 26 (arr f e (D == 1) k) ∧ Mem.Blk wr w.heap.size 26 #[.int .i64 0, .int .i64 0, .int .i64 0, .int .i64 0, .int .u8 0, .bool false] ∧ Below w.heap.size w wr) (fun _ i _ => 4 - (intOf i).toNat)
  case atStart => exact ⟨0, by omega, rfl, a2.out, e2.out, D2.out⟩
  case round =>
    obtain ⟨k, hk, rfl, ha, he, hbl⟩ := hrel
    clear a2 e2 D2
    by_cases hlt : k < 4
    · have hlt' : (k : Int) < 4 := by omega
      go_wp2_with fail
      have hv := HF.out k hlt
      obtain ⟨q0, q1, q2, q3, ⟨hq0, hq1, hq2, hq3⟩, m0, m0a, m1, m2, m3, l0, l1, l2, l3⟩ := ar k hlt
      have h0 := HC.out wr.drew hbl.drew q0 (by omega)
      have h1 := HC.out wr.drew hbl.drew q1 (by omega)
      have h2 := HC.out wr.drew hbl.drew q2 (by omega)
      have h3 := HC.out wr.drew hbl.drew q3 (by omega)
      unfold num at hv
      rw [← hq3, ← hq2, ← hq1, ← hq0] at hv
      have hx0 := (l.getD q0 0).isLt
      have hx1 := (l.getD q1 0).isLt
      have hx2 := (l.getD q2 0).isLt
      have hx3 := (l.getD q3 0).isLt
      generalize (l.getD q0 0).toNat = x0 at *
      generalize (l.getD q1 0).toNat = x1 at *
      generalize (l.getD q2 0).toNat = x2 at *
      generalize (l.getD q3 0).toNat = x3 at *
      have o1 := or1 (x0 : Int) (x1 : Int) (by omega) (by omega)
      have o2 := or2 ((x0 : Int) + (x1 : Int) * 256) (x2 : Int) (by omega) (by omega)
      have o3 := or3 ((x0 : Int) + (x1 : Int) * 256 + (x2 : Int) * 65536) (x3 : Int) (by omega) (by omega)
      have u0 : IntKind.u32.wrap (x0 : Int) = (x0 : Int) := by rw [IntKind.wrap_u32]; omega
      have u1 : IntKind.u32.wrap (x1 : Int) = (x1 : Int) := by rw [IntKind.wrap_u32]; omega
      have u2 : IntKind.u32.wrap (x2 : Int) = (x2 : Int) := by rw [IntKind.wrap_u32]; omega
      have u3 : IntKind.u32.wrap (x3 : Int) = (x3 : Int) := by rw [IntKind.wrap_u32]; omega
      have v1 : IntKind.u32.wrap ((x1 : Int) * 256) = (x1 : Int) * 256 := by rw [IntKind.wrap_u32]; omega
      have v2 : IntKind.u32.wrap ((x2 : Int) * 65536) = (x2 : Int) * 65536 := by rw [IntKind.wrap_u32]; omega
      have v3 : IntKind.u32.wrap ((x3 : Int) * 16777216) = (x3 : Int) * 16777216 := by rw [IntKind.wrap_u32]; omega
      have z3 : IntKind.i64.wrap ((x0 : Int) + (x1 : Int) * 256 + (x2 : Int) * 65536 + (x3 : Int) * 16777216) = (x0 : Int) + (x1 : Int) * 256 + (x2 : Int) * 65536 + (x3 : Int) * 16777216 := IntWalk.i64_in _ (by omega)
      rw [hv] at o3 z3
      clear hv hq0 hq1 hq2 hq3
      have hst := HST.out k hlt
      replace hst := Lib.hid hst
      have had := ha.drew
      have hcell : wr.drew.cell? ⟨w1.heap.size, k, none⟩ = some (.int .i64 0) := by
        rw [had.cell k]
        obtain rfl | rfl | rfl | rfl := four_of hlt
        all_goals rfl
      have hfr := had.frozen k
      have hP : Hid (Mem.Blk (wr.drew.setCell ⟨w1.heap.size, k, none⟩ (.int .i64 (f k))) w1.heap.size 26 (arr f e (D == 1) (k + 1))) := Lib.hid (by rw [← hst.out]; exact had.put k _)
      have hQ : Hid (Mem.Blk (wr.drew.setCell ⟨w1.heap.size, k, none⟩ (.int .i64 (f k))) w.heap.size 26 #[.int .i64 0, .int .i64 0, .int .i64 0, .int .i64 0, .int .u8 0, .bool false]) := Lib.hid (Mem.Blk.far he.drew (p := ⟨w1.heap.size, k, none⟩) (by show w.heap.size ≠ w1.heap.size; have := s1.out; omega) _)
      have hR : Hid (Below w.heap.size w (wr.drew.setCell ⟨w1.heap.size, k, none⟩ (.int .i64 (f k)))) := Lib.hid (hbl.drew.setCell (p := ⟨w1.heap.size, k, none⟩) D1.out.size _)
      clear had hx0 hx1 hx2 hx3
      refine wp_region_still_tail 37 (by kernel_rfl) (by kernel_rfl) ?_
      simp only [List.take_succ_cons, List.take_zero, List.drop_succ_cons, List.drop_zero]
      change wpStill _ _ (World.drew _) (fun a' => wpList _ _ _ _ a' (World.drew _)) _ _
      repeat still_step
      try refine wpStill_nil ?_
      change wpList _ _ _ _ _ (World.drew _)
      go_wp2
      go_roundw
      case rel => exact ⟨k + 1, by omega, by go_num, hP.out, hQ.out, hR.out⟩
      case measure => simp [intOf]; omega
    · obtain rfl : k = 4 := by omega
      have r1 := Lib.hid ha.range
      replace he := Lib.hid he
      replace hbl := Lib.hid hbl
      have hlt' : ¬ ((4 : Nat) : Int) < 4 := by omega
      go_wp2_with (first
        | ((with_reducible show wpList _ _ _ (Oper.mk _ (Op.load 26 (.tmp 4)) _ _ _ _ :: _) _ _); refine Mem.loadMid 26 (.tmp 4) rfl w1.heap.size 0 rfl (arr f e (D == 1) 4) r1.out _ Try.underlying26 rfl i26 rfl ?_)
        | ((with_reducible show wpList _ _ _ (Oper.mk _ (Op.store 26 (.tmp 2) (.tmp 65)) _ _ _ _ :: _) _ _); refine Mem.storeBlk 26 (.tmp 2) (.tmp 65) rfl w.heap.size rfl _ (arr f e (D == 1) 4) rfl 26 he.out i26 rfl (by kernel_rfl) w.heap.size w hbl.out (Nat.le_refl _) rfl ?_; intro w5 hB5 hb5))
      exact bodyPost_ret (Mem.results_mid2 Try.results18 _ _ w.heap.size (arr f e (D == 1) 4) _ rfl (Mem.Blk.range hB5) Try.underlying26 rfl i26) rfl ⟨rfl, hb5⟩

end Go.Proofs.Ytcggghiionlngaa.AreW
