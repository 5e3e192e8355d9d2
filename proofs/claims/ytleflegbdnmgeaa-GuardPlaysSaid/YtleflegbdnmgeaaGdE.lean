/- Groups: their bits. -/
import Derived.Test.YtleflegbdnmgeaaGdD
import Derived.Shelf.RegionOpen
namespace Go.Proofs.Ytleflegbdnmgeaa.GdE
open Go.ChangeShapes Go.WideShapes Go.ChangeAt Go.RowKit Go.Shelf
open GdT GdA GdB GdC GdD
set_option linter.unusedVariables false
set_option maxHeartbeats 2000000
attribute [local go_sem] Oper.semAt_some

/-- A bit more. -/
def bitStep (f : Int) (v : Nat) (x : Nat × Nat) : Nat :=
  if 0 ≤ IntKind.i64.wrap ((x.1 : Int) - f) ∧ IntKind.i64.wrap ((x.1 : Int) - f) < 32 then v ||| 2 ^ (IntKind.i64.wrap ((x.1 : Int) - f)).toNat else v
def bitsF (f : Int) (pre : List (Nat × Nat)) : Nat := pre.foldl (bitStep f) 0
theorem bitsF_snoc (f : Int) (pre : List (Nat × Nat)) (x : Nat × Nat) : bitsF f (pre ++ [x]) = bitStep f (bitsF f pre) x := by simp [bitsF]
theorem bitStep_lt (f : Int) (v : Nat) (x : Nat × Nat) (h : v < 2 ^ 32) : bitStep f v x < 2 ^ 32 := by
  unfold bitStep
  split
  · rename_i hh
    refine Nat.or_lt_two_pow h (Nat.pow_lt_pow_right (by omega) (by omega))
  · exact h
theorem foldl_lt (f : Int) : ∀ (pre : List (Nat × Nat)) (v : Nat), v < 2 ^ 32 → pre.foldl (bitStep f) v < 2 ^ 32
  | [], v, h => h
  | x :: l, v, h => foldl_lt f l _ (bitStep_lt f v x h)
theorem bitsF_lt (f : Int) (pre : List (Nat × Nat)) : bitsF f pre < 2 ^ 32 := foldl_lt f pre 0 (by decide)
theorem pow_mod (D : Nat) (hD : D < 32) : (2 : Int) ^ D % 4294967296 = ((2 ^ D : Nat) : Int) := by
  have hp : 2 ^ D < 2 ^ 32 := Nat.pow_lt_pow_right (by omega) hD
  have e : (2 : Int) ^ D = ((2 ^ D : Nat) : Int) := (Int.natCast_pow 2 D).symm
  rw [e]
  generalize (2 ^ D : Nat) = z at hp
  omega
theorem orPow (v D : Nat) (hlt : v < 2 ^ 32) (hD : D < 32) : bits .or .u32 (v : Int) ((2 : Int) ^ D % 4294967296) = ((v ||| 2 ^ D : Nat) : Int) := by
  rw [pow_mod D hD, u32_or_nat _ _ hlt (Nat.pow_lt_pow_right (by omega) hD)]
theorem frozen_below {B : Nat} {w w' : World} (h : Below B w w') (p : Addr) (hp : p.block < B) : w'.frozen? p = w.frozen? p := by
  unfold World.frozen?
  rw [h.block p.block hp]
def bitsP (n : Nat) (L : List B8) (k : Int) : Nat := if inN n k = true then bitsF k (prs L n) else 0

set_option maxRecDepth 100000 in
theorem bitsIn (g q n : Nat) (L : List B8) (k : Int) (w : World) (h : Gd w g q n L) (h0 : 1 ≤ n) (hk : inN n k = true) :
    CallsIn Fence.wide 4 Try.prog 24 #[.pointer (some ⟨g, 0, none⟩), .int .i64 k] w fun e w' => e = .returned (.int .u32 (bitsF k (prs L n) : Nat)) ∧ Below w.heap.size w w' := by
  obtain ⟨w1, hw1⟩ : ∃ w1, w1 = w.alloc (.cells #[.int .i64 k] 3) := ⟨_, rfl⟩
  have B1 : Hid (Below w.heap.size w w1) := Lib.hid (by rw [hw1]; exact (Below.refl _ w).alloc (Nat.le_refl _) _)
  have s1 : w1.heap.size = w.heap.size + 1 := by rw [hw1]; simp
  have G1 := h.below B1.out
  have HH := Lib.hid (hasW g q n L k w1 G1)
  rw [hk] at HH
  have x1 : w1.cell? ⟨w.heap.size, 0, none⟩ = some (.int .i64 k) ∧ w1.frozen? ⟨w.heap.size, 0, none⟩ = false := by
    rw [hw1]; exact ⟨(Mem.Blk.new w 3 #[.int .i64 k]).cell 0, (Mem.Blk.new w 3 #[.int .i64 k]).frozen 0⟩
  obtain ⟨w2, hw2⟩ : ∃ w2, w2 = w1.alloc (.cells #[.int .u32 0] 47) := ⟨_, rfl⟩
  have B2 : Hid (Below w.heap.size w w2) := Lib.hid (by rw [hw2]; exact B1.out.alloc B1.out.size _)
  have s2 : w2.heap.size = w.heap.size + 2 := by rw [hw2, World.size_alloc, s1]
  have o2 : w2.cell? ⟨w.heap.size + 1, 0, none⟩ = some (.int .u32 0) ∧ w2.frozen? ⟨w.heap.size + 1, 0, none⟩ = false := by
    rw [hw2, ← s1]; exact ⟨(Mem.Blk.new w1 47 #[.int .u32 0]).cell 0, (Mem.Blk.new w1 47 #[.int .u32 0]).frozen 0⟩
  have x2 : w2.cell? ⟨w.heap.size, 0, none⟩ = some (.int .i64 k) := by
    rw [hw2]; exact (World.grownBy_alloc w1 _ (some w1.heap.size)).cell x1.1 (by simp [s1])
  have HA := Lib.hid (allW g q n L w2 (h.below B2.out) h0)
  have hL := Lib.hid h.2.2.2.1
  have hn := h.2.2.2.2
  have x11 := x1.1
  clear h G1
  refine callsIn_of_wp_marks Try.func24 rfl trivial ?_ rfl
  simp only [Try.ntmps24, List.size_toArray, List.length_cons, List.length_nil, Nat.reduceAdd, Nat.reduceSub, Array.replicate_succ, Array.replicate_zero, List.push_toArray, List.append_toArray, List.nil_append, List.cons_append]
  rw [hw1] at x11
  gi_wp2_with fail
  refine ⟨trivial, ?_⟩
  rw [← hw1]
  rw [← hw1] at x11
  refine (callsIn_wide.2 HH.out).mono ?_
  rintro e' w5 ⟨rfl, h5⟩
  obtain rfl := h5.symm
  gi_wp2_with fail
  rw [← hw1, ← hw2]
  replace hw1 := Lib.hid hw1
  replace hw2 := Lib.hid hw2
  refine ⟨trivial, ?_⟩
  refine (callsIn_wide.2 HA.out).mono ?_
  rintro e' w6 ⟨Bs, b, c6, rfl, hBs, hcs, hb1, hb2, hb3, hb4⟩
  have x6 : w6.cell? ⟨w.heap.size, 0, none⟩ = some (.int .i64 k) := (hb4.cell (p := ⟨w.heap.size, 0, none⟩) (by simp [s2])).trans x2
  have o6 : w6.cell? ⟨w.heap.size + 1, 0, none⟩ = some (.int .u32 0) := (hb4.cell (p := ⟨w.heap.size + 1, 0, none⟩) (by simp [s2])).trans o2.1
  have of6 : w6.frozen? ⟨w.heap.size + 1, 0, none⟩ = false := (frozen_below hb4 ⟨w.heap.size + 1, 0, none⟩ (by simp [s2])).trans o2.2
  have B6 := B2.out.trans (hb4.mono B2.out.size)
  gi_wp2_with fail
  refine wpIn_rangeFunc_ownG rfl (by omega) (gf := 32) (lb := #[.pointer (some ⟨Bs, 0, none⟩)]) rfl trivial (enters_of Try.func32 (by kernel_rfl) rfl)
    (all_stops Bs b n c6 L hL.out hn w6 hb3 (by omega) hBs hcs) (fun h h' => Eq.trans h' h) (fun W l o o' hl _ _ _ => World.putObj_heap_other (by omega)) (Below.refl _ _) (fun _ => rfl)
    (fun pre W => ((W.cell? ⟨w.heap.size + 1, 0, none⟩ = some (.int .u32 (bitsF k pre : Nat)) ∧ W.frozen? ⟨w.heap.size + 1, 0, none⟩ = false) ∧ W.cell? ⟨w.heap.size, 0, none⟩ = some (.int .i64 k)) ∧ Below w.heap.size w W)
    (fun _ _ _ => False)
    (OwnFrom.and (Own.from (fun s A B row hs hg hr => ⟨⟨cell_kept hs.1.1 hg hr, (frozen_kept hs.1.1 hg hr).trans hs.1.2⟩, cell_kept hs.2 hg hr⟩) _) (ownFrom_below (Nat.le_refl _) B6.size))
    (fun _ _ _ _ _ hs _ _ => hs)
    ⟨⟨⟨o6, of6⟩, x6⟩, B6⟩
    (fun x => { tmps := #[.pointer (some ⟨g, 0, none⟩), .int .i64 k, undef, .pointer (some ⟨w.heap.size, 0, none⟩), .int .u32 0, .pointer (some ⟨w.heap.size + 1, 0, none⟩), .int .i64 (x.1 : Int), undef, .pointer (some ⟨g, 0, none⟩), .int .i64 k, .bool true, .bool false, .pointer (some ⟨g, 0, none⟩), .func (.func 32) #[] #[.pointer (some ⟨Bs, 0, none⟩)], .int .i64 (x.1 : Int), .int .i64 (x.2 : Int), undef, undef, undef, undef, undef, undef, undef, undef, undef, undef, undef, undef, undef, undef], defers := [] }) ?assign ?body ?done ?stop
  case assign =>
    intro l x W K hK
    gi_wp2
    exact hK
  case body =>
    rintro l pre x W ⟨⟨⟨hc, hf⟩, hx⟩, hB⟩ _
    have hlt := bitsF_lt k pre
    have hsn := Lib.hid (bitsF_snoc k pre x)
    unfold bitStep at hsn
    obtain ⟨d, hd⟩ : ∃ d, d = IntKind.i64.wrap ((x.1 : Int) - k) := ⟨_, rfl⟩
    rw [← hd] at hsn
    have hd' : IntKind.i64.wrap ((x.1 : Int) - k) = d := hd.symm
    generalize bitsF k pre = v at *
    clear hd
    replace hB := Lib.hid hB
    by_cases h1 : 0 ≤ d
    · by_cases h2 : d < 32
      · obtain ⟨D, rfl⟩ := Int.eq_ofNat_of_zero_le h1
        have hmx : Try.prog.follows .mixedOrders = true := by kernel_rfl
        have hs2 : bitsF k (pre ++ [x]) = v ||| 2 ^ D := by rw [hsn.out, if_pos ⟨h1, h2⟩, Int.toNat_natCast]
        have hval := orPow v D hlt (by omega)
        replace hs2 := Lib.hid hs2
        replace hval := Lib.hid hval
        gi_wp2
        gi_region_with_o (fail)
        all_goals gi_wp2
        all_goals (try go_bits)
        all_goals exact ⟨((KeepsOthers.setCell _ _ _).trans (KeepsOthers.drew _)).from _, Below.heap_setCell W ⟨w.heap.size + 1, 0, none⟩ _ b (by simp; omega),
          ⟨⟨by rw [hval.out, ← hs2.out]; exact World.cell?_setCell_same' W ⟨w.heap.size + 1, 0, none⟩ _ (by rw [hc]; rfl), (World.frozen?_setCell W ⟨w.heap.size + 1, 0, none⟩ _ _).trans hf⟩, (World.cell?_setCell_other W ⟨w.heap.size + 1, 0, none⟩ ⟨w.heap.size, 0, none⟩ _ (by simp)).trans hx⟩,
          (hB.out.setCell (p := ⟨w.heap.size + 1, 0, none⟩) (by simp) _).drew⟩
      · have hs2 : bitsF k (pre ++ [x]) = v := by rw [hsn.out, if_neg (by omega)]
        replace hs2 := Lib.hid hs2
        gi_wp2
        exact ⟨KeepsFrom.refl _ _, rfl, ⟨⟨by rw [hs2.out]; exact hc, hf⟩, hx⟩, hB.out⟩
    · have hs2 : bitsF k (pre ++ [x]) = v := by rw [hsn.out, if_neg (by omega)]
      replace hs2 := Lib.hid hs2
      gi_wp2
      exact ⟨KeepsFrom.refl _ _, rfl, ⟨⟨by rw [hs2.out]; exact hc, hf⟩, hx⟩, hB.out⟩
  case done =>
    rintro D ys W hD rfl ⟨⟨⟨hc, _⟩, _⟩, hB⟩ hK
    have hkc := hc
    gi_wp2
    refine ⟨by simp, .inl ⟨_, _, rfl, run_takeDeferred hK, ?_⟩⟩
    exact ⟨_, results_tmp rfl _ _ _, rfl, hB.trans (belowK_b (w := w) (Nat.le_refl _) W D _ _ (by have := B6.size; omega) hK rfl rfl)⟩
  case stop =>
    rintro D c pre W _ _ h _
    exact h.elim

theorem bitsW (g q n : Nat) (L : List B8) (k : Int) (w : World) (h : Gd w g q n L) (h0 : 1 ≤ n) :
    Calls Try.prog 24 #[.pointer (some ⟨g, 0, none⟩), .int .i64 k] w fun e w' => e = .returned (.int .u32 (bitsP n L k : Nat)) ∧ Below w.heap.size w w' := by
  unfold bitsP
  cases hk : inN n k with
  | true => exact callsIn_wide.1 (bitsIn g q n L k w h h0 hk)
  | false =>
    have B1 : Below w.heap.size w (w.alloc (.cells #[.int .i64 k] 3)) := (Below.refl _ w).alloc (Nat.le_refl _) _
    have HH := Lib.hid (hasW g q n L k _ (h.below B1))
    rw [hk] at HH
    clear h
    go_enter Try.func24, Try.ntmps24
    go_wp2_with fail
    refine HH.out.mono ?_
    rintro e' w5 ⟨rfl, h5⟩
    obtain rfl := h5.symm
    go_wp2
    go_ret
    exact ⟨rfl, B1⟩
end Go.Proofs.Ytleflegbdnmgeaa.GdE
