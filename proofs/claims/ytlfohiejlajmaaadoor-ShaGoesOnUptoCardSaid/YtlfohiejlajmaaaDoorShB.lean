/- Digests: a block is spread. -/
import Derived.Test.YtlfohiejlajmaaaDoorShA
namespace Go.Proofs.YtlfohiejlajmaaaDoor.ShB
open Go.ChangeShapes Go.WideShapes Go.ChangeAt Go.RowKit
open ShM ShA Mem
set_option linter.unusedVariables false
set_option maxHeartbeats 2000000

/-- A row of words in 64 cells. -/
def wc (l : List W) : Array Value := ((List.range 64).map fun i => Value.int .u32 ((l.getD i 0).toNat : Int)).toArray
/-- A row of bytes in 64 cells. -/
def bc (l : List ShM.B8) : Array Value := ((List.range 64).map fun i => Value.int .u8 ((l.getD i 0).toNat : Int)).toArray
theorem wc_at (l : List W) (i : Nat) (h : i < 64) : (wc l)[i]? = some (.int .u32 ((l.getD i 0).toNat : Int)) := by
  unfold wc
  rw [List.getElem?_toArray, List.getElem?_map, List.getElem?_range h]
  rfl
theorem bc_at (l : List ShM.B8) (i : Nat) (h : i < 64) : (bc l)[i]? = some (.int .u8 ((l.getD i 0).toNat : Int)) := by
  unfold bc
  rw [List.getElem?_toArray, List.getElem?_map, List.getElem?_range h]
  rfl
theorem wc_size (l : List W) : (wc l).size = 64 := by simp [wc]
theorem bc_size (l : List ShM.B8) : (bc l).size = 64 := by simp [bc]
theorem wc_out (l : List W) (i : Nat) (h : ¬ i < 64) : (wc l)[i]? = none := by
  rw [Array.getElem?_eq_none_iff, wc_size]; omega
theorem wc_snoc (l : List W) (v : W) (h : l.length < 64) : (wc l).setIfInBounds l.length (.int .u32 (v.toNat : Int)) = wc (l ++ [v]) := by
  refine Array.ext_getElem? fun i => ?_
  rw [Array.getElem?_setIfInBounds]
  by_cases hi : i < 64
  · rw [wc_at (l ++ [v]) i hi]
    by_cases e : l.length = i
    · subst e
      rw [if_pos rfl, if_pos (by rw [wc_size]; exact h), List.getD_eq_getElem?_getD, List.getElem?_append_right (Nat.le_refl _), Nat.sub_self]
      rfl
    · rw [if_neg e, wc_at l i hi]
      simp only [List.getD_eq_getElem?_getD]
      by_cases h2 : i < l.length
      · rw [List.getElem?_append_left h2]
      · rw [List.getElem?_eq_none (by omega), List.getElem?_eq_none (by rw [List.length_append]; simp; omega)]
  · rw [wc_out _ i hi, if_neg (by omega), wc_out _ i hi]
theorem first_len (l : List ShM.B8) : ∀ k, (first l k).length = k
  | 0 => rfl
  | k + 1 => by rw [first, List.length_append, first_len l k]; rfl
theorem more_len : ∀ (j : Nat) (l : List W), (more j l).length = l.length + j
  | 0, l => rfl
  | j + 1, l => by rw [more, more_len j, List.length_append]; simp; omega
theorem more_snoc : ∀ (j : Nat) (l : List W), more (j + 1) l = more j l ++ [nextW (more j l)]
  | 0, l => rfl
  | j + 1, l => by
    show more (j + 1) (l ++ [nextW l]) = _
    rw [more_snoc j (l ++ [nextW l])]
    rfl
theorem ar (k : Nat) (h : k < 16) : ∃ q0 q1 q2 q3 : Nat, (q0 = 4 * k ∧ q1 = 4 * k + 1 ∧ q2 = 4 * k + 2 ∧ q3 = 4 * k + 3) ∧ IntKind.i64.wrap (4 * (k : Int)) = (q0 : Int) ∧ IntKind.i64.wrap ((q0 : Int) + 1) = (q1 : Int) ∧ IntKind.i64.wrap ((q0 : Int) + 2) = (q2 : Int) ∧ IntKind.i64.wrap ((q0 : Int) + 3) = (q3 : Int) ∧ (q0 : Int) < 64 ∧ (q1 : Int) < 64 ∧ (q2 : Int) < 64 ∧ (q3 : Int) < 64 := by
  refine ⟨4 * k, 4 * k + 1, 4 * k + 2, 4 * k + 3, ⟨rfl, rfl, rfl, rfl⟩, ?_, ?_, ?_, ?_, by omega, by omega, by omega, by omega⟩
  · rw [IntWalk.i64_in _ (by omega)]; omega
  · rw [IntWalk.i64_in _ (by omega)]; omega
  · rw [IntWalk.i64_in _ (by omega)]; omega
  · rw [IntWalk.i64_in _ (by omega)]; omega
theorem wb (x : ShM.B8) : (x.toNat : Int) = ((x.setWidth 32 : W).toNat : Int) := by
  have := x.isLt
  rw [BitVec.toNat_setWidth]
  omega
theorem wd (x0 x1 x2 x3 : ShM.B8) (F : Int) (hF : F = (((x0.setWidth 32 <<< 24) ||| (x1.setWidth 32 <<< 16) ||| (x2.setWidth 32 <<< 8) ||| x3.setWidth 32 : W).toNat : Int)) :
    (IntKind.u32.wrap (x0.toNat : Int) = (x0.toNat : Int) ∧ IntKind.u32.wrap (x1.toNat : Int) = (x1.toNat : Int) ∧ IntKind.u32.wrap (x2.toNat : Int) = (x2.toNat : Int) ∧ IntKind.u32.wrap (x3.toNat : Int) = (x3.toNat : Int)) ∧
    ∃ y0 y1 y2 s1 s2 : Int, IntKind.u32.wrap ((x0.toNat : Int) * 16777216) = y0 ∧ IntKind.u32.wrap ((x1.toNat : Int) * 65536) = y1 ∧ IntKind.u32.wrap ((x2.toNat : Int) * 256) = y2 ∧ bits .or .u32 y0 y1 = s1 ∧ bits .or .u32 s1 y2 = s2 ∧ bits .or .u32 s2 (x3.toNat : Int) = F := by
  have h0 := x0.isLt
  have h1 := x1.isLt
  have h2 := x2.isLt
  have h3 := x3.isLt
  refine ⟨⟨by rw [IntKind.wrap_u32]; omega, by rw [IntKind.wrap_u32]; omega, by rw [IntKind.wrap_u32]; omega, by rw [IntKind.wrap_u32]; omega⟩, _, _, _, _, _, rfl, rfl, rfl, rfl, rfl, ?_⟩
  rw [hF, wb x0, wb x1, wb x2, wb x3, sl32 _ 24 16777216 (by decide), sl32 _ 16 65536 (by decide), sl32 _ 8 256 (by decide), o32, o32, o32]
theorem turnQ (x : W) (n : Nat) (hn : Tn n) (w : World) (m : Nat) : Calls Tryd.prog 33 #[.int .u32 (x.toNat : Int), .int .i64 (n : Int)] (w.drewN m) fun e w'' => e = .returned (.int .u32 ((rr x n).toNat : Int)) ∧ ∃ m', w'' = w.drewN m' :=
  (turnW x n hn (w.drewN m)).mono fun _ _ ⟨he, hm⟩ => ⟨he, m, hm⟩
theorem i53 : (Tryd.prog.info? 53).map (·.size) = some 64 := by kernel_rfl
theorem i58 : (Tryd.prog.info? 58).map (·.size) = some 64 := by kernel_rfl
theorem one_wc (l : List W) : (wc l).all (·.oneCell') = true := by
  refine all_oneCell_toArray fun v hv => ?_
  obtain ⟨i, _, rfl⟩ := List.mem_map.1 hv
  rfl
theorem wc_nil : (#[.int .u32 0, .int .u32 0, .int .u32 0, .int .u32 0, .int .u32 0, .int .u32 0, .int .u32 0, .int .u32 0, .int .u32 0, .int .u32 0, .int .u32 0, .int .u32 0, .int .u32 0, .int .u32 0, .int .u32 0, .int .u32 0, .int .u32 0, .int .u32 0, .int .u32 0, .int .u32 0, .int .u32 0, .int .u32 0, .int .u32 0, .int .u32 0, .int .u32 0, .int .u32 0, .int .u32 0, .int .u32 0, .int .u32 0, .int .u32 0, .int .u32 0, .int .u32 0, .int .u32 0, .int .u32 0, .int .u32 0, .int .u32 0, .int .u32 0, .int .u32 0, .int .u32 0, .int .u32 0, .int .u32 0, .int .u32 0, .int .u32 0, .int .u32 0, .int .u32 0, .int .u32 0, .int .u32 0, .int .u32 0, .int .u32 0, .int .u32 0, .int .u32 0, .int .u32 0, .int .u32 0, .int .u32 0, .int .u32 0, .int .u32 0, .int .u32 0, .int .u32 0, .int .u32 0, .int .u32 0, .int .u32 0, .int .u32 0, .int .u32 0, .int .u32 0] : Array Value) = wc [] := by kernel_rfl

set_option maxRecDepth 100000 in
theorem spreadW (l : List ShM.B8) (w : World) : Calls Tryd.prog 32 #[.agg (bc l)] w fun e w' => e = .returned (.agg (wc (spread l))) ∧ Below w.heap.size w w' := by
  obtain ⟨w1, hw1⟩ : ∃ w1, w1 = w.alloc (.cells (bc l) 58) := ⟨_, rfl⟩
  obtain ⟨w2, hw2⟩ : ∃ w2, w2 = w1.alloc (.cells #[.int .u32 0, .int .u32 0, .int .u32 0, .int .u32 0, .int .u32 0, .int .u32 0, .int .u32 0, .int .u32 0, .int .u32 0, .int .u32 0, .int .u32 0, .int .u32 0, .int .u32 0, .int .u32 0, .int .u32 0, .int .u32 0, .int .u32 0, .int .u32 0, .int .u32 0, .int .u32 0, .int .u32 0, .int .u32 0, .int .u32 0, .int .u32 0, .int .u32 0, .int .u32 0, .int .u32 0, .int .u32 0, .int .u32 0, .int .u32 0, .int .u32 0, .int .u32 0, .int .u32 0, .int .u32 0, .int .u32 0, .int .u32 0, .int .u32 0, .int .u32 0, .int .u32 0, .int .u32 0, .int .u32 0, .int .u32 0, .int .u32 0, .int .u32 0, .int .u32 0, .int .u32 0, .int .u32 0, .int .u32 0, .int .u32 0, .int .u32 0, .int .u32 0, .int .u32 0, .int .u32 0, .int .u32 0, .int .u32 0, .int .u32 0, .int .u32 0, .int .u32 0, .int .u32 0, .int .u32 0, .int .u32 0, .int .u32 0, .int .u32 0, .int .u32 0] 53) := ⟨_, rfl⟩
  obtain ⟨w3, hw3⟩ : ∃ w3, w3 = w2.alloc (.cells #[.int .u32 0, .int .u32 0, .int .u32 0, .int .u32 0, .int .u32 0, .int .u32 0, .int .u32 0, .int .u32 0, .int .u32 0, .int .u32 0, .int .u32 0, .int .u32 0, .int .u32 0, .int .u32 0, .int .u32 0, .int .u32 0, .int .u32 0, .int .u32 0, .int .u32 0, .int .u32 0, .int .u32 0, .int .u32 0, .int .u32 0, .int .u32 0, .int .u32 0, .int .u32 0, .int .u32 0, .int .u32 0, .int .u32 0, .int .u32 0, .int .u32 0, .int .u32 0, .int .u32 0, .int .u32 0, .int .u32 0, .int .u32 0, .int .u32 0, .int .u32 0, .int .u32 0, .int .u32 0, .int .u32 0, .int .u32 0, .int .u32 0, .int .u32 0, .int .u32 0, .int .u32 0, .int .u32 0, .int .u32 0, .int .u32 0, .int .u32 0, .int .u32 0, .int .u32 0, .int .u32 0, .int .u32 0, .int .u32 0, .int .u32 0, .int .u32 0, .int .u32 0, .int .u32 0, .int .u32 0, .int .u32 0, .int .u32 0, .int .u32 0, .int .u32 0] 53) := ⟨_, rfl⟩
  have s1 : w1.heap.size = w.heap.size + 1 := by rw [hw1]; simp
  have s2 : w2.heap.size = w.heap.size + 2 := by rw [hw2]; simp [s1]
  have e1 : Hid (Mem.Blk w3 w.heap.size 58 (bc l)) := Lib.hid (by rw [hw3, hw2, hw1]; exact (((Mem.Blk.new w 58 _).alloc _).alloc _))
  have e2 : Hid (Mem.Blk w3 (w.heap.size + 1) 53 (wc [])) := Lib.hid (by rw [hw3, hw2, ← s1, wc_nil]; exact ((Mem.Blk.new w1 53 _).alloc _))
  have e3 : Hid (Mem.Blk w3 (w.heap.size + 2) 53 (wc [])) := Lib.hid (by rw [hw3, ← s2, wc_nil]; exact Mem.Blk.new w2 53 _)
  have D3 : Hid (Below w.heap.size w w3) := Lib.hid (by rw [hw3, hw2, hw1]; exact (((Below.refl _ _).alloc (Nat.le_refl _) _).alloc (by simp) _).alloc (by simp; omega) _)
  have HF : Hid (∀ k, first l (k + 1) = first l k ++ [word l k]) := Lib.hid fun _ => rfl
  have HFL := Lib.hid (first_len l)
  have HB := Lib.hid (fun i h => bc_at l i h)
  have HWD : Hid (∀ k, word l k = (((l.getD (4 * k) 0).setWidth 32 <<< 24) ||| ((l.getD (4 * k + 1) 0).setWidth 32 <<< 16) ||| ((l.getD (4 * k + 2) 0).setWidth 32 <<< 8) ||| ((l.getD (4 * k + 3) 0).setWidth 32))) := Lib.hid fun _ => rfl
  have HSN := Lib.hid (fun l v h => wc_snoc l v h)
  have HWA := Lib.hid (fun l i h => wc_at l i h)
  have H0 : Hid (first l 0 = []) := Lib.hid rfl
  clear s1 s2
  generalize hBC : bc l = BC at *
  go_enter Tryd.func32, Tryd.ntmps32
  go_wp2_with fail
  rw [← hw1, ← hw2, ← hw3]
  replace hw1 := Lib.hid hw1
  replace hw2 := Lib.hid hw2
  replace hw3 := Lib.hid hw3
  replace hBC := Lib.hid hBC
  go_loopw [4, 8] (fun _ i wr => ∃ k : Nat, k ≤ 16 ∧ i = .int .i64 (k : Int) ∧ Mem.Blk wr w.heap.size 58 BC ∧ Mem.Blk wr (w.heap.size + 1) 53 (wc []) ∧ Mem.Blk wr (w.heap.size + 2) 53 (wc (first l k)) ∧ Below w.heap.size w wr) (fun _ i _ => 16 - (intOf i).toNat)
  case atStart => exact ⟨0, by omega, rfl, e1.out, e2.out, by rw [H0.out]; exact e3.out, D3.out⟩
  case round =>
    clear e1 e2 e3 D3
    obtain ⟨k, hk, rfl, q1, q2, q3, hb⟩ := hrel
    by_cases hlt : k < 16
    · have hlt' : (k : Int) < 16 := by omega
      have hk64 : (k : Int) < 64 := by omega
      go_wp2_with fail
      have hlen := HFL.out k
      have hF := HF.out k
      have hWD := HWD.out k
      obtain ⟨q0', q1', q2', q3', ⟨hq0, hq1, hq2, hq3⟩, m0, m1, m2, m3, l0, l1, l2, l3⟩ := ar k hlt
      have c0 := (q1.drew.cell q0').trans (HB.out q0' (by omega))
      have c1 := (q1.drew.cell q1').trans (HB.out q1' (by omega))
      have c2 := (q1.drew.cell q2').trans (HB.out q2' (by omega))
      have c3 := (q1.drew.cell q3').trans (HB.out q3' (by omega))
      rw [← hq3, ← hq2, ← hq1, ← hq0] at hWD
      obtain ⟨V, hV⟩ : ∃ V, V = word l k := ⟨_, rfl⟩
      rw [← hV] at hWD hF
      obtain ⟨⟨u0, u1, u2, u3⟩, y0, y1, y2, s1, s2, v0, v1, v2, o1, o2, o3⟩ := wd _ _ _ _ (V.toNat : Int) (by rw [hWD])
      generalize ((l.getD q0' 0).toNat : Int) = x0 at c0 u0 v0
      generalize ((l.getD q1' 0).toNat : Int) = x1 at c1 u1 v1
      generalize ((l.getD q2' 0).toNat : Int) = x2 at c2 u2 v2
      generalize ((l.getD q3' 0).toNat : Int) = x3 at c3 u3 o3
      have had := q3.drew
      have hold := (had.cell k).trans (HWA.out _ k (by omega))
      have hfr := had.frozen k
      obtain ⟨OV, hOV⟩ : ∃ OV, OV = (((first l k).getD k 0).toNat : Int) := ⟨_, rfl⟩
      rw [← hOV] at hold
      have hP : Hid (Mem.Blk (wr.drew.setCell ⟨w.heap.size + 2, k, none⟩ (.int .u32 (V.toNat : Int))) (w.heap.size + 2) 53 (wc (first l (k + 1)))) := Lib.hid (by
        have h := had.put k (.int .u32 (V.toNat : Int))
        have h2 := HSN.out (first l k) V (by omega)
        rw [hlen] at h2
        rw [hF, ← h2]; exact h)
      have hR1 : Hid (Mem.Blk (wr.drew.setCell ⟨w.heap.size + 2, k, none⟩ (.int .u32 (V.toNat : Int))) w.heap.size 58 BC) := Lib.hid (Mem.Blk.far q1.drew (p := ⟨w.heap.size + 2, k, none⟩) (by simp) _)
      have hR2 : Hid (Mem.Blk (wr.drew.setCell ⟨w.heap.size + 2, k, none⟩ (.int .u32 (V.toNat : Int))) (w.heap.size + 1) 53 (wc [])) := Lib.hid (Mem.Blk.far q2.drew (p := ⟨w.heap.size + 2, k, none⟩) (by simp) _)
      have hRb : Hid (Below w.heap.size w (wr.drew.setCell ⟨w.heap.size + 2, k, none⟩ (.int .u32 (V.toNat : Int)))) := Lib.hid (hb.drew.setCell (p := ⟨w.heap.size + 2, k, none⟩) (by show w.heap.size ≤ w.heap.size + 2; omega) _)
      obtain ⟨VV, hVV⟩ : ∃ VV, VV = (V.toNat : Int) := ⟨_, rfl⟩
      rw [← hVV] at hP hR1 hR2 hRb o3
      replace hVV := Lib.hid hVV
      replace hV := Lib.hid hV
      replace hOV := Lib.hid hOV
      clear had hWD hF hlen hq0 hq1 hq2 hq3 q1 q2 q3 hb
      refine wp_region_still_tail 31 (by kernel_rfl) (by kernel_rfl) ?_
      simp only [List.take_succ_cons, List.take_zero, List.drop_succ_cons, List.drop_zero]
      change wpStill _ _ (World.drew _) (fun a' => wpList _ _ _ _ a' (World.drew _)) _ _
      repeat still_step
      try refine wpStill_nil ?_
      change wpList _ _ _ _ _ (World.drew _)
      go_wp2
      go_roundw
      case rel => exact ⟨k + 1, by omega, by go_num, hR1.out, hR2.out, hP.out, hRb.out⟩
      case measure => simp [intOf]; omega
    · obtain rfl : k = 16 := by omega
      have hlt' : ¬ ((16 : Nat) : Int) < 16 := by omega
      have e2 := Lib.hid q2
      have e3 := Lib.hid q3
      have D3 := Lib.hid hb
      clear q1 q2 q3 hb
      go_wp2_with fail
      generalize hFW : first l 16 = FW at *
      have HLN : Hid (∀ j, (more j FW).length = 16 + j) := Lib.hid fun j => by rw [more_len, ← hFW, first_len]
      have HMS : Hid (∀ j, more (j + 1) FW = more j FW ++ [nextW (more j FW)]) := Lib.hid fun j => more_snoc j FW
      have HSP : Hid (spread l = more 48 FW) := Lib.hid (by unfold ShM.spread; rw [hFW])
      have H00 : Hid (more 0 FW = FW) := Lib.hid rfl
      replace hFW := Lib.hid hFW
      clear HF HFL HB HWD H0
      go_loopw [5, 6, 7] (fun i _ _ wr => ∃ (n j : Nat), j ≤ 48 ∧ n = 16 + j ∧ i = .int .i64 (n : Int) ∧ Mem.Blk wr (w.heap.size + 1) 53 (wc []) ∧ Mem.Blk wr (w.heap.size + 2) 53 (wc (more j FW)) ∧ Below w.heap.size w wr) (fun i _ _ _ => 64 - (intOf i).toNat)
      case atStart => exact ⟨16, 0, by omega, rfl, rfl, e2.out, by rw [H00.out]; exact e3.out, D3.out⟩
      case round =>
        clear e2 e3 D3
        obtain ⟨n, j, hj, hn, rfl, q2, q3, hb⟩ := hrel
        by_cases hlt : n < 64
        · have hlt' : (n : Int) < 64 := by omega
          have hlen := HLN.out j
          have hms := HMS.out j
          obtain ⟨L, hL⟩ : ∃ L, L = more j FW := ⟨_, rfl⟩
          rw [← hL] at hlen hms q3
          rw [← hn] at hlen
          obtain ⟨i15, h15⟩ : ∃ i : Nat, i = n - 15 := ⟨_, rfl⟩
          obtain ⟨i2, h2⟩ : ∃ i : Nat, i = n - 2 := ⟨_, rfl⟩
          obtain ⟨i16, h16⟩ : ∃ i : Nat, i = n - 16 := ⟨_, rfl⟩
          obtain ⟨i7, h7⟩ : ∃ i : Nat, i = n - 7 := ⟨_, rfl⟩
          have w15 : IntKind.i64.wrap ((n : Int) - 15) = (i15 : Int) := by rw [IntKind.wrap_i64]; omega
          have w2' : IntKind.i64.wrap ((n : Int) - 2) = (i2 : Int) := by rw [IntKind.wrap_i64]; omega
          have w16 : IntKind.i64.wrap ((n : Int) - 16) = (i16 : Int) := by rw [IntKind.wrap_i64]; omega
          have w7 : IntKind.i64.wrap ((n : Int) - 7) = (i7 : Int) := by rw [IntKind.wrap_i64]; omega
          have l15 : (i15 : Int) < 64 := by omega
          have l2 : (i2 : Int) < 64 := by omega
          have l16 : (i16 : Int) < 64 := by omega
          have l7 : (i7 : Int) < 64 := by omega
          have c15 := (q3.cell i15).trans (HWA.out L i15 (by omega))
          have c2 := (q3.cell i2).trans (HWA.out L i2 (by omega))
          have c16 := (q3.cell i16).trans (HWA.out L i16 (by omega))
          have c7 := (q3.cell i7).trans (HWA.out L i7 (by omega))
          have hN : nextW L = L.getD i16 0 + (rr (L.getD i15 0) 7 ^^^ rr (L.getD i15 0) 18 ^^^ (L.getD i15 0 >>> 3)) + L.getD i7 0 + (rr (L.getD i2 0) 17 ^^^ rr (L.getD i2 0) 19 ^^^ (L.getD i2 0 >>> 10)) := by
            unfold nextW; rw [hlen, ← h16, ← h15, ← h7, ← h2]
          generalize L.getD i15 0 = x at c15 hN
          generalize L.getD i2 0 = y at c2 hN
          generalize L.getD i16 0 = za at c16 hN
          generalize L.getD i7 0 = zb at c7 hN
          have T7 : Hid (∀ (w : World) m, Calls Tryd.prog 33 #[.int .u32 (x.toNat : Int), .int .i64 7] (w.drewN m) fun e w'' => e = .returned (.int .u32 ((rr x 7).toNat : Int)) ∧ ∃ m', w'' = w.drewN m') := Lib.hid fun w m => turnQ x 7 (by unfold Tn; omega) w m
          have T18 : Hid (∀ (w : World) m, Calls Tryd.prog 33 #[.int .u32 (x.toNat : Int), .int .i64 18] (w.drewN m) fun e w'' => e = .returned (.int .u32 ((rr x 18).toNat : Int)) ∧ ∃ m', w'' = w.drewN m') := Lib.hid fun w m => turnQ x 18 (by unfold Tn; omega) w m
          have T17 : Hid (∀ (w : World) m, Calls Tryd.prog 33 #[.int .u32 (y.toNat : Int), .int .i64 17] (w.drewN m) fun e w'' => e = .returned (.int .u32 ((rr y 17).toNat : Int)) ∧ ∃ m', w'' = w.drewN m') := Lib.hid fun w m => turnQ y 17 (by unfold Tn; omega) w m
          have T19 : Hid (∀ (w : World) m, Calls Tryd.prog 33 #[.int .u32 (y.toNat : Int), .int .i64 19] (w.drewN m) fun e w'' => e = .returned (.int .u32 ((rr y 19).toNat : Int)) ∧ ∃ m', w'' = w.drewN m') := Lib.hid fun w m => turnQ y 19 (by unfold Tn; omega) w m
          have hx1 := x32 (rr x 7) (rr x 18)
          have hx2 := sr32 x 3 8 (by decide)
          have hx3 := x32 (rr x 7 ^^^ rr x 18) (x >>> 3)
          have hy1 := x32 (rr y 17) (rr y 19)
          have hy2 := sr32 y 10 1024 (by decide)
          have hy3 := x32 (rr y 17 ^^^ rr y 19) (y >>> 10)
          have ha1 := ad32 za (rr x 7 ^^^ rr x 18 ^^^ (x >>> 3))
          have ha2 := ad32 (za + (rr x 7 ^^^ rr x 18 ^^^ (x >>> 3))) zb
          have ha3 := ad32 (za + (rr x 7 ^^^ rr x 18 ^^^ (x >>> 3)) + zb) (rr y 17 ^^^ rr y 19 ^^^ (y >>> 10))
          rw [← hN] at ha3
          have hNW := Lib.hid hN
          clear hN
          generalize hNX : ((nextW L).toNat : Int) = NX at ha3
          generalize ((za + (rr x 7 ^^^ rr x 18 ^^^ (x >>> 3)) + zb).toNat : Int) = A2 at ha2 ha3
          generalize ((za + (rr x 7 ^^^ rr x 18 ^^^ (x >>> 3))).toNat : Int) = A1 at ha1 ha2
          generalize ((rr y 17 ^^^ rr y 19 ^^^ (y >>> 10)).toNat : Int) = Y3 at hy3 ha3
          generalize ((rr x 7 ^^^ rr x 18 ^^^ (x >>> 3)).toNat : Int) = X3 at hx3 ha1
          generalize ((rr y 17 ^^^ rr y 19).toNat : Int) = Y1 at hy1 hy3
          generalize ((rr x 7 ^^^ rr x 18).toNat : Int) = X1 at hx1 hx3
          generalize ((y >>> 10).toNat : Int) = Y2 at hy2 hy3
          generalize ((x >>> 3).toNat : Int) = X2 at hx2 hx3
          generalize ((rr x 7).toNat : Int) = R7 at T7 hx1
          generalize ((rr x 18).toNat : Int) = R18 at T18 hx1
          generalize ((rr y 17).toNat : Int) = R17 at T17 hy1
          generalize ((rr y 19).toNat : Int) = R19 at T19 hy1
          generalize (x.toNat : Int) = XX at *
          generalize (y.toNat : Int) = YY at *
          generalize (za.toNat : Int) = ZA at *
          generalize (zb.toNat : Int) = ZB at *
          replace hn := Lib.hid hn
          replace h15 := Lib.hid h15
          replace h2 := Lib.hid h2
          replace h16 := Lib.hid h16
          replace h7 := Lib.hid h7
          replace hL := Lib.hid hL
          replace hms := Lib.hid hms
          replace hlen := Lib.hid hlen
          replace hNX := Lib.hid hNX
          replace hNW := Lib.hid hNW
          replace q2 := Lib.hid q2
          replace q3 := Lib.hid q3
          replace hb := Lib.hid hb
          go_wp2_with (go_quiet ((go_at_call 33; first | (with_reducible exact T7.out _ _) | (with_reducible exact T18.out _ _) | (with_reducible exact T17.out _ _) | (with_reducible exact T19.out _ _))))
          have d1 := Lib.hid (Mem.below_drewN hb.out nq)
          have p2 := Lib.hid (q2.out.drewN nq)
          have p3 := Lib.hid (q3.out.drewN nq)
          have g2 := (p3.out.cell i2).trans ((q3.out.cell i2).symm.trans c2)
          have g16 := (p3.out.cell i16).trans ((q3.out.cell i16).symm.trans c16)
          have g7 := (p3.out.cell i7).trans ((q3.out.cell i7).symm.trans c7)
          clear c2 c16 c7 c15 q2 q3 hb
          generalize wr.drewN nq = wp at d1 p2 p3 g2 g16 g7 ⊢
          go_wp2_with (go_quiet ((go_at_call 33; first | (with_reducible exact T7.out _ _) | (with_reducible exact T18.out _ _) | (with_reducible exact T17.out _ _) | (with_reducible exact T19.out _ _))))
          have hb := Mem.below_drewN d1.out nq
          have q2 := p2.out.drewN nq
          have q3 := p3.out.drewN nq
          have c16 := (q3.drew.cell i16).trans ((p3.out.cell i16).symm.trans g16)
          have c7 := (q3.drew.cell i7).trans ((p3.out.cell i7).symm.trans g7)
          clear g2 g16 g7 p2 p3 d1
          generalize wp.drewN nq = wq at hb q2 q3 c16 c7 ⊢
          have had := q3.drew
          have hnn := hlen.out
          have hnn2 : n < 64 := hlt
          have hold := (had.cell n).trans (HWA.out L n hnn2)
          have hfr := had.frozen n
          obtain ⟨OV, hOV⟩ : ∃ OV, OV = ((L.getD n 0).toNat : Int) := ⟨_, rfl⟩
          rw [← hOV] at hold
          have hP : Hid (Mem.Blk (wq.drew.setCell ⟨w.heap.size + 2, n, none⟩ (.int .u32 NX)) (w.heap.size + 2) 53 (wc (more (j + 1) FW))) := Lib.hid (by
            have h := had.put n (.int .u32 NX)
            have h2 := HSN.out L (nextW L) (by omega)
            rw [hnn, hNX.out] at h2
            rw [hms.out, ← h2]; exact h)
          have hR2 : Hid (Mem.Blk (wq.drew.setCell ⟨w.heap.size + 2, n, none⟩ (.int .u32 NX)) (w.heap.size + 1) 53 (wc [])) := Lib.hid (Mem.Blk.far q2.drew (p := ⟨w.heap.size + 2, n, none⟩) (by simp) _)
          have hRb : Hid (Below w.heap.size w (wq.drew.setCell ⟨w.heap.size + 2, n, none⟩ (.int .u32 NX))) := Lib.hid (hb.drew.setCell (p := ⟨w.heap.size + 2, n, none⟩) (by show w.heap.size ≤ w.heap.size + 2; omega) _)
          replace hOV := Lib.hid hOV
          replace hnn := Lib.hid hnn
          clear had q2 q3 hb
          refine wp_region_still_tail 15 (by kernel_rfl) (by kernel_rfl) ?_
          simp only [List.take_succ_cons, List.take_zero, List.drop_succ_cons, List.drop_zero]
          change wpStill _ _ (World.drew _) (fun a' => wpList _ _ _ _ a' (World.drew _)) _ _
          repeat still_step
          try refine wpStill_nil ?_
          change wpList _ _ _ _ _ (World.drew _)
          go_wp2
          go_roundw
          case rel => exact ⟨n + 1, j + 1, by have := hn.out; omega, by have := hn.out; omega, by go_num, hR2.out, hP.out, hRb.out⟩
          case measure => simp [intOf]; omega
        · obtain rfl : j = 48 := by omega
          have hlt' : ¬ (n : Int) < 64 := by omega
          have r3 := Lib.hid q3.range
          replace q2 := Lib.hid q2
          replace hb := Lib.hid hb
          clear q3
          obtain ⟨WC, hWC⟩ : ∃ WC, WC = wc (more 48 FW) := ⟨_, rfl⟩
          rw [← hWC] at r3
          have hWS : Hid (WC.size = 64) := Lib.hid (by rw [hWC]; exact wc_size _)
          have hW1 : Hid (WC.all (·.oneCell') = true) := Lib.hid (by rw [hWC]; exact one_wc _)
          replace hWC := Lib.hid (show WC = wc (spread l) by rw [hWC, HSP.out])
          have iW : Hid ((Tryd.prog.info? 53).map (·.size) = some WC.size) := Lib.hid (by rw [hWS.out]; exact i53)
          have sW : Hid ((wc []).size = WC.size) := Lib.hid (by rw [hWS.out, wc_size])
          go_wp2_with (first
            | ((with_reducible show wpList _ _ _ (Oper.mk _ (Op.load 53 (.tmp 3)) _ _ _ _ :: _) _ _); refine Mem.loadMid 53 (.tmp 3) rfl (w.heap.size + 2) 0 rfl WC r3.out _ Tryd.underlying53 rfl iW.out rfl ?_)
            | ((with_reducible show wpList _ _ _ (Oper.mk _ (Op.store 53 (.tmp 2) (.tmp 96)) _ _ _ _ :: _) _ _); refine Mem.storeBlk 53 (.tmp 2) (.tmp 96) rfl (w.heap.size + 1) rfl (wc []) WC rfl 53 q2.out iW.out sW.out hW1.out w.heap.size w hb.out (by omega) rfl ?_; intro w5 hB5 hb5))
          exact bodyPost_ret (results_cell_row Tryd.results32 _ _ (w.heap.size + 1) 53 _ (0, 0) _ rfl hB5 Tryd.underlying53 rfl iW.out) rfl ⟨by rw [hWC.out], hb5⟩
end Go.Proofs.YtlfohiejlajmaaaDoor.ShB
