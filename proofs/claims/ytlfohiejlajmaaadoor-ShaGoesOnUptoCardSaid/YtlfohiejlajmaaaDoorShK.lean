/- Digests: the sum, as what is written behind. -/
import Derived.Test.YtlfohiejlajmaaaDoorShJ
namespace Go.Proofs.YtlfohiejlajmaaaDoor.ShK
open Go.ChangeShapes Go.WideShapes Go.ChangeAt Go.RowKit
open ShM ShA ShB ShC ShD ShE ShF ShG ShH ShI ShJ Mem
open ShT (Rd vals vals_length vals_one)
set_option linter.unusedVariables false
set_option maxHeartbeats 2000000

theorem Below.up {B : Nat} {w0 w w' : World} {g : Nat} (h : Below B w0 w) (hu : Upd w w' g) (hB : B ≤ g) (hs : B ≤ w.heap.size) : Below B w0 w' :=
  ⟨hu.gb.os.trans h.os, hu.gb.tape.trans h.tape, hu.gb.output.trans h.output, Nat.le_trans h.size hu.gb.size, fun q hq => (hu.gb.block q (by omega) (by intro e; injection e; omega)).trans (h.block q hq)⟩
theorem _root_.Go.Proofs.YtlfohiejlajmaaaDoor.Mem.Blk.up {w w' : World} {g q : Nat} {t : TypeId} {cs : Array Value} (h : Mem.Blk w q t cs) (hu : Upd w w' g) (hq : q ≠ g) : Mem.Blk w' q t cs :=
  (hu.gb.block q h.lt (by intro e; injection e with e; exact hq e)).trans h
theorem Laid.two {w : World} (h : Laid w) : 2 ≤ w.heap.size := by
  obtain ⟨_, ⟨t', z', h1⟩⟩ := h
  rcases Nat.lt_or_ge 1 w.heap.size with hlt | hge
  · omega
  · rw [Array.getElem?_eq_none hge] at h1; cases h1
/-- A byte in a row of its own. -/
theorem oneSr (w : World) (g : Nat) (hg : g < w.heap.size) (x : ShM.B8) (n : Int) (hn : n = (x.toNat : Int)) (a : Option Addr) (ha : a = some ⟨w.heap.size, 0, none⟩) : Sr (w.alloc (.cells #[.int .u8 n] 5)) g a [x] := by
  subst hn ha
  refine ⟨⟨by simp [maxLen], fun i hi => ⟨w.heap.size, 0, rfl, ?_⟩⟩, fun y _ e => ?_⟩
  · have : i = 0 := by simp at hi; omega
    subst this
    exact (Mem.Blk.new w 5 #[.int .u8 (x.toNat : Int)]).cell 0
  · injection e with e
    subst e
    exact ⟨by simp, by show w.heap.size ≠ g; omega⟩
theorem b32_snoc (l : List ShM.B8) (v : ShM.B8) (h : l.length < 32) : (b32 l).setIfInBounds l.length (.int .u8 (v.toNat : Int)) = b32 (l ++ [v]) := by
  apply Array.ext_getElem?
  intro i
  rw [Array.getElem?_setIfInBounds]
  by_cases hi : i < 32
  · by_cases e : l.length = i
    · subst e
      rw [if_pos rfl, if_pos (by rw [b32_size]; exact h), b32_at _ _ hi]
      simp [List.getD]
    · rw [if_neg e, b32_at _ _ hi, b32_at _ _ hi]
      congr 3
      by_cases h1 : i < l.length
      · simp [List.getD, List.getElem?_append_left h1]
      · simp [List.getD, List.getElem?_append_right (show l.length ≤ i by omega), show l[i]? = none by simp; omega, show i - l.length ≠ 0 by omega]
  · rw [if_neg (by omega), Array.getElem?_eq_none (by rw [b32_size]; omega), Array.getElem?_eq_none (by rw [b32_size]; omega)]
theorem sum_bytes (m : List ShM.B8) (t : St) (h : Is t (pad m)) : ShM.bytes t.s = ShM.sum m := by
  unfold ShM.sum
  rw [h.s]
theorem bytes_len (s : S8) : (ShM.bytes s).length = 32 := rfl
theorem bytes_at (s : S8) (i k : Nat) (hi : i < 8) (hk : k < 4) : (ShM.bytes s).getD (4 * i + k) 0 = (((sl s).getD i 0) >>> (24 - 8 * k)).setWidth 8 := by
  obtain rfl | rfl | rfl | rfl | rfl | rfl | rfl | rfl : i = 0 ∨ i = 1 ∨ i = 2 ∨ i = 3 ∨ i = 4 ∨ i = 5 ∨ i = 6 ∨ i = 7 := by omega
  all_goals
    obtain rfl | rfl | rfl | rfl : k = 0 ∨ k = 1 ∨ k = 2 ∨ k = 3 := by omega
    all_goals first | rfl | (show BitVec.setWidth 8 _ = BitVec.setWidth 8 _; simp)
theorem zero_row (q : List ShM.B8) (j : Nat) : q ++ List.replicate j 0 ++ [0] = q ++ List.replicate (j + 1) (0 : ShM.B8) := by
  rw [List.append_assoc, ← List.replicate_succ']
theorem tail_take (n j : Nat) (h : j < 8) : (tail8 n).take j ++ [BitVec.ofNat 8 (n / 2 ^ (8 * (7 - j)))] = (tail8 n).take (j + 1) := by
  rw [List.take_add_one]
  congr 1
  unfold tail8
  rw [List.getElem?_map, List.getElem?_range h]
  rfl
theorem not56 (n j : Nat) (h : j < zeros n) : ¬ (n + 1 + j) % 64 = 56 := by
  unfold zeros at h
  omega
/-- A digest at its end: its block, the cell for the result. -/
def Ed (w0 wr : World) (ZV : Array Value) (M : List ShM.B8) : Prop := (∃ t', Is t' M ∧ Bk wr w0.heap.size t') ∧ Mem.Blk wr (w0.heap.size + 1) 28 ZV ∧ Below w0.heap.size w0 wr
theorem Ed.next {w0 wr w' : World} {ZV : Array Value} {M M' : List ShM.B8} {o : Obj} (h : Ed w0 wr ZV M) (hu : Upd (wr.alloc o) w' w0.heap.size) (ht : ∃ t', Is t' M' ∧ Bk w' w0.heap.size t') : Ed w0 w' ZV M' :=
  ⟨ht, (h.2.1.alloc o).up hu (by omega), Below.up (h.2.2.alloc h.2.2.size o) hu (Nat.le_refl _) (by have := h.2.2.size; simp; omega)⟩
/-- How many bytes 0 are missing. -/
def miss (wr : World) (g : Nat) : Nat := match wr.cell? ⟨g, 72, none⟩ with | some (.int _ z) => (120 - z.toNat) % 64 | _ => 0
theorem miss_of {wr : World} {g f : Nat} (h : wr.cell? ⟨g, 72, none⟩ = some (.int .i64 (f : Int))) : miss wr g = (120 - f) % 64 := by unfold miss; rw [h]; rfl
theorem i28' : (Tryd.prog.info? 28).map (·.size) = some 32 := by kernel_rfl

theorem index52a (cs : Array Value) (i : Nat) (v : Value) (h : i < 8) (hv : cs[i]? = some v) (w : World) : (Instr.index 52 (.agg cs) (.int .i64 (i : Int))).run Tryd.prog w = .ok v w := by
  have hz : ∀ w, (sizeOf 51).run Tryd.prog w = .ok 1 w := fun w => by kernel_rfl
  have ha : ∀ w, (isAgg 51).run Tryd.prog w = .ok false w := fun w => by kernel_rfl
  have hi : (0 : Int) ≤ (i : Int) ∧ (i : Int) < 8 := by omega
  simp [Instr.index, run_underlying Tryd.underlying52, asIntOf, part]
  simp [hv, go_sem]
  intro hh
  omega
theorem index52 (S : S8) (i : Nat) (h : i < 8) (w : World) : (Instr.index 52 (.agg (s8c S)) (.int .i64 (i : Int))).run Tryd.prog w = .ok (.int .u32 (((sl S).getD i 0).toNat : Int)) w := index52a _ _ _ h (s8c_at S i h) w
theorem arI (i k : Nat) (hi : i < 8) (hk : k < 4) : ∃ q p : Nat, q = 4 * i + k ∧ p = 24 - 8 * k ∧ IntKind.i64.wrap (4 * (i : Int)) = ((4 * i : Nat) : Int) ∧ IntKind.i64.wrap (((4 * i : Nat) : Int) + (k : Int)) = (q : Int) ∧ IntKind.i64.wrap (8 * (k : Int)) = ((8 * k : Nat) : Int) ∧ IntKind.i64.wrap (24 - ((8 * k : Nat) : Int)) = (p : Int) ∧ q < 32 := by
  refine ⟨4 * i + k, 24 - 8 * k, rfl, rfl, ?_, ?_, ?_, ?_, by omega⟩
  all_goals rw [IntKind.wrap_i64]; omega
theorem take_snoc (l : List ShM.B8) (q : Nat) (h : q < l.length) : l.take q ++ [l.getD q 0] = l.take (q + 1) := by
  rw [List.take_add_one]
  congr 1
  simp [List.getD, h]

theorem sv (X : W) (k : Nat) : (X.toNat : Int) / 2 ^ (24 - 8 * k) % 256 = ((((X >>> (24 - 8 * k)).setWidth 8 : ShM.B8)).toNat : Int) := by
  generalize 24 - 8 * k = d
  rw [BitVec.toNat_setWidth, BitVec.toNat_ushiftRight, Nat.shiftRight_eq_div_pow, Int.natCast_emod, Int.natCast_ediv, Int.natCast_pow]
  rfl
theorem b32_one (l : List ShM.B8) : (b32 l).all (·.oneCell') = true := by
  rw [Array.all_eq_true_iff_forall_mem]
  intro v hv
  unfold b32 at hv
  simp at hv
  obtain ⟨i, _, rfl⟩ := hv
  rfl

set_option maxRecDepth 100000 in
theorem endW (t : St) (m : List ShM.B8) (w : World) (hl : Laid w) (hi : Is t m) : Calls Tryd.prog 27 #[.agg (bkl t).toArray] w fun e w' => e = .returned (.agg (b32 (ShM.sum m))) ∧ Below w.heap.size w w' := by
  obtain ⟨TV, hTV⟩ : ∃ TV, TV = (bkl t).toArray := ⟨_, rfl⟩
  rw [← hTV]
  have hw2 := Laid.two hl
  have HLD : Hid (∀ w', Below w.heap.size w w' → Laid w') := Lib.hid fun w' hb => hl.below hb
  have iT : Hid ((Tryd.prog.info? 60).map (·.size) = some TV.size) := Lib.hid (by rw [hTV, List.size_toArray, bkl_len]; exact i60)
  have hnew : Hid (∀ o : Obj, Bk ((w.alloc (.cells TV 60)).alloc o) w.heap.size t) := Lib.hid fun o => by
    have hb := (Mem.Blk.new w 60 TV).alloc o
    refine Bk_of hb.lt ?_ ?_
    · have := hb.range
      have e : TV.toList = bkl t := by rw [hTV]
      rw [e] at this
      exact this
    · exact hb.there 74 (by rw [hTV, List.size_toArray, bkl_len]; exact Nat.le_refl _)
  replace hTV := Lib.hid hTV
  clear hl
  go_enter Tryd.func27, Tryd.ntmps27
  go_upto_region 1 with fail
  obtain ⟨ZV, hZV⟩ : ∃ ZV : Array Value, ZV = #[.int .u8 0, .int .u8 0, .int .u8 0, .int .u8 0, .int .u8 0, .int .u8 0, .int .u8 0, .int .u8 0, .int .u8 0, .int .u8 0, .int .u8 0, .int .u8 0, .int .u8 0, .int .u8 0, .int .u8 0, .int .u8 0, .int .u8 0, .int .u8 0, .int .u8 0, .int .u8 0, .int .u8 0, .int .u8 0, .int .u8 0, .int .u8 0, .int .u8 0, .int .u8 0, .int .u8 0, .int .u8 0, .int .u8 0, .int .u8 0, .int .u8 0, .int .u8 0] := ⟨_, rfl⟩
  rw [← hZV]
  have hZ0 : Hid (ZV = b32 []) := Lib.hid (by rw [hZV]; kernel_rfl)
  replace hZV := Lib.hid hZV
  have k1 := Lib.hid (hnew.out (.cells ZV 28))
  have r1 : Hid (Mem.Blk ((w.alloc (.cells TV 60)).alloc (.cells ZV 28)) (w.heap.size + 1) 28 ZV) := Lib.hid (by
    have := Mem.Blk.new (w.alloc (.cells TV 60)) 28 ZV
    rwa [show (w.alloc (.cells TV 60)).heap.size = w.heap.size + 1 by simp] at this)
  have D1 : Hid (Below w.heap.size w ((w.alloc (.cells TV 60)).alloc (.cells ZV 28))) := Lib.hid (((Below.refl _ _).alloc (Nat.le_refl _) _).alloc (by simp) _)
  generalize (w.alloc (.cells TV 60)).alloc (.cells ZV 28) = w1 at k1 r1 D1 ⊢
  clear hnew
  have c73 := k1.out.len
  obtain ⟨N, hN⟩ : ∃ N, N = m.length * 8 % 2 ^ 64 := ⟨_, rfl⟩
  have hNe : IntKind.u64.wrap ((t.len : Int) * 8) = (N : Int) := by
    have := hi.len
    rw [IntKind.wrap_u64]; omega
  have hNb : N < 2 ^ 64 := by omega
  replace hN := Lib.hid hN
  replace hNb := Lib.hid hNb
  replace hi := Lib.hid hi
  go_upto_region 2 with fail
  have HADD : Hid (∀ (x : ShM.B8) (n : Int) (M : List ShM.B8) (w' : World), n = (x.toNat : Int) → Ed w w' ZV M → Calls Tryd.prog 25 #[.pointer (some ⟨w.heap.size, 0, none⟩), .slice (some ⟨w'.heap.size, 0, none⟩) 1 1] (w'.alloc (.cells #[.int .u8 n] 5)) fun e w'' => e = .returned (.tuple #[]) ∧ Ed w w'' ZV (M ++ [x])) := Lib.hid fun x n M w' hn hE => by
    obtain ⟨t, hi, hk⟩ := hE.1
    have hb2 : Below w'.heap.size w' (w'.alloc (.cells #[.int .u8 n] 5)) := (Below.refl _ _).alloc (Nat.le_refl _) _
    refine (addW w.heap.size t M [x] _ 1 1 _ (HLD.out _ (hE.2.2.alloc hE.2.2.size _)) hw2 (hk.below hb2 hk.lt) hi rfl (oneSr w' w.heap.size hk.lt x n hn _ rfl) (Nat.le_refl _) (by simp [maxLen])).mono ?_
    rintro e w'' ⟨rfl, ht, hu⟩
    exact ⟨rfl, hE.next hu ht⟩
  have E1 : Hid (Ed w w1 ZV m) := Lib.hid ⟨⟨t, hi.out, k1.out⟩, r1.out, D1.out⟩
  clear k1 r1 D1 hi c73 hNe
  go_wp2_with fail
  refine (HADD.out 0x80#8 128 m w1 rfl E1.out).mono ?_
  rintro e w2 ⟨rfl, E2⟩
  have HZA := Lib.hid (fun j => zero_row (m ++ [0x80#8]) j)
  have HEF : Hid (∀ wr j, Ed w wr ZV (m ++ [0x80#8] ++ List.replicate j 0) → wr.cell? ⟨w.heap.size, 72, none⟩ = some (.int .i64 (((m.length + 1 + j) % 64 : Nat) : Int))) := Lib.hid fun wr j h => by
    obtain ⟨t, hi, hk⟩ := h.1
    have e := hi.fl
    have e2 : (m ++ [0x80#8] ++ List.replicate j (0 : ShM.B8)).length = m.length + 1 + j := by simp; omega
    rw [e2] at e
    rw [← e]
    exact hk.fl
  have E3 : Hid (Ed w w2 ZV (m ++ [0x80#8] ++ List.replicate 0 0)) := Lib.hid (by rw [List.replicate_zero, List.append_nil]; exact E2)
  clear E2 E1
  go_wp2_with fail
  go_loopw [] (fun wr => ∃ j : Nat, j ≤ zeros m.length ∧ Ed w wr ZV (m ++ [0x80#8] ++ List.replicate j 0)) (fun wr => miss wr w.heap.size)
  case atStart => exact ⟨0, by omega, E3.out⟩
  case round =>
    clear E3
    obtain ⟨j, hj, hE⟩ := hrel
    have c72 := HEF.out wr j hE
    obtain ⟨f, hf⟩ : ∃ f, f = (m.length + 1 + j) % 64 := ⟨_, rfl⟩
    rw [← hf] at c72
    have hm := Lib.hid (miss_of c72)
    by_cases hlt : j < zeros m.length
    · have h56 : ¬ (f : Int) = 56 := by have := not56 m.length j hlt; omega
      have E4 := Lib.hid hE
      have hf64 : Hid (f < 64) := Lib.hid (by omega)
      replace hf := Lib.hid hf
      clear hE
      go_wp2_with fail
      refine (HADD.out 0#8 0 _ wr rfl E4.out).mono ?_
      rintro e w3 ⟨rfl, E5⟩
      have E6 : Hid (Ed w w3 ZV (m ++ [0x80#8] ++ List.replicate (j + 1) 0)) := Lib.hid (by rw [← HZA.out j]; exact E5)
      have hm2 := Lib.hid (miss_of (HEF.out w3 (j + 1) E6.out))
      clear E5
      go_wp2_with fail
      go_roundw
      case rel => exact ⟨j + 1, hlt, E6.out⟩
      case measure => rw [hm.out, hm2.out]; have := hf.out; omega
    · obtain rfl : j = zeros m.length := by omega
      have h56 : (f : Int) = 56 := by have := zeros_fill m.length; omega
      have E4 := Lib.hid hE
      replace hf := Lib.hid hf
      clear hE
      go_wp2_with fail
      obtain ⟨M1, hM1⟩ : ∃ M1, M1 = m ++ [0x80#8] ++ List.replicate (zeros m.length) 0 := ⟨_, rfl⟩
      rw [← hM1] at E4
      have HTT := Lib.hid (fun j h => tail_take N j h)
      have HT8 : Hid (M1 ++ (tail8 N).take 8 = pad m) := Lib.hid (by
        rw [hM1, hN.out]
        unfold pad
        rw [show (tail8 (m.length * 8 % 2 ^ 64)).take 8 = tail8 (m.length * 8 % 2 ^ 64) from rfl]
        simp only [List.append_assoc]
        rfl)
      replace hM1 := Lib.hid hM1
      have E5 : Hid (Ed w wr ZV (M1 ++ (tail8 N).take 0)) := Lib.hid (by rw [List.take_zero, List.append_nil]; exact E4.out)
      clear E4 hj c72 hm h56 HEF HZA
      go_loopw [4] (fun v wr => ∃ j : Nat, j ≤ 8 ∧ v = .int .i64 (7 - (j : Int)) ∧ Ed w wr ZV (M1 ++ (tail8 N).take j)) (fun v _ => ((intOf v) + 1).toNat)
      case atStart => exact ⟨0, by omega, rfl, E5.out⟩
      case round =>
        clear E5
        obtain ⟨j, hj, rfl, hE⟩ := hrel
        by_cases hlt : j < 8
        · obtain ⟨q, hq⟩ : ∃ q, q = 7 - j := ⟨_, rfl⟩
          have hqi : 7 - (j : Int) = (q : Int) := by omega
          have hq7 : q ≤ 7 := by omega
          rw [hqi]
          have hb := HTT.out j hlt
          rw [← hq] at hb
          have E6 := Lib.hid hE
          have hqj := Lib.hid hqi
          replace hq := Lib.hid hq
          clear hE hqi
          have hbv : (N : Int) / 2 ^ (8 * q) % 256 = (((BitVec.ofNat 8 (N / 2 ^ (8 * q)) : ShM.B8).toNat : Nat) : Int) := by
            rw [BitVec.toNat_ofNat]
            push_cast
            rfl
          replace hbv := Lib.hid hbv
          replace hb := Lib.hid hb
          go_wp2_with fail
          refine (HADD.out _ _ _ wr hbv.out E6.out).mono ?_
          rintro e w3 ⟨rfl, E7⟩
          have E8 : Hid (Ed w w3 ZV (M1 ++ (tail8 N).take (j + 1))) := Lib.hid (by
            rw [List.append_assoc, hb.out] at E7
            exact E7)
          clear E7
          go_wp2_with fail
          go_roundw
          case rel => exact ⟨j + 1, by omega, by have := hqj.out; go_num, E8.out⟩
          case measure => simp [intOf]
        · obtain rfl : j = 8 := by omega
          have E6 : Hid (Ed w wr ZV (pad m)) := Lib.hid (by rw [HT8.out] at hE; exact hE)
          clear hE
          go_upto_region 10 with fail
          rw [← hZV.out, hZ0.out]
          obtain ⟨⟨t', hi', hk'⟩, hr', hD'⟩ := E6.out
          rw [hZ0.out] at hr'
          obtain ⟨S, hS⟩ : ∃ S, S = t'.s := ⟨_, rfl⟩
          have hbyt : Hid (ShM.bytes S = ShM.sum m) := Lib.hid (by rw [hS]; exact sum_bytes m t' hi')
          obtain ⟨SC, hSC⟩ : ∃ SC, SC = s8c S := ⟨_, rfl⟩
          have rS : Hid ((wr.alloc (.cells (b32 []) 28)).rangeAt w.heap.size 0 SC.toList) := Lib.hid (by
            rw [hSC, hS]
            exact range_below hk'.s ((Below.refl wr.heap.size wr).alloc (Nat.le_refl _) _) hk'.lt)
          have iS : Hid ((Tryd.prog.info? 52).map (·.size) = some SC.size) := Lib.hid (by rw [hSC]; exact i52)
          have HSC : Hid (∀ (i : Nat) (w : World), i < 8 → (Instr.index 52 (.agg SC) (.int .i64 (i : Int))).run Tryd.prog w = .ok (.int .u32 (((sl S).getD i 0).toNat : Int)) w) := Lib.hid fun i w h => by
            rw [hSC]
            exact index52 S i h w
          have F0 : Hid (Mem.Blk (wr.alloc (.cells (b32 []) 28)) wr.heap.size 28 (b32 ((ShM.bytes S).take 0))) := Lib.hid (Mem.Blk.new wr 28 (b32 []))
          have R0 : Hid (Mem.Blk (wr.alloc (.cells (b32 []) 28)) (w.heap.size + 1) 28 (b32 [])) := Lib.hid (hr'.alloc _)
          have hne : Hid (w.heap.size + 1 < wr.heap.size) := Lib.hid hr'.lt
          have D0 : Hid (Below w.heap.size w (wr.alloc (.cells (b32 []) 28))) := Lib.hid (hD'.alloc hD'.size _)
          clear hr' hD' hk' hi' E6
          generalize wr.alloc (.cells (b32 []) 28) = w4 at rS F0 R0 D0 ⊢
          generalize wr.heap.size = G at F0 hne ⊢
          replace hSC := Lib.hid hSC
          replace hS := Lib.hid hS
          have HBY : Hid (∀ i k, i < 8 → k < 4 → (b32 ((ShM.bytes S).take (4 * i + k))).setIfInBounds (4 * i + k) (.int .u8 (((((sl S).getD i 0) >>> (24 - 8 * k)).setWidth 8).toNat : Int)) = b32 ((ShM.bytes S).take (4 * i + k + 1))) := Lib.hid fun i k hi hk => by
            have hl : ((ShM.bytes S).take (4 * i + k)).length = 4 * i + k := by rw [List.length_take, bytes_len]; omega
            have := b32_snoc ((ShM.bytes S).take (4 * i + k)) ((((sl S).getD i 0) >>> (24 - 8 * k)).setWidth 8) (by omega)
            rw [hl] at this
            rw [this, ← bytes_at S i k hi hk, take_snoc _ _ (by rw [bytes_len]; omega)]
          go_wp2_with ((with_reducible show wpList _ _ _ (Oper.mk _ (Op.load 52 (.tmp 30)) _ _ _ _ :: _) _ _); refine Mem.loadMid 52 (.tmp 30) rfl w.heap.size 0 rfl SC rS.out _ Tryd.underlying52 rfl iS.out rfl ?_)
          clear rS
          go_loopw [6, 7, 8, 32, 36] (fun _ _ _ v _ wr => ∃ i : Nat, i ≤ 8 ∧ v = .int .i64 (i : Int) ∧ Mem.Blk wr G 28 (b32 ((ShM.bytes S).take (4 * i))) ∧ Mem.Blk wr (w.heap.size + 1) 28 (b32 []) ∧ Below w.heap.size w wr) (fun _ _ _ v _ _ => 8 - (intOf v).toNat)
          case atStart => exact ⟨0, by omega, rfl, F0.out, R0.out, D0.out⟩
          case round =>
            clear F0 R0 D0
            obtain ⟨i, hi8, rfl, hF, hR, hD⟩ := hrel
            by_cases hlt : i < 8
            · have hlt' : (i : Int) < 8 := by omega
              have hix := fun w => HSC.out i w hlt
              obtain ⟨X, hX⟩ : ∃ X, X = (sl S).getD i 0 := ⟨_, rfl⟩
              rw [← hX] at hix
              have HBI := Lib.hid (fun k hk => HBY.out i k hlt hk)
              rw [← hX] at HBI
              replace hX := Lib.hid hX
              have F1 : Hid (Mem.Blk wr G 28 (b32 ((ShM.bytes S).take (4 * i + 0)))) := Lib.hid hF
              have R1 := Lib.hid hR
              have DD1 := Lib.hid hD
              clear hF hR hD
              go_wp2_with fail
              go_loopw [8, 36] (fun _ v wr => ∃ k : Nat, k ≤ 4 ∧ v = .int .i64 (k : Int) ∧ Mem.Blk wr G 28 (b32 ((ShM.bytes S).take (4 * i + k))) ∧ Mem.Blk wr (w.heap.size + 1) 28 (b32 []) ∧ Below w.heap.size w wr) (fun _ v _ => 4 - (intOf v).toNat)
              case atStart => exact ⟨0, by omega, rfl, F1.out, R1.out, DD1.out⟩
              case round =>
                clear F1 R1 DD1
                obtain ⟨k, hk4, rfl, hF, hR, hD⟩ := hrel
                by_cases hlk : k < 4
                · have hlk' : (k : Int) < 4 := by omega
                  have hby := Lib.hid (HBI.out k hlk)
                  have hq32 : 4 * i + k < 32 := by omega
                  have hc : wr.cell? ⟨G, 4 * i + k, none⟩ = some (.int .u8 ((((ShM.bytes S).take (4 * i + k)).getD (4 * i + k) 0).toNat : Int)) := (hF.cell (4 * i + k)).trans (b32_at _ _ hq32)
                  have hz := hF.frozen (4 * i + k)
                  have hsv := sv X k
                  have hF2 : Hid (Mem.Blk (wr.setCell ⟨G, 4 * i + k, none⟩ (.int .u8 ((((X >>> (24 - 8 * k)).setWidth 8 : ShM.B8)).toNat : Int))) G 28 (b32 ((ShM.bytes S).take (4 * i + (k + 1))))) := Lib.hid (by
                    rw [show 4 * i + (k + 1) = 4 * i + k + 1 by omega, ← hby.out]
                    exact hF.put _ _)
                  have hR2 : Hid (Mem.Blk (wr.setCell ⟨G, 4 * i + k, none⟩ (.int .u8 ((((X >>> (24 - 8 * k)).setWidth 8 : ShM.B8)).toNat : Int))) (w.heap.size + 1) 28 (b32 [])) := Lib.hid (hR.far (by have := hne.out; show w.heap.size + 1 ≠ G; omega) _)
                  have hD2 := Lib.hid (hD.setCell (p := ⟨G, 4 * i + k, none⟩) (by have := hne.out; show w.heap.size ≤ G; omega) (.int .u8 ((((X >>> (24 - 8 * k)).setWidth 8 : ShM.B8)).toNat : Int)))
                  generalize ((((X >>> (24 - 8 * k)).setWidth 8 : ShM.B8)).toNat : Int) = Y at hsv hF2 hR2 hD2
                  clear hF hR hD
                  go_wp2_with fail
                  go_roundw
                  case rel => exact ⟨k + 1, by omega, by go_num, hF2.out, hR2.out, hD2.out⟩
                  case measure => simp [intOf]; omega
                · obtain rfl : k = 4 := by omega
                  have F2 : Hid (Mem.Blk wr G 28 (b32 ((ShM.bytes S).take (4 * (i + 1))))) := Lib.hid hF
                  have R2 := Lib.hid hR
                  have DD2 := Lib.hid hD
                  clear hF hR hD
                  go_wp2_with fail
                  go_roundw
                  case rel => exact ⟨i + 1, by omega, by go_num, F2.out, R2.out, DD2.out⟩
                  case measure => simp [intOf]; omega
            · obtain rfl : i = 8 := by omega
              have F2 : Hid (Mem.Blk wr G 28 (b32 (ShM.sum m))) := Lib.hid (by
                rw [← hbyt.out]
                exact hF)
              have R2 := Lib.hid hR
              have DD2 := Lib.hid hD
              clear hF hR hD
              obtain ⟨OV, hOV⟩ : ∃ OV, OV = b32 (ShM.sum m) := ⟨_, rfl⟩
              rw [← hOV] at F2
              obtain ⟨ZW, hZW⟩ : ∃ ZW, ZW = b32 [] := ⟨_, rfl⟩
              rw [← hZW] at R2
              have iO : Hid ((Tryd.prog.info? 28).map (·.size) = some OV.size) := Lib.hid (by rw [hOV, b32_size]; exact i28')
              have sO : Hid (ZW.size = OV.size) := Lib.hid (by rw [hOV, hZW, b32_size, b32_size])
              have oO : Hid (OV.all (·.oneCell') = true) := Lib.hid (by rw [hOV]; exact b32_one _)
              replace hOV := Lib.hid hOV
              replace hZW := Lib.hid hZW
              go_wp2_with (first
                | ((with_reducible show wpList _ _ _ (Oper.mk _ (Op.load 28 (.tmp 5)) _ _ _ _ :: _) _ _); refine Mem.loadBlk 28 (.tmp 5) rfl G rfl OV 28 F2.out _ Tryd.underlying28 rfl iO.out rfl ?_)
                | ((with_reducible show wpList _ _ _ (Oper.mk _ (Op.store 28 (.tmp 2) (.tmp 52)) _ _ _ _ :: _) _ _); refine Mem.storeBlk 28 (.tmp 2) (.tmp 52) rfl (w.heap.size + 1) rfl ZW OV rfl 28 R2.out iO.out sO.out oO.out w.heap.size w DD2.out (by omega) rfl ?_; intro w9 hB9 hb9))
              exact bodyPost_ret (results_cell_row Tryd.results27 _ _ (w.heap.size + 1) 28 _ (0, 0) _ rfl hB9 Tryd.underlying28 rfl iO.out) rfl ⟨by rw [hOV.out], hb9⟩
end Go.Proofs.YtlfohiejlajmaaaDoor.ShK
