/- The document's digests: long numbers compared. -/
import Derived.Test.YtlfohiejlajmaaaDoorRfC
namespace Go.Proofs.YtlfohiejlajmaaaDoor.RfD
open Go.ChangeShapes Go.WideShapes Go.ChangeAt Go.RowKit
open ShM RfM RfC Mem
set_option linter.unusedVariables false
set_option maxHeartbeats 2000000

/-- A row of numbers of the call's own. -/
def OwnU (w : World) (base : Nat) (v : Value) (xs : List Nat) : Prop := w.ownsRow base 55 1 v xs.length (vu xs)
theorem OwnU.alloc {w : World} {base : Nat} {v : Value} {xs : List Nat} (h : OwnU w base v xs) (o : Obj) : OwnU (w.alloc o) base v xs := World.ownsRow.alloc h o
theorem OwnU.nil (w : World) (base : Nat) : OwnU w base (.slice none 0 0) [] := by unfold OwnU; exact World.ownsRow_nil w base 55 1
theorem OwnU.blocks {w : World} {base : Nat} {v : Value} {xs : List Nat} (h : OwnU w base v xs) : ∀ k, v.ownBlock = some k → base ≤ k ∧ k < w.heap.size := World.ownsRow.lt h
theorem OwnU.made {w : World} {base g n : Nat} {xs : List Nat} (hb : Bu w g xs) (hg : base ≤ g) (hl : xs.length = n) (hn : n ≤ maxLen) : OwnU w base (.slice (some ⟨g, 0, none⟩) n n) xs := by
  subst hl
  refine ⟨by rw [vu_len]; omega, .inr ⟨g, xs.length, _, rfl, hg, hb, Nat.le_refl _, hn, by rw [List.size_toArray, vu_len]; omega, ?_⟩⟩
  rw [Nat.mul_one]
  show List.take _ (vu xs) = _
  rw [List.take_of_length_le (by rw [vu_len]; omega)]
theorem OwnU.shape {w : World} {base : Nat} {v : Value} {xs : List Nat} (h : OwnU w base v xs) :
    ∃ a c, v = .slice a xs.length c ∧ (0 < xs.length → ∃ g, a = some ⟨g, 0, none⟩ ∧ ∀ i, i < xs.length → w.cell? ⟨g, i, none⟩ = some (.int .u64 ((xs.getD i 0 : Nat) : Int))) := by
  have h' := h
  rcases h.2 with ⟨rfl, hn⟩ | ⟨g, cap, cur, rfl, hg, hh, _⟩
  · exact ⟨none, 0, by rw [hn], fun h => by omega⟩
  · refine ⟨some ⟨g, 0, none⟩, cap, rfl, fun _ => ⟨g, rfl, fun i hi => ?_⟩⟩
    have := World.ownsRow.cells h' (g := g) rfl i _ (vu_at xs i hi)
    rw [Addr.add_lit, Nat.zero_add] at this
    exact this
/-- One number more. -/
theorem run_moreU (w : World) (ty : TypeId) (base : Nat) (v : Value) (xs : List Nat) (h : OwnU w base v xs) (x : Nat) (g : Nat) (hg : w.cell? ⟨g, 0, none⟩ = some (.int .u64 (x : Int))) (hn : xs.length ≤ 100000) (hbase : base ≤ w.heap.size) :
    ∃ a' c' w', (Builtin.append_ #[49, 49] ty #[v, .slice (some ⟨g, 0, none⟩) 1 1]).run Tryd.prog w = .ok (.slice a' (xs.length + 1) c') w' ∧ OwnU w' base (.slice a' (xs.length + 1) c') (xs ++ [x]) ∧ w.grownBy w' v.ownBlock := by
  obtain ⟨i, hi1, hz, hs, hb⟩ := i49
  obtain ⟨v', w', h1, h2, h3, _, h5⟩ := run_append_own_at (P := Tryd.prog) w base 49 ty 55 i (.int .u64 0) 1 8 Tryd.underlying49 hi1 hz hs hb rfl (by omega) v xs.length (vu xs) h ⟨g, 0, none⟩ 1 1 [.int .u64 (x : Int)] rfl
    (fun j y hy => by
      have hj : j = 0 := by
        have := (List.getElem?_eq_some_iff.1 hy).1
        simpa using this
      subst hj
      have e : Value.int .u64 (x : Int) = y := by simpa using hy
      rw [Addr.add_lit, ← e]; exact hg)
    (fun y hy => by have e : y = Value.int .u64 (x : Int) := by simpa using hy
                    rw [e]; rfl) (by simp only [maxLen]; omega) (by omega) hbase
  have e : vu xs ++ [Value.int .u64 (x : Int)] = vu (xs ++ [x]) := by simp [vu]
  rw [e] at h2
  have h2' : OwnU w' base v' (xs ++ [x]) := by
    unfold OwnU
    rw [List.length_append]
    exact h2
  obtain ⟨a', c', e2, _⟩ := h2'.shape
  rw [List.length_append] at e2
  subst e2
  exact ⟨a', c', w', h1, h2', h3⟩
theorem wpList_moreU {ops : Array Oper} {rest : List Oper} {o : Oper} {a : Act} {w : World} {Q : Exit → Act → World → Prop} (hgd : Region.wanted o (yielded ops a.tmps) = true) (s x : Operand)
    (ho : o.op = .call { callee := .builtin .append, args := #[s, x], argTypes := #[49, 49] })
    (base : Nat) (v : Value) (xs : List Nat) (hs : a.eval s = v) (h : OwnU w base v xs) (y : Nat) (g : Nat) (hx : a.eval x = .slice (some ⟨g, 0, none⟩) 1 1) (hg : w.cell? ⟨g, 0, none⟩ = some (.int .u64 (y : Int))) (hn : xs.length ≤ 100000) (hbase : base ≤ w.heap.size) (m : Nat) (hm : xs.length + 1 = m)
    (hK : ∀ a' c' w', OwnU w' base (.slice a' m c') (xs ++ [y]) → w.grownBy w' v.ownBlock → wpList Tryd.prog ops Q rest (a.put o.dst (.slice a' m c')) w') : wpList Tryd.prog ops Q (o :: rest) a w :=
  BigFrame.wpList_want hgd fun _ hK' => by
    subst hm
    obtain ⟨a', c', w', hrun, h2, h3⟩ := run_moreU w o.type base v xs h y g hg hn hbase
    unfold Oper.wp execOp
    simp only [ho, resolve, invoke, builtin, Sem.run_bind, Sem.run_pure, Result.andThen_ok, List.map_toArray, List.map_cons, List.map_nil, hs, hx, hrun]
    exact hK' _ _ (hK a' c' w' h2 h3)
theorem drop_more (A B : List Nat) (t : Nat) (h : A.drop (t + 1) = B.drop (t + 1)) (hA : t < A.length) (hB : t < B.length) (e : A.getD t 0 = B.getD t 0) : A.drop t = B.drop t := by
  rw [List.drop_eq_getElem_cons hA, List.drop_eq_getElem_cons hB, h]
  congr 1
  simpa [List.getD, hA, hB] using e
theorem getD_u (l : List Nat) (n : Nat) (h : n = l.length) (x : Nat) : (l ++ [x]).length = n + 1 := by simp [h]

set_option maxRecDepth 100000 in
theorem belowW (x k v : Nat) (w : World) (hx : x < 1099511627776) (hk : k ≤ 3) (hv : v < 4294967296) :
    Calls Tryd.prog 28 #[.int .u64 (x : Int), .int .i64 (k : Int), .int .u64 (v : Int)] w fun e w' => e = .returned (.bool (decide (x ^ k ≤ v * pw k))) ∧ Below w.heap.size w w' := by
  obtain ⟨RR, hRR⟩ : ∃ RR, RR = decide (x ^ k ≤ v * pw k) := ⟨_, rfl⟩
  rw [← hRR]
  replace hRR := Lib.hid hRR
  have HTI : Hid (∀ ga xs i w', xs.length = 1 + 2 * i → i < k → Ok xs → Bu w' ga xs → Calls Tryd.prog 31 #[.slice (some ⟨ga, 0, none⟩) (1 + 2 * i) (1 + 2 * i), .int .u64 (x : Int)] w' fun e w'' => ∃ g, e = .returned (.slice (some ⟨g, 0, none⟩) (1 + 2 * (i + 1)) (1 + 2 * (i + 1))) ∧ w'.heap.size ≤ g ∧ (∃ ys, ys.length = 1 + 2 * (i + 1) ∧ Ok ys ∧ val ys = val xs * x ∧ Bu w'' g ys) ∧ Below w'.heap.size w' w'') := Lib.hid fun ga xs i w' hl hi ok hb => by
    have := timesW ga xs (1 + 2 * i) (1 + 2 * i) x w' hl (by omega) ok hx hb
    rwa [show 1 + 2 * i + 2 = 1 + 2 * (i + 1) by omega] at this
  have hmk : ∀ w : World, (Instr.makeSlice 49 (.int .i64 (k : Int)) (.int .i64 (k : Int))).run Tryd.prog w = .ok (.slice (some ⟨w.heap.size, 0, none⟩) k k) (w.alloc (.cells (vu (List.replicate k 0)).toArray 55)) := fun w => by
    have := run_full k (by omega) w
    rwa [made_vu] at this
  have I0 : Hid (∃ ga ys, (w.heap.size = ga) ∧ ys.length = 1 + 2 * 0 ∧ Ok ys ∧ val ys = x ^ 0 ∧ Bu (w.alloc (.cells #[.int .u64 1] 55)) ga ys ∧ Below w.heap.size w (w.alloc (.cells #[.int .u64 1] 55))) := Lib.hid ⟨_, [1], rfl, rfl, Ok.one (by omega), rfl, Mem.Blk.new w 55 _, (Below.refl _ _).alloc (Nat.le_refl _) _⟩
  have hk3 := Lib.hid hk
  have hv3 := Lib.hid hv
  go_enter Tryd.func28, Tryd.ntmps28
  go_upto_region 2 with fail
  generalize w.alloc (.cells #[.int .u64 1] 55) = w1 at I0 ⊢
  go_wp2_with fail
  go_loopw [7, 8] (fun v7 v8 wr => ∃ i : Nat, i ≤ k ∧ v8 = .int .i64 (i : Int) ∧ ∃ ga ys, v7 = .slice (some ⟨ga, 0, none⟩) (1 + 2 * i) (1 + 2 * i) ∧ w.heap.size ≤ ga ∧ ys.length = 1 + 2 * i ∧ Ok ys ∧ val ys = x ^ i ∧ Bu wr ga ys ∧ Below w.heap.size w wr) (fun _ v8 _ => 10 - (intOf v8).toNat)
  case atStart =>
    obtain ⟨ga, ys, rfl, h1, h2, h3, h4, h5⟩ := I0.out
    exact ⟨0, by omega, rfl, _, ys, rfl, Nat.le_refl _, h1, h2, h3, h4, h5⟩
  case round =>
    clear I0
    obtain ⟨i, hi, rfl, ga, ys, rfl, hga, hl, ok, hval, hb, hB⟩ := hrel
    by_cases hlt : i < k
    · have hlt' : (i : Int) < (k : Int) := by omega
      have HC := Lib.hid (HTI.out ga ys i wr hl hlt ok hb)
      have hBB := Lib.hid hB
      have hvv := Lib.hid hval
      clear hga hl ok hval hb hB
      go_wp2_with fail
      refine HC.out.mono ?_
      rintro e w2 ⟨g, rfl, hg, ⟨zs, z1, z2, z3, z4⟩, b2⟩
      have D2 := Lib.hid (hBB.out.trans (b2.mono hBB.out.size))
      have E2 : Hid (w.heap.size ≤ g ∧ zs.length = 1 + 2 * (i + 1) ∧ Ok zs ∧ val zs = x ^ (i + 1) ∧ Bu w2 g zs) := Lib.hid ⟨by have := hBB.out.size; omega, z1, z2, by rw [z3, hvv.out, Nat.pow_succ], z4⟩
      clear hg z1 z2 z3 z4 b2
      go_wp2_with fail
      go_roundw
      case rel => exact ⟨i + 1, by omega, by go_num, g, zs, rfl, E2.out.1, E2.out.2.1, E2.out.2.2.1, E2.out.2.2.2.1, E2.out.2.2.2.2, D2.out⟩
      case measure => have := hk3.out; simp [intOf]; omega
    · obtain rfl : k = i := by omega
      have hlt' : ¬ (k : Int) < (k : Int) := by omega
      have hE : Hid (w.heap.size ≤ ga ∧ ys.length = 1 + 2 * k ∧ Ok ys ∧ val ys = x ^ k) := Lib.hid ⟨hga, hl, ok, hval⟩
      have hb0 := Lib.hid hb
      have hB0 := Lib.hid hB
      have hgw : Hid (ga < wr.heap.size) := Lib.hid (Mem.Blk.lt hb)
      clear hga hl ok hval hb hB HTI hi
      go_upto_region 7 with fail
      have O1 : Hid (OwnU (wr.alloc (.cells (vu (List.replicate k 0)).toArray 55)) wr.heap.size (.slice (some ⟨wr.heap.size, 0, none⟩) k k) (List.replicate k 0)) := Lib.hid (OwnU.made (Mem.Blk.new wr 55 _) (Nat.le_refl _) (by rw [List.length_replicate]) (by simp only [maxLen]; omega))
      have b1 := Lib.hid (Mem.Blk.alloc hb0.out (.cells (vu (List.replicate k 0)).toArray 55))
      have B1 := Lib.hid (hB0.out.alloc hB0.out.size (.cells (vu (List.replicate k 0)).toArray 55))
      have s1 : Hid (wr.heap.size < (wr.alloc (.cells (vu (List.replicate k 0)).toArray 55)).heap.size) := Lib.hid (by simp)
      generalize wr.alloc (.cells (vu (List.replicate k 0)).toArray 55) = w2 at O1 b1 B1 s1 ⊢
      clear hmk
      have hgb : Hid (ga < wr.heap.size) := hgw
      have hwB : Hid (w.heap.size ≤ wr.heap.size) := Lib.hid hB0.out.size
      have O2 := Lib.hid (O1.out.alloc (.cells #[.int .u64 (v : Int)] 55))
      have b2 := Lib.hid (Mem.Blk.alloc b1.out (.cells #[.int .u64 (v : Int)] 55))
      have B2 := Lib.hid (B1.out.alloc B1.out.size (.cells #[.int .u64 (v : Int)] 55))
      have n2 := Lib.hid (Mem.Blk.new w2 55 #[.int .u64 (v : Int)])
      have s2 : Hid (wr.heap.size ≤ (w2.alloc (.cells #[.int .u64 (v : Int)] 55)).heap.size) := Lib.hid (by have := s1.out; simp; omega)
      generalize hBs : wr.heap.size = Bs at *
      have lk1 : Hid ((List.replicate k 0).length ≤ 100000) := Lib.hid (by rw [List.length_replicate]; omega)
      have lk2 : Hid ((List.replicate k 0).length + 1 = k + 1) := Lib.hid (by rw [List.length_replicate])
      go_wp2_with (at_builtin; refine RfD.wpList_moreU rfl (.tmp 22) (.tmp 24) rfl Bs (.slice (some ⟨Bs, 0, none⟩) k k) (List.replicate k 0) rfl O2.out v w2.heap.size rfl (n2.out.cell 0) lk1.out s2.out (k + 1) lk2.out ?_; intro a9 c9 w3 hO3 hg3)
      have hne3 : ∀ q, (Value.slice (some ⟨Bs, 0, none⟩) k k).ownBlock = some q → Bs ≤ q := fun q e => (O2.out.blocks q e).1
      have b3 : Hid (Bu w3 ga ys) := Lib.hid (ShU.blkOwn b2.out hg3 (fun e => by have := hne3 _ e; have := hgb.out; omega))
      have B3 := Lib.hid (B2.out.grown hg3 B2.out.size (fun q e => by have := hne3 q e; have := hwB.out; omega))
      have s3 := Lib.hid (Nat.le_trans s2.out hg3.size)
      have O3 : Hid (OwnU w3 Bs (.slice a9 (k + 1) c9) (List.replicate k 0 ++ [v] ++ List.replicate 0 0)) := Lib.hid (by rw [List.replicate_zero, List.append_nil]; exact hO3)
      clear hO3 hg3 hne3 O1 O2 b1 b2 B1 B2 n2 s1 s2
      have hle : ¬ ((1 : Int) + 2 * (k : Int) < (k : Int) + 1) := by omega
      go_wp2_with fail
      go_loopw [7] (fun v7 wr => v7 = .slice (some ⟨ga, 0, none⟩) (1 + 2 * k) (1 + 2 * k) ∧ wr = w3) (fun _ _ => 0)
      case atStart => exact ⟨rfl, rfl⟩
      case round =>
        obtain ⟨rfl, rfl⟩ := hrel
        go_wp2_with fail
        go_loopw [9] (fun v9 wr => ∃ (j : Nat) (a' : Option Addr) (c' : Nat), j ≤ k ∧ v9 = .slice a' (k + 1 + j) c' ∧ OwnU wr Bs (.slice a' (k + 1 + j) c') (List.replicate k 0 ++ [v] ++ List.replicate j 0) ∧ Bu wr ga ys ∧ Below w.heap.size w wr ∧ Bs ≤ wr.heap.size) (fun v9 _ => match v9 with | .slice _ x _ => 20 - x | _ => 0)
        case atStart => exact ⟨0, _, _, by omega, rfl, O3.out, b3.out, B3.out, s3.out⟩
        case round =>
          clear O3 b3 B3 s3
          obtain ⟨j, a', c', hj, rfl, hO, hb, hB, hs⟩ := hrel
          by_cases hlt : j < k
          · have hlt' : (k : Int) + 1 + (j : Int) < 1 + 2 * (k : Int) := by omega
            have O4 := Lib.hid (hO.alloc (.cells #[.int .u64 0] 55))
            have b4 := Lib.hid (Mem.Blk.alloc hb (.cells #[.int .u64 0] 55))
            have B4 := Lib.hid (hB.alloc hB.size (.cells #[.int .u64 0] 55))
            have n4 := Lib.hid (Mem.Blk.new wr 55 #[.int .u64 0])
            have s4 : Hid (Bs ≤ (wr.alloc (.cells #[.int .u64 0] 55)).heap.size) := Lib.hid (by simp; omega)
            have l4 : Hid ((List.replicate k 0 ++ [v] ++ List.replicate j 0).length = k + 1 + j) := Lib.hid (by simp; omega)
            have e4 : Hid (List.replicate k 0 ++ [v] ++ List.replicate j 0 ++ [0] = List.replicate k 0 ++ [v] ++ List.replicate (j + 1) 0) := Lib.hid (by rw [List.append_assoc _ _ [0], ← List.replicate_succ'])
            clear hO hb hB hs
            go_wp2_with (at_builtin; refine RfD.wpList_moreU rfl (.tmp 39) (.tmp 40) rfl Bs (.slice a' (k + 1 + j) c') _ rfl O4.out 0 wr.heap.size rfl (n4.out.cell 0) (by rw [l4.out]; have := hk3.out; omega) s4.out (k + 1 + (j + 1)) (by rw [l4.out]; omega) ?_; intro a5 c5 w5 hO5 hg5)
            have hne5 : ∀ q, (Value.slice a' (k + 1 + j) c').ownBlock = some q → Bs ≤ q := fun q e => (O4.out.blocks q e).1
            have b5 : Hid (Bu w5 ga ys) := Lib.hid (ShU.blkOwn b4.out hg5 (fun e => by have := hne5 _ e; have := hgb.out; omega))
            have B5 := Lib.hid (B4.out.grown hg5 B4.out.size (fun q e => by have := hne5 q e; have := hwB.out; omega))
            have s5 := Lib.hid (Nat.le_trans s4.out hg5.size)
            have O5 : Hid (OwnU w5 Bs (.slice a5 (k + 1 + (j + 1)) c5) (List.replicate k 0 ++ [v] ++ List.replicate (j + 1) 0)) := Lib.hid (by rw [← e4.out]; exact hO5)
            clear hO5 hg5 hne5 O4 b4 B4 s4 n4
            go_wp2_with fail
            go_roundw
            case rel => exact ⟨j + 1, _, _, by omega, rfl, O5.out, b5.out, B5.out, s5.out⟩
            case measure => have := hk3.out; simp; omega
          · obtain rfl : k = j := by omega
            have hlt' : ¬ ((k : Int) + 1 + (k : Int) < 1 + 2 * (k : Int)) := by omega
            obtain ⟨BL, hBL⟩ : ∃ BL, BL = List.replicate k 0 ++ [v] ++ List.replicate k 0 := ⟨_, rfl⟩
            rw [← hBL] at hO
            have hBLl : BL.length = 1 + 2 * k := by rw [hBL]; simp; omega
            have hBLo : Ok BL := by rw [hBL]; exact (Ok.append (Ok.append (Ok.zeros _) (Ok.one hv3.out)) (Ok.zeros _))
            have hBLv : val BL = v * pw k := by
              rw [hBL, val_append, val_append, val_zeros, List.length_replicate]
              show 0 + pw k * (v + 4294967296 * 0) + _ * 0 = _
              rw [Nat.mul_zero, Nat.mul_zero, Nat.add_zero, Nat.zero_add, Nat.add_zero, Nat.mul_comm]
            obtain ⟨a6, c6, e6, hcell⟩ := hO.shape
            injection e6 with e7 e8 e9
            subst e7 e9
            clear e8
            obtain ⟨gb, rfl, hcb⟩ := hcell (by omega)
            have hE1 := hE.out
            have H0 : Hid ((∀ q, q < 1 + 2 * k → wr.cell? ⟨ga, q, none⟩ = some (.int .u64 ((ys.getD q 0 : Nat) : Int))) ∧ (∀ q, q < 1 + 2 * k → wr.cell? ⟨gb, q, none⟩ = some (.int .u64 ((BL.getD q 0 : Nat) : Int))) ∧ Below w.heap.size w wr) := Lib.hid ⟨fun q hq => hb.cell q (by omega), fun q hq => hcb q (by omega), hB⟩
            have HLT : Hid (∀ t, t < 1 + 2 * k → ys.drop (t + 1) = BL.drop (t + 1) → ys.getD t 0 ≠ BL.getD t 0 → decide (x ^ k ≤ v * pw k) = decide (((ys.getD t 0 : Nat) : Int) < ((BL.getD t 0 : Nat) : Int))) := Lib.hid fun t ht hd hne => by
              rw [← hE1.2.2.2, ← hBLv]
              by_cases hl : ys.getD t 0 < BL.getD t 0
              · have := val_less ys BL t (by omega) hE1.2.2.1 hBLo hd hl
                rw [decide_eq_true (by omega), decide_eq_true (by omega)]
              · have := val_less BL ys t (by omega) hBLo hE1.2.2.1 hd.symm (by omega)
                rw [decide_eq_false (by omega), decide_eq_false (by omega)]
            have HEQ : Hid (ys.drop 0 = BL.drop 0 → decide (x ^ k ≤ v * pw k) = true) := Lib.hid fun hd => by
              have e : ys = BL := hd
              rw [← hE1.2.2.2, ← hBLv, e]
              exact decide_eq_true (Nat.le_refl _)
            have HDM : Hid (∀ t, t < 1 + 2 * k → ys.drop (t + 1) = BL.drop (t + 1) → ys.getD t 0 = BL.getD t 0 → ys.drop t = BL.drop t) := Lib.hid fun t ht hd he => drop_more ys BL t hd (by omega) (by omega) he
            have HD0 : Hid (ys.drop (1 + 2 * k) = BL.drop (1 + 2 * k)) := Lib.hid (by rw [List.drop_eq_nil_of_le (by omega), List.drop_eq_nil_of_le (by omega)])
            rw [← hRR.out] at HLT HEQ
            replace hBL := Lib.hid hBL
            clear hO hb hB hs hcell hcb hBLl hBLo hBLv hE1 hE
            have hk0 : (1 : Int) + 2 * (k : Int) - 1 = 2 * (k : Int) := by omega
            go_wp2_with fail
            go_loopw [10] (fun v10 wr => ∃ t : Nat, t ≤ 1 + 2 * k ∧ v10 = .int .i64 ((t : Int) - 1) ∧ ys.drop t = BL.drop t ∧ (∀ q, q < 1 + 2 * k → wr.cell? ⟨ga, q, none⟩ = some (.int .u64 ((ys.getD q 0 : Nat) : Int))) ∧ (∀ q, q < 1 + 2 * k → wr.cell? ⟨gb, q, none⟩ = some (.int .u64 ((BL.getD q 0 : Nat) : Int))) ∧ Below w.heap.size w wr) (fun v10 _ => (intOf v10 + 1).toNat)
            case atStart => exact ⟨1 + 2 * k, by omega, by go_num, HD0.out, H0.out⟩
            case round =>
              clear H0 HD0
              obtain ⟨t, ht, rfl, hd, h1, h2, hB⟩ := hrel
              by_cases hlt : 0 < t
              · obtain ⟨u, rfl⟩ : ∃ u, t = u + 1 := ⟨t - 1, by omega⟩
                have hu : (((u + 1 : Nat) : Int) - 1) = (u : Int) := by omega
                rw [hu]
                have hu2 : (u : Int) < 1 + 2 * (k : Int) := by omega
                have c1 := h1 u (by omega)
                have c2 := h2 u (by omega)
                have hlt2 := HLT.out u (by omega) hd
                have hdm := HDM.out u (by omega) hd
                generalize ys.getD u 0 = y1 at c1 hlt2 hdm
                generalize BL.getD u 0 = y2 at c2 hlt2 hdm
                have hh1 := Lib.hid h1
                have hh2 := Lib.hid h2
                have hBB := Lib.hid hB
                clear h1 h2 hB hd
                by_cases he : y1 = y2
                · subst he
                  replace hdm := Lib.hid (hdm rfl)
                  clear hlt2
                  go_wp2_with (go_quiet (fail))
                  go_roundw
                  case rel => exact ⟨u, by omega, by go_num, hdm.out, fun q hq => hh1.out q hq, fun q hq => hh2.out q hq, Mem.below_drewN hBB.out nq⟩
                  case measure => simp [intOf]
                · replace hlt2 := Lib.hid (hlt2 he)
                  clear hdm
                  have he' : ¬ ((y1 : Int) = (y2 : Int)) := by omega
                  go_upto_region 16 with (go_quiet (fail))
                  have c1' : (wr.drewN nq).cell? ⟨ga, u, none⟩ = some (.int .u64 (y1 : Int)) := c1
                  have c2' : (wr.drewN nq).cell? ⟨gb, u, none⟩ = some (.int .u64 (y2 : Int)) := c2
                  have D1 := Lib.hid (Mem.below_drewN hBB.out nq)
                  generalize wr.drewN nq = wp at c1' c2' D1 ⊢
                  clear c1 c2 hh1 hh2
                  go_wp2_with (go_quiet (fail))
                  go_ret
                  exact ⟨Mem.ret_bool (by rw [hlt2.out]; exact decide_eq_decide.2 (by omega)), Mem.below_drewN D1.out _⟩
              · obtain rfl : t = 0 := by omega
                have he := Lib.hid (HEQ.out hd)
                have hBB := Lib.hid hB
                clear h1 h2 hB hd
                go_wp2_with fail
                go_ret
                exact ⟨Mem.ret_bool he.out.symm, hBB.out⟩
end Go.Proofs.YtlfohiejlajmaaaDoor.RfD
