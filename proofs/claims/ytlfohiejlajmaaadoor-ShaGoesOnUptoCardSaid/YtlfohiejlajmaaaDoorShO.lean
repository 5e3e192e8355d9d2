/- Digests: keys, mixed. -/
import Derived.Test.YtlfohiejlajmaaaDoorShN
namespace Go.Proofs.YtlfohiejlajmaaaDoor.ShO
open Go.ChangeShapes Go.WideShapes Go.ChangeAt Go.RowKit
open ShM ShA ShB ShC ShD ShE ShF ShG ShH ShI ShJ ShK ShL ShN Mem
open ShT (Rd vals vals_length vals_one)
set_option linter.unusedVariables false
set_option maxHeartbeats 2000000

theorem bc_snoc (l : List ShM.B8) (v : ShM.B8) (h : l.length < 64) : (bc l).setIfInBounds l.length (.int .u8 (v.toNat : Int)) = bc (l ++ [v]) := by
  apply Array.ext_getElem?
  intro i
  rw [Array.getElem?_setIfInBounds]
  by_cases hi : i < 64
  · by_cases e : l.length = i
    · subst e
      rw [if_pos rfl, if_pos (by rw [bc_size]; exact h), bc_at _ _ hi]
      simp [List.getD]
    · rw [if_neg e, bc_at _ _ hi, bc_at _ _ hi]
      congr 3
      by_cases h1 : i < l.length
      · simp [List.getD, List.getElem?_append_left h1]
      · simp [List.getD, List.getElem?_append_right (show l.length ≤ i by omega), show l[i]? = none by simp; omega, show i - l.length ≠ 0 by omega]
  · rw [if_neg (by omega), Array.getElem?_eq_none (by rw [bc_size]; omega), Array.getElem?_eq_none (by rw [bc_size]; omega)]
theorem made64 : madeCells #[.int .u8 0] 64 = bc [] := by kernel_rfl
theorem i58' : (Tryd.prog.info? 58).map (·.size) = some 64 := i58
theorem xr (a b : ShM.B8) : bits .xor .u8 (a.toNat : Int) (b.toNat : Int) = ((a ^^^ b).toNat : Int) := ShT.x8 a b

set_option maxRecDepth 100000 in
theorem mixedW (k : List ShM.B8) (x : ShM.B8) (w : World) (hk : k.length = 64) : Calls Tryd.prog 26 #[.agg (bc k), .int .u8 (x.toNat : Int)] w fun e w' => ∃ q, e = .returned (.slice (some ⟨q, 0, none⟩) 64 64) ∧ w.heap.size ≤ q ∧ Mem.Blk w' q 5 (bc (k.map (· ^^^ x))) ∧ Below w.heap.size w w' := by
  obtain ⟨KV, hKV⟩ : ∃ KV, KV = bc k := ⟨_, rfl⟩
  rw [← hKV]
  have hmk : ∀ w : World, (Instr.makeSlice 22 (.int .i64 64) (.int .i64 64)).run Tryd.prog w = .ok (.slice (some ⟨w.heap.size, 0, none⟩) 64 64) (w.alloc (.cells (bc []) 5)) := fun w => by
    rw [← made64]
    kernel_rfl
  have B1 : Hid (Mem.Blk ((w.alloc (.cells KV 58)).alloc (.cells (bc []) 5)) w.heap.size 58 KV) := Lib.hid ((Mem.Blk.new w 58 KV).alloc _)
  have B2 : Hid (Mem.Blk ((w.alloc (.cells KV 58)).alloc (.cells (bc []) 5)) (w.heap.size + 1) 5 (bc ((k.map (· ^^^ x)).take 0))) := Lib.hid (by
    have := Mem.Blk.new (w.alloc (.cells KV 58)) 5 (bc [])
    rwa [show (w.alloc (.cells KV 58)).heap.size = w.heap.size + 1 by simp] at this)
  have D2 : Hid (Below w.heap.size w ((w.alloc (.cells KV 58)).alloc (.cells (bc []) 5))) := Lib.hid (((Below.refl _ _).alloc (Nat.le_refl _) _).alloc (by simp) _)
  have HK : Hid (∀ i, i < 64 → KV[i]? = some (.int .u8 ((k.getD i 0).toNat : Int))) := Lib.hid fun i h => by rw [hKV]; exact bc_at k i h
  have HS : Hid (∀ i, i < 64 → (bc ((k.map (· ^^^ x)).take i)).setIfInBounds i (.int .u8 ((k.getD i 0 ^^^ x).toNat : Int)) = bc ((k.map (· ^^^ x)).take (i + 1))) := Lib.hid fun i h => by
    have hl : ((k.map (· ^^^ x)).take i).length = i := by rw [List.length_take, List.length_map]; omega
    have := bc_snoc ((k.map (· ^^^ x)).take i) (k.getD i 0 ^^^ x) (by omega)
    rw [hl] at this
    rw [this]
    congr 1
    rw [List.take_add_one]
    congr 1
    simp [List.getD, show i < k.length by omega]
  have HE : Hid (bc ((k.map (· ^^^ x)).take 64) = bc (k.map (· ^^^ x))) := Lib.hid (by rw [List.take_of_length_le (by rw [List.length_map]; omega)])
  replace hKV := Lib.hid hKV
  generalize k.map (· ^^^ x) = M at *
  generalize hZ : bc [] = Z at hmk B1 B2 D2
  clear hZ
  go_enter Tryd.func26, Tryd.ntmps26
  go_upto_region 2 with fail
  generalize (w.alloc (.cells KV 58)).alloc (.cells Z 5) = w2 at B1 B2 D2 ⊢
  clear hmk
  go_wp2_with fail
  go_loopw [6, 8] (fun _ v wr => ∃ i : Nat, i ≤ 64 ∧ v = .int .i64 (i : Int) ∧ Mem.Blk wr w.heap.size 58 KV ∧ Mem.Blk wr (w.heap.size + 1) 5 (bc (M.take i)) ∧ Below w.heap.size w wr) (fun _ v _ => 64 - (intOf v).toNat)
  case atStart => exact ⟨0, by omega, rfl, B1.out, B2.out, D2.out⟩
  case round =>
    clear B1 B2 D2
    obtain ⟨i, hi, rfl, h1, h2, hD⟩ := hrel
    by_cases hlt : i < 64
    · have hlt' : (i : Int) < 64 := by omega
      have c1 := (h1.cell i).trans (HK.out i hlt)
      have c2 := (h2.cell i).trans (bc_at _ i hlt)
      have z2 := h2.frozen i
      obtain ⟨y, hy⟩ : ∃ y, y = k.getD i 0 := ⟨_, rfl⟩
      rw [← hy] at c1
      have hxr := xr y x
      have hs := HS.out i hlt
      rw [← hy] at hs
      have N1 : Hid (Mem.Blk (wr.setCell ⟨w.heap.size + 1, i, none⟩ (.int .u8 ((y ^^^ x).toNat : Int))) w.heap.size 58 KV) := Lib.hid (h1.far (by show w.heap.size ≠ w.heap.size + 1; omega) _)
      have N2 : Hid (Mem.Blk (wr.setCell ⟨w.heap.size + 1, i, none⟩ (.int .u8 ((y ^^^ x).toNat : Int))) (w.heap.size + 1) 5 (bc (M.take (i + 1)))) := Lib.hid (by rw [← hs]; exact h2.put i _)
      have ND := Lib.hid (hD.setCell (p := ⟨w.heap.size + 1, i, none⟩) (by show w.heap.size ≤ w.heap.size + 1; omega) (.int .u8 ((y ^^^ x).toNat : Int)))
      generalize ((y ^^^ x).toNat : Int) = V at hxr N1 N2 ND
      generalize (((M.take i).getD i 0).toNat : Int) = V2 at c2
      clear h1 h2 hD hs
      replace hy := Lib.hid hy
      go_wp2_with fail
      go_roundw
      case rel => exact ⟨i + 1, by omega, by go_num, N1.out, N2.out, ND.out⟩
      case measure => simp [intOf]; omega
    · obtain rfl : i = 64 := by omega
      have hlt' : ¬ ((64 : Nat) : Int) < 64 := by omega
      have N2 : Hid (Mem.Blk wr (w.heap.size + 1) 5 (bc M)) := Lib.hid (by rw [← HE.out]; exact h2)
      have ND := Lib.hid hD
      clear h1 h2 hD
      go_wp2_with fail
      go_ret
      exact ⟨_, rfl, by omega, N2.out, ND.out⟩
end Go.Proofs.YtlfohiejlajmaaaDoor.ShO
