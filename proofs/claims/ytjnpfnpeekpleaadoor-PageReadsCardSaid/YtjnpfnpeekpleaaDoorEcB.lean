/- Contracts of the words' checks: Check. -/
import Derived.Test.YtjnpfnpeekpleaaDoorEcA
namespace Go.Proofs.YtjnpfnpeekpleaaDoor.EcB
open Go.ChangeShapes Go.WideShapes Go.ChangeAt Go.RowKit
open EcM EcA
set_option linter.unusedVariables false
set_option maxHeartbeats 1000000

def colV : Array Value := #[.int .u8 7, .int .u8 11, .int .u8 13, .int .u8 14, .int .u8 19, .int .u8 21, .int .u8 22, .int .u8 25, .int .u8 26, .int .u8 28, .int .u8 35, .int .u8 37, .int .u8 38, .int .u8 41, .int .u8 42, .int .u8 44, .int .u8 49, .int .u8 50, .int .u8 52, .int .u8 56, .int .u8 67, .int .u8 69, .int .u8 70, .int .u8 73, .int .u8 74, .int .u8 76, .int .u8 81, .int .u8 82, .int .u8 84, .int .u8 88, .int .u8 97, .int .u8 98, .int .u8 100, .int .u8 104, .int .u8 112, .int .u8 131, .int .u8 133, .int .u8 134, .int .u8 137, .int .u8 138, .int .u8 140, .int .u8 145, .int .u8 146, .int .u8 148, .int .u8 152, .int .u8 161, .int .u8 162, .int .u8 164, .int .u8 168, .int .u8 176, .int .u8 193, .int .u8 194, .int .u8 196, .int .u8 200, .int .u8 208, .int .u8 224, .int .u8 31, .int .u8 47, .int .u8 55, .int .u8 59, .int .u8 61, .int .u8 62, .int .u8 79, .int .u8 87]
def mskV : Array Value := #[.int .u64 16070007132869700791, .int .u64 17224092265527530843, .int .u64 17802880170850556525, .int .u64 8872392266414089102, .int .u64 13637495625167602672, .int .u64 4504690376192293888, .int .u64 13905989783771938816, .int .u64 72057559678189568]
def Laid (w : World) : Prop := (∃ t z, w.heap[1]? = some (.cells colV t z)) ∧ ∃ t z, w.heap[0]? = some (.cells mskV t z)
theorem Laid.below {w w' : World} (h : Laid w) (hb : Below w.heap.size w w') : Laid w' := by
  obtain ⟨⟨t, z, h1⟩, ⟨t', z', h0⟩⟩ := h
  have l1 : 1 < w.heap.size := by
    rcases Nat.lt_or_ge 1 w.heap.size with hlt | hge
    · exact hlt
    · rw [Array.getElem?_eq_none hge] at h1; cases h1
  have l0 : 0 < w.heap.size := by
    rcases Nat.lt_or_ge 0 w.heap.size with hlt | hge
    · exact hlt
    · rw [Array.getElem?_eq_none hge] at h0; cases h0
  exact ⟨⟨t, z, (hb.block 1 l1).trans h1⟩, ⟨t', z', (hb.block 0 l0).trans h0⟩⟩
theorem Laid.msk {w : World} (h : Laid w) (i : Nat) : w.cell? ⟨0, i, none⟩ = mskV[i]? := by
  obtain ⟨_, ⟨t', z', h0⟩⟩ := h
  exact cell_of_row w 0 i _ _ _ h0
theorem Laid.col {w : World} (h : Laid w) (i : Nat) : w.cell? ⟨1, i, none⟩ = colV[i]? := by
  obtain ⟨⟨t', z', h0⟩, _⟩ := h
  exact cell_of_row w 1 i _ _ _ h0

theorem x0 (w : World) : (Instr.index 58 (.agg #[.int .u64 16070007132869700791, .int .u64 17224092265527530843, .int .u64 17802880170850556525, .int .u64 8872392266414089102, .int .u64 13637495625167602672, .int .u64 4504690376192293888, .int .u64 13905989783771938816, .int .u64 72057559678189568]) (.int .i64 0)).run Tryd.prog w = .ok (.int .u64 16070007132869700791) w := by kernel_rfl
theorem x1 (w : World) : (Instr.index 58 (.agg #[.int .u64 16070007132869700791, .int .u64 17224092265527530843, .int .u64 17802880170850556525, .int .u64 8872392266414089102, .int .u64 13637495625167602672, .int .u64 4504690376192293888, .int .u64 13905989783771938816, .int .u64 72057559678189568]) (.int .i64 1)).run Tryd.prog w = .ok (.int .u64 17224092265527530843) w := by kernel_rfl
theorem x2 (w : World) : (Instr.index 58 (.agg #[.int .u64 16070007132869700791, .int .u64 17224092265527530843, .int .u64 17802880170850556525, .int .u64 8872392266414089102, .int .u64 13637495625167602672, .int .u64 4504690376192293888, .int .u64 13905989783771938816, .int .u64 72057559678189568]) (.int .i64 2)).run Tryd.prog w = .ok (.int .u64 17802880170850556525) w := by kernel_rfl
theorem x3 (w : World) : (Instr.index 58 (.agg #[.int .u64 16070007132869700791, .int .u64 17224092265527530843, .int .u64 17802880170850556525, .int .u64 8872392266414089102, .int .u64 13637495625167602672, .int .u64 4504690376192293888, .int .u64 13905989783771938816, .int .u64 72057559678189568]) (.int .i64 3)).run Tryd.prog w = .ok (.int .u64 8872392266414089102) w := by kernel_rfl
theorem x4 (w : World) : (Instr.index 58 (.agg #[.int .u64 16070007132869700791, .int .u64 17224092265527530843, .int .u64 17802880170850556525, .int .u64 8872392266414089102, .int .u64 13637495625167602672, .int .u64 4504690376192293888, .int .u64 13905989783771938816, .int .u64 72057559678189568]) (.int .i64 4)).run Tryd.prog w = .ok (.int .u64 13637495625167602672) w := by kernel_rfl
theorem x5 (w : World) : (Instr.index 58 (.agg #[.int .u64 16070007132869700791, .int .u64 17224092265527530843, .int .u64 17802880170850556525, .int .u64 8872392266414089102, .int .u64 13637495625167602672, .int .u64 4504690376192293888, .int .u64 13905989783771938816, .int .u64 72057559678189568]) (.int .i64 5)).run Tryd.prog w = .ok (.int .u64 4504690376192293888) w := by kernel_rfl
theorem x6 (w : World) : (Instr.index 58 (.agg #[.int .u64 16070007132869700791, .int .u64 17224092265527530843, .int .u64 17802880170850556525, .int .u64 8872392266414089102, .int .u64 13637495625167602672, .int .u64 4504690376192293888, .int .u64 13905989783771938816, .int .u64 72057559678189568]) (.int .i64 6)).run Tryd.prog w = .ok (.int .u64 13905989783771938816) w := by kernel_rfl
theorem x7 (w : World) : (Instr.index 58 (.agg #[.int .u64 16070007132869700791, .int .u64 17224092265527530843, .int .u64 17802880170850556525, .int .u64 8872392266414089102, .int .u64 13637495625167602672, .int .u64 4504690376192293888, .int .u64 13905989783771938816, .int .u64 72057559678189568]) (.int .i64 7)).run Tryd.prog w = .ok (.int .u64 72057559678189568) w := by kernel_rfl
theorem onesAnd (x m : Nat) (mi : Int) (hm : mi = (m : Int)) (hb : m < 18446744073709551616) (w : World) : Calls Tryd.prog 34 #[.int .u64 (bits .and .u64 (x : Int) mi)] w fun e w' => e = .returned (.int .i64 (pc (x &&& m) : Int)) ∧ w' = w := by
  rw [hm, andL x m hb]
  exact ones64 _ w
theorem i1 (x : Nat) (h : x < 9223372036854775808) : bits .and .i64 (x : Int) 1 = ((x % 2 : Nat) : Int) := by
  have := bits_mask .i64 63 (by decide) (fun n h0 h1 => by simp only [IntKind.wrap, IntKind.signed, IntKind.bits]; simp; omega) 1 (by decide) (x : Int) (by omega) (by omega)
  rw [show ((2 : Int) ^ 1 - 1) = 1 by rfl] at this
  rw [this]; omega
theorem pc_le (x : Nat) (h : x < 18446744073709551616) : pc x ≤ 64 := by
  rw [pc_lanes]
  have L : ∀ b, Lib.popAux 8 (b % 256) ≤ 8 := fun b => (g1 ⟨b % 256, by omega⟩).2.2.2.2.2
  have h0 := L x; have h1 := L (x / 256); have h2 := L (x / 256 / 256); have h3 := L (x / 256 / 256 / 256)
  have h4 := L (x / 256 / 256 / 256 / 256); have h5 := L (x / 256 / 256 / 256 / 256 / 256); have h6 := L (x / 256 / 256 / 256 / 256 / 256 / 256)
  have h7 := L (x / 256 / 256 / 256 / 256 / 256 / 256 / 256)
  omega

theorem parb (x m : Nat) (hx : x < 18446744073709551616) : pc (x &&& m) < 9223372036854775808 := by
  have h : x &&& m ≤ x := Nat.and_le_left
  have := pc_le (x &&& m) (by omega)
  omega
theorem fin8 : ∀ p0 p1 p2 p3 p4 p5 p6 p7 : Fin 2, bits BinOp.or IntKind.u8 (bits BinOp.or IntKind.u8 (bits BinOp.or IntKind.u8 (bits BinOp.or IntKind.u8 (bits BinOp.or IntKind.u8 (bits BinOp.or IntKind.u8 (bits BinOp.or IntKind.u8 (bits BinOp.or IntKind.u8 (0) (((p0.val : Nat) : Int) % 256)) (((p1.val : Nat) : Int) % 256 * 2 % 256)) (((p2.val : Nat) : Int) % 256 * 4 % 256)) (((p3.val : Nat) : Int) % 256 * 8 % 256)) (((p4.val : Nat) : Int) % 256 * 16 % 256)) (((p5.val : Nat) : Int) % 256 * 32 % 256)) (((p6.val : Nat) : Int) % 256 * 64 % 256)) (((p7.val : Nat) : Int) % 256 * 128 % 256) = ((p0.val + 2 * (p1.val + 2 * (p2.val + 2 * (p3.val + 2 * (p4.val + 2 * (p5.val + 2 * (p6.val + 2 * (p7.val + 2 * (0)))))))) : Nat) : Int) := by decide +kernel

set_option maxRecDepth 100000 in
theorem checkS (x : Nat) (hx : x < 18446744073709551616) (w : World) (hl : Laid w) : Calls Tryd.prog 25 #[.int .u64 (x : Int)] w fun e w' => e = .returned (.int .u8 (chk x : Int)) ∧ w' = w := by
  have c0 := hl.msk 0; have c1 := hl.msk 1; have c2 := hl.msk 2; have c3 := hl.msk 3
  have c4 := hl.msk 4; have c5 := hl.msk 5; have c6 := hl.msk 6; have c7 := hl.msk 7
  simp only [mskV, List.getElem?_toArray, List.getElem?_cons_zero, List.getElem?_cons_succ] at c0 c1 c2 c3 c4 c5 c6 c7
  have y0 := x0; have y1 := x1; have y2 := x2; have y3 := x3; have y4 := x4; have y5 := x5; have y6 := x6; have y7 := x7
  go_enter Tryd.func25, Tryd.ntmps25
  go_wp2
  refine wp_loop_rounds 9 ?_
  rw [rounds_succ]
  go_wp2_with fail
  refine (onesAnd x 16070007132869700791 _ rfl (by omega) _).mono ?_
  rintro e _ ⟨rfl, rfl⟩
  go_wp2_with fail
  rw [rounds_succ]
  go_wp2_with fail
  refine (onesAnd x 17224092265527530843 _ rfl (by omega) _).mono ?_
  rintro e _ ⟨rfl, rfl⟩
  go_wp2_with fail
  rw [rounds_succ]
  go_wp2_with fail
  refine (onesAnd x 17802880170850556525 _ rfl (by omega) _).mono ?_
  rintro e _ ⟨rfl, rfl⟩
  go_wp2_with fail
  rw [rounds_succ]
  go_wp2_with fail
  refine (onesAnd x 8872392266414089102 _ rfl (by omega) _).mono ?_
  rintro e _ ⟨rfl, rfl⟩
  go_wp2_with fail
  rw [rounds_succ]
  go_wp2_with fail
  refine (onesAnd x 13637495625167602672 _ rfl (by omega) _).mono ?_
  rintro e _ ⟨rfl, rfl⟩
  go_wp2_with fail
  rw [rounds_succ]
  go_wp2_with fail
  refine (onesAnd x 4504690376192293888 _ rfl (by omega) _).mono ?_
  rintro e _ ⟨rfl, rfl⟩
  go_wp2_with fail
  rw [rounds_succ]
  go_wp2_with fail
  refine (onesAnd x 13905989783771938816 _ rfl (by omega) _).mono ?_
  rintro e _ ⟨rfl, rfl⟩
  go_wp2_with fail
  rw [rounds_succ]
  go_wp2_with fail
  refine (onesAnd x 72057559678189568 _ rfl (by omega) _).mono ?_
  rintro e _ ⟨rfl, rfl⟩
  go_wp2_with fail
  rw [rounds_succ]
  go_wp2_with fail
  go_ret
  refine ⟨ret_int ?_, rfl⟩
  rw [show bits .and .i64 ((pc (x &&& 16070007132869700791) : Nat) : Int) 1 = ((par x 16070007132869700791 : Nat) : Int) from i1 _ (parb x 16070007132869700791 hx)]
  rw [show bits .and .i64 ((pc (x &&& 17224092265527530843) : Nat) : Int) 1 = ((par x 17224092265527530843 : Nat) : Int) from i1 _ (parb x 17224092265527530843 hx)]
  rw [show bits .and .i64 ((pc (x &&& 17802880170850556525) : Nat) : Int) 1 = ((par x 17802880170850556525 : Nat) : Int) from i1 _ (parb x 17802880170850556525 hx)]
  rw [show bits .and .i64 ((pc (x &&& 8872392266414089102) : Nat) : Int) 1 = ((par x 8872392266414089102 : Nat) : Int) from i1 _ (parb x 8872392266414089102 hx)]
  rw [show bits .and .i64 ((pc (x &&& 13637495625167602672) : Nat) : Int) 1 = ((par x 13637495625167602672 : Nat) : Int) from i1 _ (parb x 13637495625167602672 hx)]
  rw [show bits .and .i64 ((pc (x &&& 4504690376192293888) : Nat) : Int) 1 = ((par x 4504690376192293888 : Nat) : Int) from i1 _ (parb x 4504690376192293888 hx)]
  rw [show bits .and .i64 ((pc (x &&& 13905989783771938816) : Nat) : Int) 1 = ((par x 13905989783771938816 : Nat) : Int) from i1 _ (parb x 13905989783771938816 hx)]
  rw [show bits .and .i64 ((pc (x &&& 72057559678189568) : Nat) : Int) 1 = ((par x 72057559678189568 : Nat) : Int) from i1 _ (parb x 72057559678189568 hx)]
  simp only [chk, msk, List.map_cons, List.map_nil, hor]
  exact fin8 ⟨par x 16070007132869700791, par_lt _ _⟩ ⟨par x 17224092265527530843, par_lt _ _⟩ ⟨par x 17802880170850556525, par_lt _ _⟩ ⟨par x 8872392266414089102, par_lt _ _⟩ ⟨par x 13637495625167602672, par_lt _ _⟩ ⟨par x 4504690376192293888, par_lt _ _⟩ ⟨par x 13905989783771938816, par_lt _ _⟩ ⟨par x 72057559678189568, par_lt _ _⟩
theorem checkW (x : Nat) (hx : x < 18446744073709551616) (w : World) (hl : Laid w) : Calls Tryd.prog 25 #[.int .u64 (x : Int)] w fun e w' => e = .returned (.int .u8 (chk x : Int)) ∧ Below w.heap.size w w' :=
  (checkS x hx w hl).mono fun e w' ⟨he, hw⟩ => ⟨he, by subst hw; exact Below.refl _ _⟩
end Go.Proofs.YtjnpfnpeekpleaaDoor.EcB
