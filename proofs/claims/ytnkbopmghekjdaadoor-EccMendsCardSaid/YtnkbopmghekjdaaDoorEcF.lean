/- The law on turned bits: its walk. -/
import Derived.Test.YtnkbopmghekjdaaDoorEcD
import Derived.Test.YtnkbopmghekjdaaDoorEcE
namespace Go.Proofs.YtnkbopmghekjdaaDoor.EcF
open Go.ChangeShapes Go.WideShapes Go.ChangeAt Go.RowKit
open EcM EcA EcB EcC EcD EcE
set_option linter.unusedVariables false
set_option maxHeartbeats 1000000

def Turns (x c i : Nat) (w : World) : Ending → World → Prop := fun e w' => e = .returned (.tuple #[.int .u64 ((turned x c i).1 : Int), .int .u8 ((turned x c i).2 : Int)]) ∧ w' = w
theorem turnLow (x c i : Nat) (hx : x < 18446744073709551616) (hi : i < 64) (w : World) : Calls Tryd.prog 20 #[.int .u64 (x : Int), .int .u8 (c : Int), .int .i64 (i : Int)] w (Turns x c i w) := by
  have h2 : 2 ^ i < 18446744073709551616 := Nat.pow_lt_pow_right (a := 2) (by omega) hi
  have hpow : bits .xor .u64 (x : Int) (IntKind.u64.wrap ((2 : Int) ^ i)) = ((x ^^^ 2 ^ i : Nat) : Int) := by
    rw [show ((2 : Int) ^ i) = ((2 ^ i : Nat) : Int) by simp, wrapL _ h2]
    exact xor64 x (2 ^ i) hx h2
  have ht : turned x c i = (x ^^^ 2 ^ i, c) := by unfold turned; rw [if_pos hi]
  unfold Turns
  rw [ht]
  have hpow := Lib.hid hpow
  clear h2
  go_enter Tryd.func20, Tryd.ntmps20
  go_wp2
  go_ret2
  refine ⟨?_, rfl⟩
  first | (rw [← hpow.out]; rfl) | trace_state
theorem turnHigh (x c i : Nat) (hc : c < 256) (hi : 64 ≤ i) (h72 : i < 72) (w : World) : Calls Tryd.prog 20 #[.int .u64 (x : Int), .int .u8 (c : Int), .int .i64 (i : Int)] w (Turns x c i w) := by
  obtain ⟨j, rfl⟩ : ∃ j, i = 64 + j := ⟨i - 64, by omega⟩
  have ht : turned x c (64 + j) = (x, c ^^^ 2 ^ j) := by unfold turned; rw [if_neg (by omega), show 64 + j - 64 = j by omega]
  unfold Turns
  rw [ht]
  obtain rfl | rfl | rfl | rfl | rfl | rfl | rfl | rfl : j = 0 ∨ j = 1 ∨ j = 2 ∨ j = 3 ∨ j = 4 ∨ j = 5 ∨ j = 6 ∨ j = 7 := by omega
  all_goals
    go_enter Tryd.func20, Tryd.ntmps20
    go_wp2
    go_ret2
    refine ⟨?_, rfl⟩
    exact congrArg (fun z => Ending.returned (.tuple #[.int .u64 (x : Int), .int .u8 z])) (xor8 ⟨c, hc⟩ ⟨_, by decide⟩)
theorem turnW (x c i : Nat) (hx : x < 18446744073709551616) (hc : c < 256) (hi : i < 72) (w : World) : Calls Tryd.prog 20 #[.int .u64 (x : Int), .int .u8 (c : Int), .int .i64 (i : Int)] w (Turns x c i w) := by
  by_cases h : i < 64
  · exact turnLow x c i hx h w
  · exact turnHigh x c i hc (by omega) hi w
theorem turned_lt (x c i : Nat) (hx : x < 18446744073709551616) (hc : c < 256) (hi : i < 72) : (turned x c i).1 < 18446744073709551616 ∧ (turned x c i).2 < 256 := by
  unfold turned
  split
  · exact ⟨Nat.xor_lt_two_pow (n := 64) hx (Nat.pow_lt_pow_right (a := 2) (by omega) (by omega)), hc⟩
  · exact ⟨hx, Nat.xor_lt_two_pow (n := 8) hc (Nat.pow_lt_pow_right (a := 2) (by omega) (by omega))⟩

set_option maxRecDepth 100000 in
theorem lawOut (x : Nat) (i j : Int) (w : World) (hl : Laid w) (hij : i < 0 ∨ 71 < i ∨ j < 0 ∨ 71 < j) :
    Calls Tryd.prog 5 #[.int .u64 (x : Int), .int .i64 i, .int .i64 j] w fun e w' => e = .returned (.bool true) ∧ Below w.heap.size w w' := by
  have HK := Lib.hid (known w hl)
  clear hl
  go_enter Tryd.func5, Tryd.ntmps5
  go_wp2_with fail
  refine HK.out.mono ?_
  rintro e _ ⟨rfl, rfl⟩
  go_wp2
  all_goals (first | (go_ret; exact ⟨rfl, Below.refl _ _⟩) | (exfalso; simp_all; omega) | (exfalso; omega) | trace_state)

set_option maxRecDepth 100000 in
theorem lawIn (x i j : Nat) (hx : x < 18446744073709551616) (hi : i < 72) (hj : j < 72) (w : World) (hl : Laid w) :
    Calls Tryd.prog 5 #[.int .u64 (x : Int), .int .i64 (i : Int), .int .i64 (j : Int)] w fun e w' => e = .returned (.bool true) ∧ Below w.heap.size w w' := by
  have HK := Lib.hid (known w hl)
  have HC := Lib.hid (checkS x hx w hl)
  have b1 := turned_lt x (chk x) i hx (chk_lt x) hi
  have b2 := turned_lt _ _ j b1.1 b1.2 hj
  have HT := turnW x (chk x) i hx (chk_lt x) hi w
  have HM := mendW _ _ b1.1 b1.2 w hl
  have HT2 := fun w => turnW _ _ j b1.1 b1.2 hj w
  have HM2 := fun w (hl : Laid w) (hij : i ≠ j) => mendW _ _ b2.1 b2.2 w hl
  have hm2 := fun hij : i ≠ j => mend_two x i j hi hj hij (turned x (chk x) i).1 (turned x (chk x) i).2 rfl
  unfold EcC.Ends at HM HM2
  unfold Turns at HT HT2
  rw [mend_one x i hi] at HM
  have HM2' : ∀ w, Laid w → i ≠ j → Calls Tryd.prog 9 #[.int .u64 ((turned (turned x (chk x) i).1 (turned x (chk x) i).2 j).1 : Int), .int .u8 ((turned (turned x (chk x) i).1 (turned x (chk x) i).2 j).2 : Int)] w fun e w' => e = .returned (.tuple #[.int .u64 ((turned (turned x (chk x) i).1 (turned x (chk x) i).2 j).1 : Int), .int .u8 ((turned (turned x (chk x) i).1 (turned x (chk x) i).2 j).2 : Int), .int .i64 ((2 : Nat) : Int)]) ∧ Below w.heap.size w w' := fun w hl hij => by
    have h := HM2 w hl hij
    rw [hm2 hij] at h
    exact h
  clear HM2 hm2 b1 b2
  generalize (turned (turned x (chk x) i).1 (turned x (chk x) i).2 j).1 = v2 at HT2 HM2'
  generalize (turned (turned x (chk x) i).1 (turned x (chk x) i).2 j).2 = d2 at HT2 HM2'
  generalize (turned x (chk x) i).1 = v1 at HT HM HT2
  generalize (turned x (chk x) i).2 = d1 at HT HM HT2
  generalize chk x = c at HC HT HM
  have HT := Lib.hid HT
  have HM := Lib.hid HM
  have HT2 := Lib.hid HT2
  have HM2 := Lib.hid HM2'
  have HL := Lib.hid hl
  clear hl
  go_enter Tryd.func5, Tryd.ntmps5
  go_wp2_with fail
  refine HK.out.mono ?_
  rintro e _ ⟨rfl, rfl⟩
  go_wp2_with fail
  refine HC.out.mono ?_
  rintro e _ ⟨rfl, rfl⟩
  go_wp2_with fail
  refine HT.out.mono ?_
  rintro e _ ⟨rfl, rfl⟩
  go_wp2_with fail
  refine HM.out.mono ?_
  rintro e w1 ⟨rfl, hb⟩
  by_cases hij : i = j
  · subst hij
    go_wp2
    go_ret
    exact ⟨rfl, hb⟩
  · have e6 : ((i : Int) == (j : Int)) = false := by simp; omega
    go_wp2_with fail
    refine (HT2.out _).mono ?_
    rintro e _ ⟨rfl, rfl⟩
    go_wp2_with fail
    refine (HM2.out _ (HL.out.below hb) hij).mono ?_
    rintro e w2 ⟨rfl, hb2⟩
    go_wp2
    go_ret
    exact ⟨rfl, hb.trans (hb2.mono hb.size)⟩
end Go.Proofs.YtnkbopmghekjdaaDoor.EcF
