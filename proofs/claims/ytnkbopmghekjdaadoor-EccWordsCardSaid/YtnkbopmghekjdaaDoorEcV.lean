/- The law on words: its walk. -/
import Derived.Test.YtnkbopmghekjdaaDoorEcU
namespace Go.Proofs.YtnkbopmghekjdaaDoor.EcV
open Go.ChangeShapes Go.WideShapes Go.ChangeAt Go.RowKit
open EcM EcA EcB EcC EcN EcT EcR EcS EcU
set_option linter.unusedVariables false
set_option maxHeartbeats 1000000

set_option maxRecDepth 100000 in
theorem lawG (i : Int) (v : Nat) (x c : Nat) (hx : x < 18446744073709551616) (hc : c < 256) (w : World) (hl : Laid w)
    (h1 : ∀ w, Laid w → Calls Tryd.prog 14 #[.int .i64 i] w fun e w' => e = .returned (.int .u8 (v : Int)) ∧ w' = w)
    (h2 : ∀ w, Calls Tryd.prog 15 #[.int .i64 i] w fun e w' => e = .returned (.int .u8 (v : Int)) ∧ w' = w) :
    Calls Tryd.prog 3 #[.int .u64 (x : Int), .int .u8 (c : Int), .int .i64 i] w fun e w' => e = .returned (.bool true) ∧ Below w.heap.size w w' := by
  have HK := Lib.hid (EcE.known w hl)
  have HM := EcD.mendW x c hx hc w hl
  have HR := mendR x c hx hc
  unfold EcC.Ends at HM HR
  have HC := fun w hl => checkS x hx w hl
  have HCR := checkRR x hx
  have HS := fun w hl => synW x c hx hc w hl
  have hxor := xor8 ⟨chk x, chk_lt x⟩ ⟨c, hc⟩
  simp only at hxor
  generalize mend x c = me at HM HR
  obtain ⟨m1, m2, m3⟩ := me
  simp only at HM HR
  generalize chk x ^^^ c = s at HS hxor
  generalize chk x = q at HC HCR hxor
  replace HM := Lib.hid HM
  replace HR := Lib.hid HR
  replace HC := Lib.hid HC
  replace HCR := Lib.hid HCR
  replace HS := Lib.hid HS
  replace hl := Lib.hid hl
  replace h1 := Lib.hid h1
  replace h2 := Lib.hid h2
  clear hx hc
  go_enter Tryd.func3, Tryd.ntmps3
  go_wp2_with fail
  refine HK.out.mono ?_
  rintro e _ ⟨rfl, rfl⟩
  go_wp2_with fail
  refine HM.out.mono ?_
  rintro e w1 ⟨rfl, b1⟩
  go_wp2_with fail
  refine (HR.out _).mono ?_
  rintro e w2 ⟨rfl, b2⟩
  have d2 := b1.trans (b2.mono b1.size)
  clear b2
  have l2 := Lib.hid (hl.out.below d2)
  go_wp2_with fail
  refine (HC.out _ l2.out).mono ?_
  rintro e _ ⟨rfl, rfl⟩
  go_wp2_with fail
  refine (HCR.out _).mono ?_
  rintro e w3 ⟨rfl, b3⟩
  have d3 := d2.trans (b3.mono d2.size)
  clear b3
  have l3 := Lib.hid (hl.out.below d3)
  go_wp2_with fail
  refine (HS.out _ l3.out).mono ?_
  rintro e w4 ⟨rfl, b4⟩
  have d4 := d3.trans (b4.mono d3.size)
  clear b4
  go_wp2_with fail
  refine (HCR.out _).mono ?_
  rintro e w5 ⟨rfl, b5⟩
  have d5 := d4.trans (b5.mono d4.size)
  clear b5
  have l5 := Lib.hid (hl.out.below d5)
  go_wp2_with fail
  refine (h1.out _ l5.out).mono ?_
  rintro e _ ⟨rfl, rfl⟩
  go_wp2_with fail
  refine (h2.out _).mono ?_
  rintro e _ ⟨rfl, rfl⟩
  go_wp2
  go_ret
  exact ⟨rfl, d5⟩

theorem law (i : Int) (x c : Nat) (hx : x < 18446744073709551616) (hc : c < 256) (w : World) (hl : Laid w) :
    Calls Tryd.prog 3 #[.int .u64 (x : Int), .int .u8 (c : Int), .int .i64 i] w fun e w' => e = .returned (.bool true) ∧ Below w.heap.size w w' := by
  by_cases h : i < 0 ∨ 63 < i
  · exact lawG i 0 x c hx hc w hl (fun w _ => colOut i h w) (fun w => columnOutR i h w)
  · obtain ⟨p, rfl⟩ := Int.eq_ofNat_of_zero_le (show 0 ≤ i by omega)
    exact lawG (p : Int) (col p) x c hx hc w hl (fun w hl => colW p (by omega) w hl) (fun w => columnInR p (by omega) w)
end Go.Proofs.YtnkbopmghekjdaaDoor.EcV
