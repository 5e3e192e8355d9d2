/- Groups: the chapter's example. -/
import Derived.Test.YtleflegbdnmgeaaGdE
namespace Go.Proofs.Ytleflegbdnmgeaa.GdK
open Go.ChangeShapes Go.WideShapes Go.ChangeAt Go.RowKit
open GdT GdA GdB GdC GdD GdE
set_option linter.unusedVariables false
set_option maxHeartbeats 1000000

def L3 : List B8 := [0, 3, 0]
theorem known (w : World) : Calls Try.prog 7 #[] w fun e w' => e = .returned (.bool true) ∧ Below w.heap.size w w' := by
  have e1 : setE 3 1 3 = 0 := by decide +kernel
  have e2 : setL 3 (List.replicate 3 0#8) 1 3 = L3 := by decide +kernel
  have e3 : clrE 3 L3 1 = 21 := by decide +kernel
  have e4 : clrL 3 L3 1 = L3 := by decide +kernel
  have e5 : L3.map lst = L3 := by decide +kernel
  have e6 : kindP 3 L3 1 = 3 := by decide +kernel
  have e7 : mayP 3 L3 1 = false := by decide +kernel
  have e8 : mayP 3 L3 0 = true := by decide +kernel
  have e9 : bitsP 3 L3 0 = 2 := by decide +kernel
  have e10 : levelP 2 = 3 := by decide +kernel
  have HN := Lib.hid (newW 3 w (by decide) (by decide))
  have HS := Lib.hid (fun g q w (h : Gd w g q 3 (List.replicate 3 0#8)) => setW g q 3 _ 1 3 w h)
  have HC := Lib.hid (fun g q w (h : Gd w g q 3 L3) => clearW g q 3 L3 1 w h)
  have HP := Lib.hid (fun g q w (h : Gd w g q 3 L3) => powerW g q 3 L3 w h (by decide))
  have HK := Lib.hid (fun g q w (h : Gd w g q 3 L3) => kindW g q 3 L3 1 w h)
  have HM := Lib.hid (fun g q w (h : Gd w g q 3 L3) => mayW g q 3 L3 1 w h)
  have HM0 := Lib.hid (fun g q w (h : Gd w g q 3 L3) => mayW g q 3 L3 0 w h)
  have HB := Lib.hid (fun g q w (h : Gd w g q 3 L3) => bitsW g q 3 L3 0 w h (by decide))
  have HL := Lib.hid (fun w => levelW 2 w)
  rw [e1, e2] at HS
  rw [e3, e4] at HC
  rw [e5] at HP
  rw [e6] at HK
  rw [e7] at HM
  rw [e8] at HM0
  rw [e9] at HB
  rw [e10] at HL
  clear e1 e2 e3 e4 e5 e6 e7 e8 e9 e10
  generalize L3 = L at *
  generalize List.replicate 3 0#8 = L0 at *
  go_enter Try.func7, Try.ntmps7
  go_wp2_with fail
  refine HN.out.mono ?_
  rintro e' w1 ⟨g, q, rfl, G1, hg, hq, B1⟩
  have GR : Hid (∀ w2 w3, Below w.heap.size w w2 → w2.grownBy w3 (some q) → Below w.heap.size w w3) := Lib.hid fun w2 w3 hB hG => hB.grown hG hB.size (fun j e => by cases e; exact hq)
  replace G1 := Lib.hid G1
  replace B1 := Lib.hid B1
  go_wp2_with fail
  refine (HS.out _ _ _ G1.out).mono ?_
  rintro e' w2 ⟨rfl, G2, g2⟩
  replace G2 := Lib.hid G2
  have B2 := Lib.hid (GR.out _ _ B1.out g2)
  clear g2 G1 B1
  go_wp2_with fail
  refine (HC.out _ _ _ G2.out).mono ?_
  rintro e' w3 ⟨rfl, G3, g3⟩
  replace G3 := Lib.hid G3
  have B3 := Lib.hid (GR.out _ _ B2.out g3)
  clear g3 G2 B2
  go_wp2_with fail
  refine (HP.out _ _ _ G3.out).mono ?_
  rintro e' w4 ⟨⟨v4, rfl⟩, G4, g4⟩
  replace G4 := Lib.hid G4
  have B4 := Lib.hid (GR.out _ _ B3.out g4)
  clear g4 G3 B3
  go_wp2_with fail
  refine (HK.out _ _ _ G4.out).mono ?_
  rintro e' w5 ⟨rfl, h5⟩
  obtain rfl := h5.symm
  go_wp2_with fail
  refine (HM.out _ _ _ G4.out).mono ?_
  rintro e' w6 ⟨rfl, h6⟩
  obtain rfl := h6.symm
  go_wp2_with fail
  refine (HM0.out _ _ _ G4.out).mono ?_
  rintro e' w7 ⟨rfl, h7⟩
  obtain rfl := h7.symm
  go_wp2_with fail
  refine (HB.out _ _ _ G4.out).mono ?_
  rintro e' w8 ⟨rfl, b8⟩
  have B8 := Lib.hid (B4.out.trans (b8.mono B4.out.size))
  clear b8
  go_wp2_with fail
  refine (HL.out _).mono ?_
  rintro e' w9 ⟨rfl, h9⟩
  obtain rfl := h9.symm
  go_wp2
  go_ret
  exact ⟨rfl, B8.out⟩
end Go.Proofs.Ytleflegbdnmgeaa.GdK
