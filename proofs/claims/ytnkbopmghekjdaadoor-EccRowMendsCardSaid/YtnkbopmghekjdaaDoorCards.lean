/-
  DERIVED. GIVEN WITH THE SEED: THE CARDS: each row of YtnkbopmghekjdaaDoorRows.lean that lists a variable, with what it lists TIED to the program's text (the seventh form; the later family's looks); each row that meets fmt, with fmt's text TOLD by the authors' own Lean function (tested against real Go, not proved from fmt's source: count such statements apart). THE CARD IS WHAT COUNTS. Prove the row's statement (the work); the ties are given (YtnkbopmghekjdaaDoorTie.lean); close each card by the builder's one call (the guide's Derived/Test/ToyasCard.lean, 'card_holds'). Laid BY PROGRAM, IN A SANDBOX (cutbox-door.mjs). By AI agents, Wed Nov 11 2026. No macro, syntax, notation, axiom, sorry.
-/
import Derived.Test.YtnkbopmghekjdaaDoorRows
import GoSem.ClaimSeven
namespace Go.Proofs.YtnkbopmghekjdaaDoor
namespace Rows

/-- THE TIED CARD OF 'locketlaw2.EccWords'. -/
def eccWordsCard : Claim7 := { stood := { row := eccWordsRow, standIns := [], harness := (true, "3b81d75e41cee31f2faceb485ff4c1661e9b46a71fa8f2f04a5507d9d9139578"), looks := false }, kinds := [], alts := [], laidByText := true, laidKinds := [.data, .data], laidTests := true, laidLooks := .later }
def EccWordsCardSaid : Prop := Claim7.holds Tryd.pinned (.plain (OpenSpec.ofChange eccWordsSpec)) eccWordsCard

/-- THE TIED CARD OF 'locketlaw2.EccRows'. -/
def eccRowsCard : Claim7 := { stood := { row := eccRowsRow, standIns := [], harness := (true, "3b81d75e41cee31f2faceb485ff4c1661e9b46a71fa8f2f04a5507d9d9139578"), looks := false }, kinds := [], alts := [], laidByText := true, laidKinds := [.data, .data], laidTests := true, laidLooks := .later }
def EccRowsCardSaid : Prop := Claim7.holds Tryd.pinned (.plain (OpenSpec.ofChange eccRowsSpec)) eccRowsCard

/-- THE TIED CARD OF 'locketlaw2.EccMends'. -/
def eccMendsCard : Claim7 := { stood := { row := eccMendsRow, standIns := [], harness := (true, "3b81d75e41cee31f2faceb485ff4c1661e9b46a71fa8f2f04a5507d9d9139578"), looks := false }, kinds := [], alts := [], laidByText := true, laidKinds := [.data, .data], laidTests := true, laidLooks := .later }
def EccMendsCardSaid : Prop := Claim7.holds Tryd.pinned (.plain (OpenSpec.ofChange eccMendsSpec)) eccMendsCard

/-- THE TIED CARD OF 'locketlaw2.EccLinear'. -/
def eccLinearCard : Claim7 := { stood := { row := eccLinearRow, standIns := [], harness := (true, "3b81d75e41cee31f2faceb485ff4c1661e9b46a71fa8f2f04a5507d9d9139578"), looks := false }, kinds := [], alts := [], laidByText := true, laidKinds := [.data, .data], laidTests := true, laidLooks := .later }
def EccLinearCardSaid : Prop := Claim7.holds Tryd.pinned (.plain (OpenSpec.ofChange eccLinearSpec)) eccLinearCard

/-- THE TIED CARD OF 'locketlaw2.EccRowMends'. -/
def eccRowMendsCard : Claim7 := { stood := { row := eccRowMendsRow, standIns := [], harness := (true, "3b81d75e41cee31f2faceb485ff4c1661e9b46a71fa8f2f04a5507d9d9139578"), looks := false }, kinds := [], alts := [], laidByText := true, laidKinds := [.data, .data], laidTests := true, laidLooks := .later }
def EccRowMendsCardSaid : Prop := Claim7.holds Tryd.pinned (.plain (OpenSpec.ofChange eccRowMendsSpec)) eccRowMendsCard

/-- THE SECOND FORM's CARD OF 'locketlaw2.EccWords'. -/
def eccWordsUptoCard : Claim7 := { stood := { row := eccWordsUptoRow, standIns := [], harness := (true, "3b81d75e41cee31f2faceb485ff4c1661e9b46a71fa8f2f04a5507d9d9139578"), looks := false }, kinds := [], alts := [], laidByText := true, laidKinds := [.data, .data], laidTests := true, laidLooks := .later }
def EccWordsUptoCardSaid : Prop := Claim7.holds Tryd.pinned (.plain (OpenSpec.upto eccWordsSpec)) eccWordsUptoCard

/-- THE SECOND FORM's CARD OF 'locketlaw2.EccRows'. -/
def eccRowsUptoCard : Claim7 := { stood := { row := eccRowsUptoRow, standIns := [], harness := (true, "3b81d75e41cee31f2faceb485ff4c1661e9b46a71fa8f2f04a5507d9d9139578"), looks := false }, kinds := [], alts := [], laidByText := true, laidKinds := [.data, .data], laidTests := true, laidLooks := .later }
def EccRowsUptoCardSaid : Prop := Claim7.holds Tryd.pinned (.plain (OpenSpec.upto eccRowsSpec)) eccRowsUptoCard

/-- THE SECOND FORM's CARD OF 'locketlaw2.EccMends'. -/
def eccMendsUptoCard : Claim7 := { stood := { row := eccMendsUptoRow, standIns := [], harness := (true, "3b81d75e41cee31f2faceb485ff4c1661e9b46a71fa8f2f04a5507d9d9139578"), looks := false }, kinds := [], alts := [], laidByText := true, laidKinds := [.data, .data], laidTests := true, laidLooks := .later }
def EccMendsUptoCardSaid : Prop := Claim7.holds Tryd.pinned (.plain (OpenSpec.upto eccMendsSpec)) eccMendsUptoCard

/-- THE SECOND FORM's CARD OF 'locketlaw2.EccLinear'. -/
def eccLinearUptoCard : Claim7 := { stood := { row := eccLinearUptoRow, standIns := [], harness := (true, "3b81d75e41cee31f2faceb485ff4c1661e9b46a71fa8f2f04a5507d9d9139578"), looks := false }, kinds := [], alts := [], laidByText := true, laidKinds := [.data, .data], laidTests := true, laidLooks := .later }
def EccLinearUptoCardSaid : Prop := Claim7.holds Tryd.pinned (.plain (OpenSpec.upto eccLinearSpec)) eccLinearUptoCard

/-- THE SECOND FORM's CARD OF 'locketlaw2.EccRowMends'. -/
def eccRowMendsUptoCard : Claim7 := { stood := { row := eccRowMendsUptoRow, standIns := [], harness := (true, "3b81d75e41cee31f2faceb485ff4c1661e9b46a71fa8f2f04a5507d9d9139578"), looks := false }, kinds := [], alts := [], laidByText := true, laidKinds := [.data, .data], laidTests := true, laidLooks := .later }
def EccRowMendsUptoCardSaid : Prop := Claim7.holds Tryd.pinned (.plain (OpenSpec.upto eccRowMendsSpec)) eccRowMendsUptoCard
end Rows
end Go.Proofs.YtnkbopmghekjdaaDoor
