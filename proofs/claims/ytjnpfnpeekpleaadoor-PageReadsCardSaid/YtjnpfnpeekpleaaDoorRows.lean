/-
  NARROWER THAN 'FOR EVERY INPUT', by the rows' own cells (each row's printed sentence says how): PageReads: laid · PageMends: laid · PageCuts: laid · PagePads: laid.
  DERIVED. THE GIVEN ROWS OF THIS SEAT. 4 by the template 'for every input the law returns true; each argument reads behind the call as it read before'; 0 by the template 'total and deterministic' (their statements: YtjnpfnpeekpleaaDoorTotals.lean).
  GIVEN WITH THE SEED: the statements are not yours to turn. If you find one false, say at which input.
  Laid BY PROGRAM, IN A SANDBOX (cutbox-rows.mjs): the forced cells as the released guide's own fill.sh prints them over the translation 9ffd3ecd6979a63e… (all of the seat's roots in one cut). By AI agents, Wed Nov 11 2026. No macro, syntax, notation, axiom, sorry.
-/
import Derived.Test.YtjnpfnpeekpleaaDoorChecked
import GoSem.Claim
import GoSem.ClaimJoined
import GoSem.ClaimMapViews
import Derived.JoinedTies
import Derived.KernelRfl
namespace Go.Proofs.YtjnpfnpeekpleaaDoor
/- THE CELL 'sum', in the pinned program and in every row, IS THE sha256 OF THE DUMP (.gsa) THAT YtjnpfnpeekpleaaDoorProg.lean LOADS. Nothing in Lean hashes anything: it is a label: what it is worth is what the hold of that sum in a sandbox is worth. -/
noncomputable def Tryd.pinned : Pinned := { name := "ytjnpfnpeekpleaadoor", sum := "9ffd3ecd6979a63e4755f5ecb96ad4aab26ddf551b7eb32e0721bba87d5cd747", checked := Tryd.checked }
namespace Rows
def none {H : Type} : Left H := { results := [], args := [] }

/- WHAT THE LISTED PACKAGE-LEVEL VARIABLES READ AS WHEN THE CALL BEGINS. Each datum BY PROGRAM (the guide's laid-datum.mjs) off the statement by which the dump's own 'gosem.cut.vars' lays the variable. In a bare row this is a premise. The card (YtjnpfnpeekpleaaDoorCards.lean) ties it to the program's text. -/
def laid_locket_ecc_columns {H : Type} : DataW H := .agg [.lit (.int .u8 7), .lit (.int .u8 11), .lit (.int .u8 13), .lit (.int .u8 14), .lit (.int .u8 19), .lit (.int .u8 21), .lit (.int .u8 22), .lit (.int .u8 25), .lit (.int .u8 26), .lit (.int .u8 28), .lit (.int .u8 35), .lit (.int .u8 37), .lit (.int .u8 38), .lit (.int .u8 41), .lit (.int .u8 42), .lit (.int .u8 44), .lit (.int .u8 49), .lit (.int .u8 50), .lit (.int .u8 52), .lit (.int .u8 56), .lit (.int .u8 67), .lit (.int .u8 69), .lit (.int .u8 70), .lit (.int .u8 73), .lit (.int .u8 74), .lit (.int .u8 76), .lit (.int .u8 81), .lit (.int .u8 82), .lit (.int .u8 84), .lit (.int .u8 88), .lit (.int .u8 97), .lit (.int .u8 98), .lit (.int .u8 100), .lit (.int .u8 104), .lit (.int .u8 112), .lit (.int .u8 131), .lit (.int .u8 133), .lit (.int .u8 134), .lit (.int .u8 137), .lit (.int .u8 138), .lit (.int .u8 140), .lit (.int .u8 145), .lit (.int .u8 146), .lit (.int .u8 148), .lit (.int .u8 152), .lit (.int .u8 161), .lit (.int .u8 162), .lit (.int .u8 164), .lit (.int .u8 168), .lit (.int .u8 176), .lit (.int .u8 193), .lit (.int .u8 194), .lit (.int .u8 196), .lit (.int .u8 200), .lit (.int .u8 208), .lit (.int .u8 224), .lit (.int .u8 31), .lit (.int .u8 47), .lit (.int .u8 55), .lit (.int .u8 59), .lit (.int .u8 61), .lit (.int .u8 62), .lit (.int .u8 79), .lit (.int .u8 87)]
def laid_locket_ecc_masks {H : Type} : DataW H := .agg [.lit (.int .u64 16070007132869700791), .lit (.int .u64 17224092265527530843), .lit (.int .u64 17802880170850556525), .lit (.int .u64 8872392266414089102), .lit (.int .u64 13637495625167602672), .lit (.int .u64 4504690376192293888), .lit (.int .u64 13905989783771938816), .lit (.int .u64 72057559678189568)]

/-- 'locketlaw5.PageReads': WHATEVER THE INPUT: true; the input reads as it did. -/
def pageReadsSpec : ChangeSpec := { name := "pageReads", fn := fun _ => fun
  | [d1, d2, d3, d4, d5] => { results := [.lit (.bool true)], args := [d1, d2, d3, d4, d5] }
  | _ => none }
def pageReadsRow : OpenClaim := { program := "ytjnpfnpeekpleaadoor", sum := "9ffd3ecd6979a63e4755f5ecb96ad4aab26ddf551b7eb32e0721bba87d5cd747", func := "locket/locketlaw5.PageReads", spec := "pageReads", named := ["locket/ecc.masks", "locket/ecc.columns"], apart := false, laid := [("locket/ecc.columns", laid_locket_ecc_columns), ("locket/ecc.masks", laid_locket_ecc_masks)] }
def PageReadsSaid : Prop := pageReadsRow.holds Tryd.pinned (OpenSpec.ofChange pageReadsSpec)

/-- ITS FALSE NEIGHBOUR: 'it returns false'. Refute it at one input. -/
def pageReadsWrong : ChangeSpec := { name := "pageReads", fn := fun _ => fun
  | [d1, d2, d3, d4, d5] => { results := [.lit (.bool false)], args := [d1, d2, d3, d4, d5] }
  | _ => none }
def PageReadsWrongFalsely : Prop := pageReadsRow.holds Tryd.pinned (OpenSpec.ofChange pageReadsWrong)

/-- 'locketlaw5.PageMends': WHATEVER THE INPUT: true; the input reads as it did. -/
def pageMendsSpec : ChangeSpec := { name := "pageMends", fn := fun _ => fun
  | [d1, d2] => { results := [.lit (.bool true)], args := [d1, d2] }
  | _ => none }
def pageMendsRow : OpenClaim := { program := "ytjnpfnpeekpleaadoor", sum := "9ffd3ecd6979a63e4755f5ecb96ad4aab26ddf551b7eb32e0721bba87d5cd747", func := "locket/locketlaw5.PageMends", spec := "pageMends", named := ["locket/ecc.masks", "locket/ecc.columns"], apart := false, laid := [("locket/ecc.columns", laid_locket_ecc_columns), ("locket/ecc.masks", laid_locket_ecc_masks)] }
def PageMendsSaid : Prop := pageMendsRow.holds Tryd.pinned (OpenSpec.ofChange pageMendsSpec)

/-- ITS FALSE NEIGHBOUR: 'it returns false'. Refute it at one input. -/
def pageMendsWrong : ChangeSpec := { name := "pageMends", fn := fun _ => fun
  | [d1, d2] => { results := [.lit (.bool false)], args := [d1, d2] }
  | _ => none }
def PageMendsWrongFalsely : Prop := pageMendsRow.holds Tryd.pinned (OpenSpec.ofChange pageMendsWrong)

/-- 'locketlaw5.PageCuts': WHATEVER THE INPUT: true; the input reads as it did. -/
def pageCutsSpec : ChangeSpec := { name := "pageCuts", fn := fun _ => fun
  | [d1, d2, d3, d4] => { results := [.lit (.bool true)], args := [d1, d2, d3, d4] }
  | _ => none }
def pageCutsRow : OpenClaim := { program := "ytjnpfnpeekpleaadoor", sum := "9ffd3ecd6979a63e4755f5ecb96ad4aab26ddf551b7eb32e0721bba87d5cd747", func := "locket/locketlaw5.PageCuts", spec := "pageCuts", named := ["locket/ecc.masks", "locket/ecc.columns"], apart := false, laid := [("locket/ecc.columns", laid_locket_ecc_columns), ("locket/ecc.masks", laid_locket_ecc_masks)] }
def PageCutsSaid : Prop := pageCutsRow.holds Tryd.pinned (OpenSpec.ofChange pageCutsSpec)

/-- ITS FALSE NEIGHBOUR: 'it returns false'. Refute it at one input. -/
def pageCutsWrong : ChangeSpec := { name := "pageCuts", fn := fun _ => fun
  | [d1, d2, d3, d4] => { results := [.lit (.bool false)], args := [d1, d2, d3, d4] }
  | _ => none }
def PageCutsWrongFalsely : Prop := pageCutsRow.holds Tryd.pinned (OpenSpec.ofChange pageCutsWrong)

/-- 'locketlaw5.PagePads': WHATEVER THE INPUT: true; the input reads as it did. -/
def pagePadsSpec : ChangeSpec := { name := "pagePads", fn := fun _ => fun
  | [d1, d2, d3] => { results := [.lit (.bool true)], args := [d1, d2, d3] }
  | _ => none }
def pagePadsRow : OpenClaim := { program := "ytjnpfnpeekpleaadoor", sum := "9ffd3ecd6979a63e4755f5ecb96ad4aab26ddf551b7eb32e0721bba87d5cd747", func := "locket/locketlaw5.PagePads", spec := "pagePads", named := ["locket/ecc.masks", "locket/ecc.columns"], apart := false, laid := [("locket/ecc.columns", laid_locket_ecc_columns), ("locket/ecc.masks", laid_locket_ecc_masks)] }
def PagePadsSaid : Prop := pagePadsRow.holds Tryd.pinned (OpenSpec.ofChange pagePadsSpec)

/-- ITS FALSE NEIGHBOUR: 'it returns false'. Refute it at one input. -/
def pagePadsWrong : ChangeSpec := { name := "pagePads", fn := fun _ => fun
  | [d1, d2, d3] => { results := [.lit (.bool false)], args := [d1, d2, d3] }
  | _ => none }
def PagePadsWrongFalsely : Prop := pagePadsRow.holds Tryd.pinned (OpenSpec.ofChange pagePadsWrong)

/- THE SECOND FORM. 'bulk': how many values and letters a reading holds, each counted each time it is reached (what is shared counts as often as it is met; a slice's spare places count too). A statement '..UptoSaid' is the law's where the arguments, and the package variables that the reading takes, are together of bulk at most 1048576: NARROWER than '..Said'. Prove '..Said' where nothing that the law and all that it calls make is longer than what came in: it says more and counts as full. Else prove '..UptoSaid'. A law counts once. -/
mutual
def uptoBulk {H : Type} : DataW H → Nat
  | .lit (.string bytes) => bytes.length + 1
  | .lit _ => 1
  | .nil => 1
  | .ptr d => uptoBulk d + 1
  | .slice elems spare => uptoBulkAll elems + uptoBulkAll spare + 1
  | .agg parts => uptoBulkAll parts + 1
  | .iface _ d => uptoBulk d + 1
  | .map entries => uptoBulkEntries entries + 1
  | .held _ => 1
def uptoBulkAll {H : Type} : List (DataW H) → Nat
  | [] => 0
  | d :: r => uptoBulk d + uptoBulkAll r
def uptoBulkEntries {H : Type} : List (Lit × DataW H) → Nat
  | [] => 0
  | x :: r => uptoBulkEntry x + uptoBulkEntries r
def uptoBulkEntry {H : Type} : Lit × DataW H → Nat
  | (.string bytes, d) => bytes.length + uptoBulk d + 1
  | (_, d) => uptoBulk d + 1
 end
def uptoSmall : (H : Type) → List (DataW H) → Bool := fun _ ds => decide (uptoBulkAll ds ≤ 1048576)
def OpenSpec.upto (s : _root_.Go.ChangeSpec) : _root_.Go.OpenSpec := { _root_.Go.OpenSpec.ofChange s with cond := some uptoSmall }

/-- 'locketlaw5.PageReads', WHERE WHAT IT READS IS OF BULK AT MOST 1048576: true; the input reads as it did. -/
def pageReadsUptoRow : OpenClaim := { program := "ytjnpfnpeekpleaadoor", sum := "9ffd3ecd6979a63e4755f5ecb96ad4aab26ddf551b7eb32e0721bba87d5cd747", func := "locket/locketlaw5.PageReads", spec := "pageReads", named := ["locket/ecc.masks", "locket/ecc.columns"], apart := false, laid := [("locket/ecc.columns", laid_locket_ecc_columns), ("locket/ecc.masks", laid_locket_ecc_masks)], narrowed := true }
def PageReadsUptoSaid : Prop := pageReadsUptoRow.holds Tryd.pinned (OpenSpec.upto pageReadsSpec)

/-- 'locketlaw5.PageMends', WHERE WHAT IT READS IS OF BULK AT MOST 1048576: true; the input reads as it did. -/
def pageMendsUptoRow : OpenClaim := { program := "ytjnpfnpeekpleaadoor", sum := "9ffd3ecd6979a63e4755f5ecb96ad4aab26ddf551b7eb32e0721bba87d5cd747", func := "locket/locketlaw5.PageMends", spec := "pageMends", named := ["locket/ecc.masks", "locket/ecc.columns"], apart := false, laid := [("locket/ecc.columns", laid_locket_ecc_columns), ("locket/ecc.masks", laid_locket_ecc_masks)], narrowed := true }
def PageMendsUptoSaid : Prop := pageMendsUptoRow.holds Tryd.pinned (OpenSpec.upto pageMendsSpec)

/-- 'locketlaw5.PageCuts', WHERE WHAT IT READS IS OF BULK AT MOST 1048576: true; the input reads as it did. -/
def pageCutsUptoRow : OpenClaim := { program := "ytjnpfnpeekpleaadoor", sum := "9ffd3ecd6979a63e4755f5ecb96ad4aab26ddf551b7eb32e0721bba87d5cd747", func := "locket/locketlaw5.PageCuts", spec := "pageCuts", named := ["locket/ecc.masks", "locket/ecc.columns"], apart := false, laid := [("locket/ecc.columns", laid_locket_ecc_columns), ("locket/ecc.masks", laid_locket_ecc_masks)], narrowed := true }
def PageCutsUptoSaid : Prop := pageCutsUptoRow.holds Tryd.pinned (OpenSpec.upto pageCutsSpec)

/-- 'locketlaw5.PagePads', WHERE WHAT IT READS IS OF BULK AT MOST 1048576: true; the input reads as it did. -/
def pagePadsUptoRow : OpenClaim := { program := "ytjnpfnpeekpleaadoor", sum := "9ffd3ecd6979a63e4755f5ecb96ad4aab26ddf551b7eb32e0721bba87d5cd747", func := "locket/locketlaw5.PagePads", spec := "pagePads", named := ["locket/ecc.masks", "locket/ecc.columns"], apart := false, laid := [("locket/ecc.columns", laid_locket_ecc_columns), ("locket/ecc.masks", laid_locket_ecc_masks)], narrowed := true }
def PagePadsUptoSaid : Prop := pagePadsUptoRow.holds Tryd.pinned (OpenSpec.upto pagePadsSpec)

end Rows
end Go.Proofs.YtjnpfnpeekpleaaDoor
