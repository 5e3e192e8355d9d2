/-
  No cell of these rows narrows 'for every input' (looked for: loops, veiled, ifaces, maps, wideKeys, modest, calm, conditions, laid).
  DERIVED. THE GIVEN ROWS OF THIS SEAT. 3 by the template 'for every input the law returns true; each argument reads behind the call as it read before'; 0 by the template 'total and deterministic' (their statements: YtafcjcpflkelcabTotals.lean).
  GIVEN WITH THE SEED: the statements are not yours to turn. If you find one false, say at which input.
  Laid BY PROGRAM, IN A SANDBOX (cutbox-rows.mjs): the forced cells as the released guide's own fill.sh prints them over the translation c3a87ad93b80f4a2… (all of the seat's roots in one cut). By AI agents, Wed Nov 11 2026. No macro, syntax, notation, axiom, sorry.
-/
import Derived.Test.YtafcjcpflkelcabChecked
import GoSem.Claim
import GoSem.ClaimJoined
import GoSem.ClaimMapViews
import Derived.JoinedTies
import Derived.KernelRfl
namespace Go.Proofs.Ytafcjcpflkelcab
/- THE CELL 'sum', in the pinned program and in every row, IS THE sha256 OF THE DUMP (.gsa) THAT YtafcjcpflkelcabProg.lean LOADS. Nothing in Lean hashes anything: it is a label: what it is worth is what the hold of that sum in a sandbox is worth. -/
noncomputable def Try.pinned : Pinned := { name := "ytafcjcpflkelcab", sum := "c3a87ad93b80f4a2c826bb845daae718e7c52e7608da0ff2c8f88720480d395f", checked := Try.checked }
namespace Rows
def none {H : Type} : Left H := { results := [], args := [] }

/-- 'locketlaw18.TokenJoins': WHATEVER THE INPUT: true; the input reads as it did. -/
def tokenJoinsSpec : ChangeSpec := { name := "tokenJoins", fn := fun _ => fun
  | [d1, d2, d3] => { results := [.lit (.bool true)], args := [d1, d2, d3] }
  | _ => none }
def tokenJoinsRow : OpenClaim := { program := "ytafcjcpflkelcab", sum := "c3a87ad93b80f4a2c826bb845daae718e7c52e7608da0ff2c8f88720480d395f", func := "locket/locketlaw18.TokenJoins", spec := "tokenJoins", unfollowed := true, recurses := true, apart := false }
def TokenJoinsSaid : Prop := tokenJoinsRow.holds Try.pinned (OpenSpec.ofChange tokenJoinsSpec)

/-- ITS FALSE NEIGHBOUR: 'it returns false'. Refute it at one input. -/
def tokenJoinsWrong : ChangeSpec := { name := "tokenJoins", fn := fun _ => fun
  | [d1, d2, d3] => { results := [.lit (.bool false)], args := [d1, d2, d3] }
  | _ => none }
def TokenJoinsWrongFalsely : Prop := tokenJoinsRow.holds Try.pinned (OpenSpec.ofChange tokenJoinsWrong)

/-- 'locketlaw18.TokenBursts': WHATEVER THE INPUT: true; the input reads as it did. -/
def tokenBurstsSpec : ChangeSpec := { name := "tokenBursts", fn := fun _ => fun
  | [d1, d2, d3] => { results := [.lit (.bool true)], args := [d1, d2, d3] }
  | _ => none }
def tokenBurstsRow : OpenClaim := { program := "ytafcjcpflkelcab", sum := "c3a87ad93b80f4a2c826bb845daae718e7c52e7608da0ff2c8f88720480d395f", func := "locket/locketlaw18.TokenBursts", spec := "tokenBursts", apart := false }
def TokenBurstsSaid : Prop := tokenBurstsRow.holds Try.pinned (OpenSpec.ofChange tokenBurstsSpec)

/-- ITS FALSE NEIGHBOUR: 'it returns false'. Refute it at one input. -/
def tokenBurstsWrong : ChangeSpec := { name := "tokenBursts", fn := fun _ => fun
  | [d1, d2, d3] => { results := [.lit (.bool false)], args := [d1, d2, d3] }
  | _ => none }
def TokenBurstsWrongFalsely : Prop := tokenBurstsRow.holds Try.pinned (OpenSpec.ofChange tokenBurstsWrong)

/-- 'locketlaw18.TokenFronts': WHATEVER THE INPUT: true; the input reads as it did. -/
def tokenFrontsSpec : ChangeSpec := { name := "tokenFronts", fn := fun _ => fun
  | [d1, d2, d3, d4] => { results := [.lit (.bool true)], args := [d1, d2, d3, d4] }
  | _ => none }
def tokenFrontsRow : OpenClaim := { program := "ytafcjcpflkelcab", sum := "c3a87ad93b80f4a2c826bb845daae718e7c52e7608da0ff2c8f88720480d395f", func := "locket/locketlaw18.TokenFronts", spec := "tokenFronts", apart := false }
def TokenFrontsSaid : Prop := tokenFrontsRow.holds Try.pinned (OpenSpec.ofChange tokenFrontsSpec)

/-- ITS FALSE NEIGHBOUR: 'it returns false'. Refute it at one input. -/
def tokenFrontsWrong : ChangeSpec := { name := "tokenFronts", fn := fun _ => fun
  | [d1, d2, d3, d4] => { results := [.lit (.bool false)], args := [d1, d2, d3, d4] }
  | _ => none }
def TokenFrontsWrongFalsely : Prop := tokenFrontsRow.holds Try.pinned (OpenSpec.ofChange tokenFrontsWrong)

/- THE SECOND FORM. 'bulk': how many values and letters a reading holds, each counted each time it is reached (what is shared counts as often as it is met; a slice's spare places count too). A statement '..UptoSaid' is the law's where the arguments, and the package variables that the reading takes, are together of bulk at most 1048576: NARROWER than '..Said'. Prove '..Said' where nothing that the law and all that it calls make is longer than what came in: it says more and counts as full. Else prove '..UptoSaid'. A law counts once. -/
mutual
def uptoBulk {H : Type} : DataW H → Nat
  | .lit (.string bytes) => bytes.length + 1
  | .lit _ => 1
  | .nil => 1
  | .ptr d => uptoBulk d + 1
  | .slice elems spare => uptoBulkAll elems + uptoBulkAll spare + 1
  | .agg parts => uptoBulkAll parts + 1
  | .iface _ d => uptoBulk d + 1
  | .map entries => uptoBulkEntries entries + 1
  | .held _ => 1
def uptoBulkAll {H : Type} : List (DataW H) → Nat
  | [] => 0
  | d :: r => uptoBulk d + uptoBulkAll r
def uptoBulkEntries {H : Type} : List (Lit × DataW H) → Nat
  | [] => 0
  | x :: r => uptoBulkEntry x + uptoBulkEntries r
def uptoBulkEntry {H : Type} : Lit × DataW H → Nat
  | (.string bytes, d) => bytes.length + uptoBulk d + 1
  | (_, d) => uptoBulk d + 1
 end
def uptoSmall : (H : Type) → List (DataW H) → Bool := fun _ ds => decide (uptoBulkAll ds ≤ 1048576)
def OpenSpec.upto (s : _root_.Go.ChangeSpec) : _root_.Go.OpenSpec := { _root_.Go.OpenSpec.ofChange s with cond := some uptoSmall }

/-- 'locketlaw18.TokenJoins', WHERE WHAT IT READS IS OF BULK AT MOST 1048576: true; the input reads as it did. -/
def tokenJoinsUptoRow : OpenClaim := { program := "ytafcjcpflkelcab", sum := "c3a87ad93b80f4a2c826bb845daae718e7c52e7608da0ff2c8f88720480d395f", func := "locket/locketlaw18.TokenJoins", spec := "tokenJoins", unfollowed := true, recurses := true, apart := false, narrowed := true }
def TokenJoinsUptoSaid : Prop := tokenJoinsUptoRow.holds Try.pinned (OpenSpec.upto tokenJoinsSpec)

/-- 'locketlaw18.TokenBursts', WHERE WHAT IT READS IS OF BULK AT MOST 1048576: true; the input reads as it did. -/
def tokenBurstsUptoRow : OpenClaim := { program := "ytafcjcpflkelcab", sum := "c3a87ad93b80f4a2c826bb845daae718e7c52e7608da0ff2c8f88720480d395f", func := "locket/locketlaw18.TokenBursts", spec := "tokenBursts", apart := false, narrowed := true }
def TokenBurstsUptoSaid : Prop := tokenBurstsUptoRow.holds Try.pinned (OpenSpec.upto tokenBurstsSpec)

/-- 'locketlaw18.TokenFronts', WHERE WHAT IT READS IS OF BULK AT MOST 1048576: true; the input reads as it did. -/
def tokenFrontsUptoRow : OpenClaim := { program := "ytafcjcpflkelcab", sum := "c3a87ad93b80f4a2c826bb845daae718e7c52e7608da0ff2c8f88720480d395f", func := "locket/locketlaw18.TokenFronts", spec := "tokenFronts", apart := false, narrowed := true }
def TokenFrontsUptoSaid : Prop := tokenFrontsUptoRow.holds Try.pinned (OpenSpec.upto tokenFrontsSpec)

end Rows
end Go.Proofs.Ytafcjcpflkelcab
