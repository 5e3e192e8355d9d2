/-
  No cell of these rows narrows 'for every input' (looked for: loops, veiled, ifaces, maps, wideKeys, modest, calm, conditions, laid).
  DERIVED. THE GIVEN ROWS OF THIS SEAT. 4 by the template 'for every input the law returns true; each argument reads behind the call as it read before'; 0 by the template 'total and deterministic' (their statements: YtnkbopmghekjdaaTotals.lean).
  GIVEN WITH THE SEED: the statements are not yours to turn. If you find one false, say at which input.
  Laid BY PROGRAM, IN A SANDBOX (cutbox-rows.mjs): the forced cells as the released guide's own fill.sh prints them over the translation 75b90b13c02a7681… (all of the seat's roots in one cut). By AI agents, Wed Nov 11 2026. No macro, syntax, notation, axiom, sorry.
-/
import Derived.Test.YtnkbopmghekjdaaChecked
import GoSem.Claim
import GoSem.ClaimJoined
import GoSem.ClaimMapViews
import Derived.JoinedTies
import Derived.KernelRfl
namespace Go.Proofs.Ytnkbopmghekjdaa
/- THE CELL 'sum', in the pinned program and in every row, IS THE sha256 OF THE DUMP (.gsa) THAT YtnkbopmghekjdaaProg.lean LOADS. Nothing in Lean hashes anything: it is a label: what it is worth is what the hold of that sum in a sandbox is worth. -/
noncomputable def Try.pinned : Pinned := { name := "ytnkbopmghekjdaa", sum := "75b90b13c02a76815c914c11b0e353130572950936071e8de4c1284865cb1662", checked := Try.checked }
namespace Rows
def none {H : Type} : Left H := { results := [], args := [] }

/-- 'locketlaw15.RegsPlays': WHATEVER THE INPUT: true; the input reads as it did. -/
def regsPlaysSpec : ChangeSpec := { name := "regsPlays", fn := fun _ => fun
  | [d] => { results := [.lit (.bool true)], args := [d] }
  | _ => none }
def regsPlaysRow : OpenClaim := { program := "ytnkbopmghekjdaa", sum := "75b90b13c02a76815c914c11b0e353130572950936071e8de4c1284865cb1662", func := "locket/locketlaw15.RegsPlays", spec := "regsPlays", unfollowed := true, recurses := true, apart := false }
def RegsPlaysSaid : Prop := regsPlaysRow.holds Try.pinned (OpenSpec.ofChange regsPlaysSpec)

/-- ITS FALSE NEIGHBOUR: 'it returns false'. Refute it at one input. -/
def regsPlaysWrong : ChangeSpec := { name := "regsPlays", fn := fun _ => fun
  | [d] => { results := [.lit (.bool false)], args := [d] }
  | _ => none }
def RegsPlaysWrongFalsely : Prop := regsPlaysRow.holds Try.pinned (OpenSpec.ofChange regsPlaysWrong)

/-- 'locketlaw15.RegsLoads': WHATEVER THE INPUT: true; the input reads as it did. -/
def regsLoadsSpec : ChangeSpec := { name := "regsLoads", fn := fun _ => fun
  | [d] => { results := [.lit (.bool true)], args := [d] }
  | _ => none }
def regsLoadsRow : OpenClaim := { program := "ytnkbopmghekjdaa", sum := "75b90b13c02a76815c914c11b0e353130572950936071e8de4c1284865cb1662", func := "locket/locketlaw15.RegsLoads", spec := "regsLoads", unfollowed := true, recurses := true, apart := false }
def RegsLoadsSaid : Prop := regsLoadsRow.holds Try.pinned (OpenSpec.ofChange regsLoadsSpec)

/-- ITS FALSE NEIGHBOUR: 'it returns false'. Refute it at one input. -/
def regsLoadsWrong : ChangeSpec := { name := "regsLoads", fn := fun _ => fun
  | [d] => { results := [.lit (.bool false)], args := [d] }
  | _ => none }
def RegsLoadsWrongFalsely : Prop := regsLoadsRow.holds Try.pinned (OpenSpec.ofChange regsLoadsWrong)

/-- 'locketlaw15.RegsOnce': WHATEVER THE INPUT: true; the input reads as it did. -/
def regsOnceSpec : ChangeSpec := { name := "regsOnce", fn := fun _ => fun
  | [d1, d2] => { results := [.lit (.bool true)], args := [d1, d2] }
  | _ => none }
def regsOnceRow : OpenClaim := { program := "ytnkbopmghekjdaa", sum := "75b90b13c02a76815c914c11b0e353130572950936071e8de4c1284865cb1662", func := "locket/locketlaw15.RegsOnce", spec := "regsOnce", unfollowed := true, recurses := true, apart := false }
def RegsOnceSaid : Prop := regsOnceRow.holds Try.pinned (OpenSpec.ofChange regsOnceSpec)

/-- ITS FALSE NEIGHBOUR: 'it returns false'. Refute it at one input. -/
def regsOnceWrong : ChangeSpec := { name := "regsOnce", fn := fun _ => fun
  | [d1, d2] => { results := [.lit (.bool false)], args := [d1, d2] }
  | _ => none }
def RegsOnceWrongFalsely : Prop := regsOnceRow.holds Try.pinned (OpenSpec.ofChange regsOnceWrong)

/-- 'locketlaw15.RegsBits': WHATEVER THE INPUT: true; the input reads as it did. -/
def regsBitsSpec : ChangeSpec := { name := "regsBits", fn := fun _ => fun
  | [d1, d2, d3] => { results := [.lit (.bool true)], args := [d1, d2, d3] }
  | _ => none }
def regsBitsRow : OpenClaim := { program := "ytnkbopmghekjdaa", sum := "75b90b13c02a76815c914c11b0e353130572950936071e8de4c1284865cb1662", func := "locket/locketlaw15.RegsBits", spec := "regsBits", unfollowed := true, recurses := true, apart := false }
def RegsBitsSaid : Prop := regsBitsRow.holds Try.pinned (OpenSpec.ofChange regsBitsSpec)

/-- ITS FALSE NEIGHBOUR: 'it returns false'. Refute it at one input. -/
def regsBitsWrong : ChangeSpec := { name := "regsBits", fn := fun _ => fun
  | [d1, d2, d3] => { results := [.lit (.bool false)], args := [d1, d2, d3] }
  | _ => none }
def RegsBitsWrongFalsely : Prop := regsBitsRow.holds Try.pinned (OpenSpec.ofChange regsBitsWrong)

/- THE SECOND FORM. 'bulk': how many values and letters a reading holds, each counted each time it is reached (what is shared counts as often as it is met; a slice's spare places count too). A statement '..UptoSaid' is the law's where the arguments, and the package variables that the reading takes, are together of bulk at most 1048576: NARROWER than '..Said'. Prove '..Said' where nothing that the law and all that it calls make is longer than what came in: it says more and counts as full. Else prove '..UptoSaid'. A law counts once. -/
mutual
def uptoBulk {H : Type} : DataW H → Nat
  | .lit (.string bytes) => bytes.length + 1
  | .lit _ => 1
  | .nil => 1
  | .ptr d => uptoBulk d + 1
  | .slice elems spare => uptoBulkAll elems + uptoBulkAll spare + 1
  | .agg parts => uptoBulkAll parts + 1
  | .iface _ d => uptoBulk d + 1
  | .map entries => uptoBulkEntries entries + 1
  | .held _ => 1
def uptoBulkAll {H : Type} : List (DataW H) → Nat
  | [] => 0
  | d :: r => uptoBulk d + uptoBulkAll r
def uptoBulkEntries {H : Type} : List (Lit × DataW H) → Nat
  | [] => 0
  | x :: r => uptoBulkEntry x + uptoBulkEntries r
def uptoBulkEntry {H : Type} : Lit × DataW H → Nat
  | (.string bytes, d) => bytes.length + uptoBulk d + 1
  | (_, d) => uptoBulk d + 1
 end
def uptoSmall : (H : Type) → List (DataW H) → Bool := fun _ ds => decide (uptoBulkAll ds ≤ 1048576)
def OpenSpec.upto (s : _root_.Go.ChangeSpec) : _root_.Go.OpenSpec := { _root_.Go.OpenSpec.ofChange s with cond := some uptoSmall }

/-- 'locketlaw15.RegsPlays', WHERE WHAT IT READS IS OF BULK AT MOST 1048576: true; the input reads as it did. -/
def regsPlaysUptoRow : OpenClaim := { program := "ytnkbopmghekjdaa", sum := "75b90b13c02a76815c914c11b0e353130572950936071e8de4c1284865cb1662", func := "locket/locketlaw15.RegsPlays", spec := "regsPlays", unfollowed := true, recurses := true, apart := false, narrowed := true }
def RegsPlaysUptoSaid : Prop := regsPlaysUptoRow.holds Try.pinned (OpenSpec.upto regsPlaysSpec)

/-- 'locketlaw15.RegsLoads', WHERE WHAT IT READS IS OF BULK AT MOST 1048576: true; the input reads as it did. -/
def regsLoadsUptoRow : OpenClaim := { program := "ytnkbopmghekjdaa", sum := "75b90b13c02a76815c914c11b0e353130572950936071e8de4c1284865cb1662", func := "locket/locketlaw15.RegsLoads", spec := "regsLoads", unfollowed := true, recurses := true, apart := false, narrowed := true }
def RegsLoadsUptoSaid : Prop := regsLoadsUptoRow.holds Try.pinned (OpenSpec.upto regsLoadsSpec)

/-- 'locketlaw15.RegsOnce', WHERE WHAT IT READS IS OF BULK AT MOST 1048576: true; the input reads as it did. -/
def regsOnceUptoRow : OpenClaim := { program := "ytnkbopmghekjdaa", sum := "75b90b13c02a76815c914c11b0e353130572950936071e8de4c1284865cb1662", func := "locket/locketlaw15.RegsOnce", spec := "regsOnce", unfollowed := true, recurses := true, apart := false, narrowed := true }
def RegsOnceUptoSaid : Prop := regsOnceUptoRow.holds Try.pinned (OpenSpec.upto regsOnceSpec)

/-- 'locketlaw15.RegsBits', WHERE WHAT IT READS IS OF BULK AT MOST 1048576: true; the input reads as it did. -/
def regsBitsUptoRow : OpenClaim := { program := "ytnkbopmghekjdaa", sum := "75b90b13c02a76815c914c11b0e353130572950936071e8de4c1284865cb1662", func := "locket/locketlaw15.RegsBits", spec := "regsBits", unfollowed := true, recurses := true, apart := false, narrowed := true }
def RegsBitsUptoSaid : Prop := regsBitsUptoRow.holds Try.pinned (OpenSpec.upto regsBitsSpec)

end Rows
end Go.Proofs.Ytnkbopmghekjdaa
