/-
  No cell of these rows narrows 'for every input' (looked for: loops, veiled, ifaces, maps, wideKeys, modest, calm, conditions, laid).
  DERIVED. THE GIVEN ROWS OF THIS SEAT. 4 by the template 'for every input the law returns true; each argument reads behind the call as it read before'; 0 by the template 'total and deterministic' (their statements: YtddmodiogjnhmaaTotals.lean).
  GIVEN WITH THE SEED: the statements are not yours to turn. If you find one false, say at which input.
  Laid BY PROGRAM, IN A SANDBOX (cutbox-rows.mjs): the forced cells as the released guide's own fill.sh prints them over the translation 55d4a1e9fcd2c38c… (all of the seat's roots in one cut). By AI agents, Wed Nov 11 2026. No macro, syntax, notation, axiom, sorry.
-/
import Derived.Test.YtddmodiogjnhmaaChecked
import GoSem.Claim
import GoSem.ClaimJoined
import GoSem.ClaimMapViews
import Derived.JoinedTies
import Derived.KernelRfl
namespace Go.Proofs.Ytddmodiogjnhmaa
/- THE CELL 'sum', in the pinned program and in every row, IS THE sha256 OF THE DUMP (.gsa) THAT YtddmodiogjnhmaaProg.lean LOADS. Nothing in Lean hashes anything: it is a label: what it is worth is what the hold of that sum in a sandbox is worth. -/
noncomputable def Try.pinned : Pinned := { name := "ytddmodiogjnhmaa", sum := "55d4a1e9fcd2c38c83c23d8ddc622c44133c9866fa744056ccd2dcd2815853aa", checked := Try.checked }
namespace Rows
def none {H : Type} : Left H := { results := [], args := [] }

/-- 'locketlaw19.PhasePlays': WHATEVER THE INPUT: true; the input reads as it did. -/
def phasePlaysSpec : ChangeSpec := { name := "phasePlays", fn := fun _ => fun
  | [d] => { results := [.lit (.bool true)], args := [d] }
  | _ => none }
def phasePlaysRow : OpenClaim := { program := "ytddmodiogjnhmaa", sum := "55d4a1e9fcd2c38c83c23d8ddc622c44133c9866fa744056ccd2dcd2815853aa", func := "locket/locketlaw19.PhasePlays", spec := "phasePlays", unfollowed := true, recurses := true, plainKeys := false, apart := false }
def PhasePlaysSaid : Prop := phasePlaysRow.holds Try.pinned (OpenSpec.ofChange phasePlaysSpec)

/-- ITS FALSE NEIGHBOUR: 'it returns false'. Refute it at one input. -/
def phasePlaysWrong : ChangeSpec := { name := "phasePlays", fn := fun _ => fun
  | [d] => { results := [.lit (.bool false)], args := [d] }
  | _ => none }
def PhasePlaysWrongFalsely : Prop := phasePlaysRow.holds Try.pinned (OpenSpec.ofChange phasePlaysWrong)

/-- 'locketlaw19.PhaseNext': WHATEVER THE INPUT: true; the input reads as it did. -/
def phaseNextSpec : ChangeSpec := { name := "phaseNext", fn := fun _ => fun
  | [d1, d2, d3] => { results := [.lit (.bool true)], args := [d1, d2, d3] }
  | _ => none }
def phaseNextRow : OpenClaim := { program := "ytddmodiogjnhmaa", sum := "55d4a1e9fcd2c38c83c23d8ddc622c44133c9866fa744056ccd2dcd2815853aa", func := "locket/locketlaw19.PhaseNext", spec := "phaseNext", unfollowed := true, recurses := true, plainKeys := false, apart := false }
def PhaseNextSaid : Prop := phaseNextRow.holds Try.pinned (OpenSpec.ofChange phaseNextSpec)

/-- ITS FALSE NEIGHBOUR: 'it returns false'. Refute it at one input. -/
def phaseNextWrong : ChangeSpec := { name := "phaseNext", fn := fun _ => fun
  | [d1, d2, d3] => { results := [.lit (.bool false)], args := [d1, d2, d3] }
  | _ => none }
def PhaseNextWrongFalsely : Prop := phaseNextRow.holds Try.pinned (OpenSpec.ofChange phaseNextWrong)

/-- 'locketlaw19.PhaseWaits': WHATEVER THE INPUT: true; the input reads as it did. -/
def phaseWaitsSpec : ChangeSpec := { name := "phaseWaits", fn := fun _ => fun
  | [d1, d2] => { results := [.lit (.bool true)], args := [d1, d2] }
  | _ => none }
def phaseWaitsRow : OpenClaim := { program := "ytddmodiogjnhmaa", sum := "55d4a1e9fcd2c38c83c23d8ddc622c44133c9866fa744056ccd2dcd2815853aa", func := "locket/locketlaw19.PhaseWaits", spec := "phaseWaits", unfollowed := true, recurses := true, plainKeys := false, apart := false }
def PhaseWaitsSaid : Prop := phaseWaitsRow.holds Try.pinned (OpenSpec.ofChange phaseWaitsSpec)

/-- ITS FALSE NEIGHBOUR: 'it returns false'. Refute it at one input. -/
def phaseWaitsWrong : ChangeSpec := { name := "phaseWaits", fn := fun _ => fun
  | [d1, d2] => { results := [.lit (.bool false)], args := [d1, d2] }
  | _ => none }
def PhaseWaitsWrongFalsely : Prop := phaseWaitsRow.holds Try.pinned (OpenSpec.ofChange phaseWaitsWrong)

/-- 'locketlaw19.PhaseIdle': WHATEVER THE INPUT: true; the input reads as it did. -/
def phaseIdleSpec : ChangeSpec := { name := "phaseIdle", fn := fun _ => fun
  | [d1, d2] => { results := [.lit (.bool true)], args := [d1, d2] }
  | _ => none }
def phaseIdleRow : OpenClaim := { program := "ytddmodiogjnhmaa", sum := "55d4a1e9fcd2c38c83c23d8ddc622c44133c9866fa744056ccd2dcd2815853aa", func := "locket/locketlaw19.PhaseIdle", spec := "phaseIdle", unfollowed := true, recurses := true, plainKeys := false, apart := false }
def PhaseIdleSaid : Prop := phaseIdleRow.holds Try.pinned (OpenSpec.ofChange phaseIdleSpec)

/-- ITS FALSE NEIGHBOUR: 'it returns false'. Refute it at one input. -/
def phaseIdleWrong : ChangeSpec := { name := "phaseIdle", fn := fun _ => fun
  | [d1, d2] => { results := [.lit (.bool false)], args := [d1, d2] }
  | _ => none }
def PhaseIdleWrongFalsely : Prop := phaseIdleRow.holds Try.pinned (OpenSpec.ofChange phaseIdleWrong)

/- THE SECOND FORM. 'bulk': how many values and letters a reading holds, each counted each time it is reached (what is shared counts as often as it is met; a slice's spare places count too). A statement '..UptoSaid' is the law's where the arguments, and the package variables that the reading takes, are together of bulk at most 1048576: NARROWER than '..Said'. Prove '..Said' where nothing that the law and all that it calls make is longer than what came in: it says more and counts as full. Else prove '..UptoSaid'. A law counts once. -/
mutual
def uptoBulk {H : Type} : DataW H → Nat
  | .lit (.string bytes) => bytes.length + 1
  | .lit _ => 1
  | .nil => 1
  | .ptr d => uptoBulk d + 1
  | .slice elems spare => uptoBulkAll elems + uptoBulkAll spare + 1
  | .agg parts => uptoBulkAll parts + 1
  | .iface _ d => uptoBulk d + 1
  | .map entries => uptoBulkEntries entries + 1
  | .held _ => 1
def uptoBulkAll {H : Type} : List (DataW H) → Nat
  | [] => 0
  | d :: r => uptoBulk d + uptoBulkAll r
def uptoBulkEntries {H : Type} : List (Lit × DataW H) → Nat
  | [] => 0
  | x :: r => uptoBulkEntry x + uptoBulkEntries r
def uptoBulkEntry {H : Type} : Lit × DataW H → Nat
  | (.string bytes, d) => bytes.length + uptoBulk d + 1
  | (_, d) => uptoBulk d + 1
 end
def uptoSmall : (H : Type) → List (DataW H) → Bool := fun _ ds => decide (uptoBulkAll ds ≤ 1048576)
def OpenSpec.upto (s : _root_.Go.ChangeSpec) : _root_.Go.OpenSpec := { _root_.Go.OpenSpec.ofChange s with cond := some uptoSmall }

/-- 'locketlaw19.PhasePlays', WHERE WHAT IT READS IS OF BULK AT MOST 1048576: true; the input reads as it did. -/
def phasePlaysUptoRow : OpenClaim := { program := "ytddmodiogjnhmaa", sum := "55d4a1e9fcd2c38c83c23d8ddc622c44133c9866fa744056ccd2dcd2815853aa", func := "locket/locketlaw19.PhasePlays", spec := "phasePlays", unfollowed := true, recurses := true, plainKeys := false, apart := false, narrowed := true }
def PhasePlaysUptoSaid : Prop := phasePlaysUptoRow.holds Try.pinned (OpenSpec.upto phasePlaysSpec)

/-- 'locketlaw19.PhaseNext', WHERE WHAT IT READS IS OF BULK AT MOST 1048576: true; the input reads as it did. -/
def phaseNextUptoRow : OpenClaim := { program := "ytddmodiogjnhmaa", sum := "55d4a1e9fcd2c38c83c23d8ddc622c44133c9866fa744056ccd2dcd2815853aa", func := "locket/locketlaw19.PhaseNext", spec := "phaseNext", unfollowed := true, recurses := true, plainKeys := false, apart := false, narrowed := true }
def PhaseNextUptoSaid : Prop := phaseNextUptoRow.holds Try.pinned (OpenSpec.upto phaseNextSpec)

/-- 'locketlaw19.PhaseWaits', WHERE WHAT IT READS IS OF BULK AT MOST 1048576: true; the input reads as it did. -/
def phaseWaitsUptoRow : OpenClaim := { program := "ytddmodiogjnhmaa", sum := "55d4a1e9fcd2c38c83c23d8ddc622c44133c9866fa744056ccd2dcd2815853aa", func := "locket/locketlaw19.PhaseWaits", spec := "phaseWaits", unfollowed := true, recurses := true, plainKeys := false, apart := false, narrowed := true }
def PhaseWaitsUptoSaid : Prop := phaseWaitsUptoRow.holds Try.pinned (OpenSpec.upto phaseWaitsSpec)

/-- 'locketlaw19.PhaseIdle', WHERE WHAT IT READS IS OF BULK AT MOST 1048576: true; the input reads as it did. -/
def phaseIdleUptoRow : OpenClaim := { program := "ytddmodiogjnhmaa", sum := "55d4a1e9fcd2c38c83c23d8ddc622c44133c9866fa744056ccd2dcd2815853aa", func := "locket/locketlaw19.PhaseIdle", spec := "phaseIdle", unfollowed := true, recurses := true, plainKeys := false, apart := false, narrowed := true }
def PhaseIdleUptoSaid : Prop := phaseIdleUptoRow.holds Try.pinned (OpenSpec.upto phaseIdleSpec)

end Rows
end Go.Proofs.Ytddmodiogjnhmaa
