/-
  No cell of these rows narrows 'for every input' (looked for: loops, veiled, ifaces, maps, wideKeys, modest, calm, conditions, laid).
  DERIVED. THE GIVEN ROWS OF THIS SEAT. 9 by the template 'for every input the law returns true; each argument reads behind the call as it read before'; 0 by the template 'total and deterministic' (their statements: YtloicicgcdfgnaaTotals.lean).
  GIVEN WITH THE SEED: the statements are not yours to turn. If you find one false, say at which input.
  Laid BY PROGRAM, IN A SANDBOX (cutbox-rows.mjs): the forced cells as the released guide's own fill.sh prints them over the translation 303617775aa7bbb8… (all of the seat's roots in one cut). By AI agents, Wed Nov 11 2026. No macro, syntax, notation, axiom, sorry.
-/
import Derived.Test.YtloicicgcdfgnaaChecked
import GoSem.Claim
import GoSem.ClaimJoined
import GoSem.ClaimMapViews
import Derived.JoinedTies
import Derived.KernelRfl
namespace Go.Proofs.Ytloicicgcdfgnaa
/- THE CELL 'sum', in the pinned program and in every row, IS THE sha256 OF THE DUMP (.gsa) THAT YtloicicgcdfgnaaProg.lean LOADS. Nothing in Lean hashes anything: it is a label: what it is worth is what the hold of that sum in a sandbox is worth. -/
noncomputable def Try.pinned : Pinned := { name := "ytloicicgcdfgnaa", sum := "303617775aa7bbb8f904b2ae1d91db37065e04af48cb10066ff95e919817dd27", checked := Try.checked }
namespace Rows
def none {H : Type} : Left H := { results := [], args := [] }

/-- 'laws.FnNear': WHATEVER THE INPUT: true; the input reads as it did. -/
def fnNearSpec : ChangeSpec := { name := "fnNear", fn := fun _ => fun
  | [d] => { results := [.lit (.bool true)], args := [d] }
  | _ => none }
def fnNearRow : OpenClaim := { program := "ytloicicgcdfgnaa", sum := "303617775aa7bbb8f904b2ae1d91db37065e04af48cb10066ff95e919817dd27", func := "loop.example/g00708/laws.FnNear", spec := "fnNear", unfollowed := true, recurses := true, apart := false }
def FnNearSaid : Prop := fnNearRow.holds Try.pinned (OpenSpec.ofChange fnNearSpec)

/-- ITS FALSE NEIGHBOUR: 'it returns false'. Refute it at one input. -/
def fnNearWrong : ChangeSpec := { name := "fnNear", fn := fun _ => fun
  | [d] => { results := [.lit (.bool false)], args := [d] }
  | _ => none }
def FnNearWrongFalsely : Prop := fnNearRow.holds Try.pinned (OpenSpec.ofChange fnNearWrong)

/-- 'laws.FnPlayed': WHATEVER THE INPUT: true; the input reads as it did. -/
def fnPlayedSpec : ChangeSpec := { name := "fnPlayed", fn := fun _ => fun
  | [d] => { results := [.lit (.bool true)], args := [d] }
  | _ => none }
def fnPlayedRow : OpenClaim := { program := "ytloicicgcdfgnaa", sum := "303617775aa7bbb8f904b2ae1d91db37065e04af48cb10066ff95e919817dd27", func := "loop.example/g00708/laws.FnPlayed", spec := "fnPlayed", unfollowed := true, recurses := true, apart := false }
def FnPlayedSaid : Prop := fnPlayedRow.holds Try.pinned (OpenSpec.ofChange fnPlayedSpec)

/-- ITS FALSE NEIGHBOUR: 'it returns false'. Refute it at one input. -/
def fnPlayedWrong : ChangeSpec := { name := "fnPlayed", fn := fun _ => fun
  | [d] => { results := [.lit (.bool false)], args := [d] }
  | _ => none }
def FnPlayedWrongFalsely : Prop := fnPlayedRow.holds Try.pinned (OpenSpec.ofChange fnPlayedWrong)

/-- 'laws.FnNewWorld': WHATEVER THE INPUT: true; the input reads as it did. -/
def fnNewWorldSpec : ChangeSpec := { name := "fnNewWorld", fn := fun _ => fun
  | [d] => { results := [.lit (.bool true)], args := [d] }
  | _ => none }
def fnNewWorldRow : OpenClaim := { program := "ytloicicgcdfgnaa", sum := "303617775aa7bbb8f904b2ae1d91db37065e04af48cb10066ff95e919817dd27", func := "loop.example/g00708/laws.FnNewWorld", spec := "fnNewWorld", unfollowed := true, recurses := true, apart := false }
def FnNewWorldSaid : Prop := fnNewWorldRow.holds Try.pinned (OpenSpec.ofChange fnNewWorldSpec)

/-- ITS FALSE NEIGHBOUR: 'it returns false'. Refute it at one input. -/
def fnNewWorldWrong : ChangeSpec := { name := "fnNewWorld", fn := fun _ => fun
  | [d] => { results := [.lit (.bool false)], args := [d] }
  | _ => none }
def FnNewWorldWrongFalsely : Prop := fnNewWorldRow.holds Try.pinned (OpenSpec.ofChange fnNewWorldWrong)

/-- 'laws.FnExactUpIn': WHATEVER THE INPUT: true; the input reads as it did. -/
def fnExactUpInSpec : ChangeSpec := { name := "fnExactUpIn", fn := fun _ => fun
  | [d] => { results := [.lit (.bool true)], args := [d] }
  | _ => none }
def fnExactUpInRow : OpenClaim := { program := "ytloicicgcdfgnaa", sum := "303617775aa7bbb8f904b2ae1d91db37065e04af48cb10066ff95e919817dd27", func := "loop.example/g00708/laws.FnExactUpIn", spec := "fnExactUpIn", unfollowed := true, recurses := true, apart := false }
def FnExactUpInSaid : Prop := fnExactUpInRow.holds Try.pinned (OpenSpec.ofChange fnExactUpInSpec)

/-- ITS FALSE NEIGHBOUR: 'it returns false'. Refute it at one input. -/
def fnExactUpInWrong : ChangeSpec := { name := "fnExactUpIn", fn := fun _ => fun
  | [d] => { results := [.lit (.bool false)], args := [d] }
  | _ => none }
def FnExactUpInWrongFalsely : Prop := fnExactUpInRow.holds Try.pinned (OpenSpec.ofChange fnExactUpInWrong)

/-- 'laws.FnExactOffsOf': WHATEVER THE INPUT: true; the input reads as it did. -/
def fnExactOffsOfSpec : ChangeSpec := { name := "fnExactOffsOf", fn := fun _ => fun
  | [d] => { results := [.lit (.bool true)], args := [d] }
  | _ => none }
def fnExactOffsOfRow : OpenClaim := { program := "ytloicicgcdfgnaa", sum := "303617775aa7bbb8f904b2ae1d91db37065e04af48cb10066ff95e919817dd27", func := "loop.example/g00708/laws.FnExactOffsOf", spec := "fnExactOffsOf", unfollowed := true, recurses := true, apart := false }
def FnExactOffsOfSaid : Prop := fnExactOffsOfRow.holds Try.pinned (OpenSpec.ofChange fnExactOffsOfSpec)

/-- ITS FALSE NEIGHBOUR: 'it returns false'. Refute it at one input. -/
def fnExactOffsOfWrong : ChangeSpec := { name := "fnExactOffsOf", fn := fun _ => fun
  | [d] => { results := [.lit (.bool false)], args := [d] }
  | _ => none }
def FnExactOffsOfWrongFalsely : Prop := fnExactOffsOfRow.holds Try.pinned (OpenSpec.ofChange fnExactOffsOfWrong)

/-- 'laws.FnExactSpanOf': WHATEVER THE INPUT: true; the input reads as it did. -/
def fnExactSpanOfSpec : ChangeSpec := { name := "fnExactSpanOf", fn := fun _ => fun
  | [d] => { results := [.lit (.bool true)], args := [d] }
  | _ => none }
def fnExactSpanOfRow : OpenClaim := { program := "ytloicicgcdfgnaa", sum := "303617775aa7bbb8f904b2ae1d91db37065e04af48cb10066ff95e919817dd27", func := "loop.example/g00708/laws.FnExactSpanOf", spec := "fnExactSpanOf", unfollowed := true, recurses := true, apart := false }
def FnExactSpanOfSaid : Prop := fnExactSpanOfRow.holds Try.pinned (OpenSpec.ofChange fnExactSpanOfSpec)

/-- ITS FALSE NEIGHBOUR: 'it returns false'. Refute it at one input. -/
def fnExactSpanOfWrong : ChangeSpec := { name := "fnExactSpanOf", fn := fun _ => fun
  | [d] => { results := [.lit (.bool false)], args := [d] }
  | _ => none }
def FnExactSpanOfWrongFalsely : Prop := fnExactSpanOfRow.holds Try.pinned (OpenSpec.ofChange fnExactSpanOfWrong)

/-- 'laws.FnExactSkewOf': WHATEVER THE INPUT: true; the input reads as it did. -/
def fnExactSkewOfSpec : ChangeSpec := { name := "fnExactSkewOf", fn := fun _ => fun
  | [d] => { results := [.lit (.bool true)], args := [d] }
  | _ => none }
def fnExactSkewOfRow : OpenClaim := { program := "ytloicicgcdfgnaa", sum := "303617775aa7bbb8f904b2ae1d91db37065e04af48cb10066ff95e919817dd27", func := "loop.example/g00708/laws.FnExactSkewOf", spec := "fnExactSkewOf", unfollowed := true, recurses := true, apart := false }
def FnExactSkewOfSaid : Prop := fnExactSkewOfRow.holds Try.pinned (OpenSpec.ofChange fnExactSkewOfSpec)

/-- ITS FALSE NEIGHBOUR: 'it returns false'. Refute it at one input. -/
def fnExactSkewOfWrong : ChangeSpec := { name := "fnExactSkewOf", fn := fun _ => fun
  | [d] => { results := [.lit (.bool false)], args := [d] }
  | _ => none }
def FnExactSkewOfWrongFalsely : Prop := fnExactSkewOfRow.holds Try.pinned (OpenSpec.ofChange fnExactSkewOfWrong)

/-- 'laws.FnExactMiddleSkew': WHATEVER THE INPUT: true; the input reads as it did. -/
def fnExactMiddleSkewSpec : ChangeSpec := { name := "fnExactMiddleSkew", fn := fun _ => fun
  | [d1, d2] => { results := [.lit (.bool true)], args := [d1, d2] }
  | _ => none }
def fnExactMiddleSkewRow : OpenClaim := { program := "ytloicicgcdfgnaa", sum := "303617775aa7bbb8f904b2ae1d91db37065e04af48cb10066ff95e919817dd27", func := "loop.example/g00708/laws.FnExactMiddleSkew", spec := "fnExactMiddleSkew", unfollowed := true, recurses := true, apart := false }
def FnExactMiddleSkewSaid : Prop := fnExactMiddleSkewRow.holds Try.pinned (OpenSpec.ofChange fnExactMiddleSkewSpec)

/-- ITS FALSE NEIGHBOUR: 'it returns false'. Refute it at one input. -/
def fnExactMiddleSkewWrong : ChangeSpec := { name := "fnExactMiddleSkew", fn := fun _ => fun
  | [d1, d2] => { results := [.lit (.bool false)], args := [d1, d2] }
  | _ => none }
def FnExactMiddleSkewWrongFalsely : Prop := fnExactMiddleSkewRow.holds Try.pinned (OpenSpec.ofChange fnExactMiddleSkewWrong)

/-- 'laws.FnExactNearIn': WHATEVER THE INPUT: true; the input reads as it did. -/
def fnExactNearInSpec : ChangeSpec := { name := "fnExactNearIn", fn := fun _ => fun
  | [d] => { results := [.lit (.bool true)], args := [d] }
  | _ => none }
def fnExactNearInRow : OpenClaim := { program := "ytloicicgcdfgnaa", sum := "303617775aa7bbb8f904b2ae1d91db37065e04af48cb10066ff95e919817dd27", func := "loop.example/g00708/laws.FnExactNearIn", spec := "fnExactNearIn", unfollowed := true, recurses := true, apart := false }
def FnExactNearInSaid : Prop := fnExactNearInRow.holds Try.pinned (OpenSpec.ofChange fnExactNearInSpec)

/-- ITS FALSE NEIGHBOUR: 'it returns false'. Refute it at one input. -/
def fnExactNearInWrong : ChangeSpec := { name := "fnExactNearIn", fn := fun _ => fun
  | [d] => { results := [.lit (.bool false)], args := [d] }
  | _ => none }
def FnExactNearInWrongFalsely : Prop := fnExactNearInRow.holds Try.pinned (OpenSpec.ofChange fnExactNearInWrong)

/- THE SECOND FORM. 'bulk': how many values and letters a reading holds, each counted each time it is reached (what is shared counts as often as it is met; a slice's spare places count too). A statement '..UptoSaid' is the law's where the arguments, and the package variables that the reading takes, are together of bulk at most 1048576: NARROWER than '..Said'. Prove '..Said' where nothing that the law and all that it calls make is longer than what came in: it says more and counts as full. Else prove '..UptoSaid'. A law counts once. -/
mutual
def uptoBulk {H : Type} : DataW H → Nat
  | .lit (.string bytes) => bytes.length + 1
  | .lit _ => 1
  | .nil => 1
  | .ptr d => uptoBulk d + 1
  | .slice elems spare => uptoBulkAll elems + uptoBulkAll spare + 1
  | .agg parts => uptoBulkAll parts + 1
  | .iface _ d => uptoBulk d + 1
  | .map entries => uptoBulkEntries entries + 1
  | .held _ => 1
def uptoBulkAll {H : Type} : List (DataW H) → Nat
  | [] => 0
  | d :: r => uptoBulk d + uptoBulkAll r
def uptoBulkEntries {H : Type} : List (Lit × DataW H) → Nat
  | [] => 0
  | x :: r => uptoBulkEntry x + uptoBulkEntries r
def uptoBulkEntry {H : Type} : Lit × DataW H → Nat
  | (.string bytes, d) => bytes.length + uptoBulk d + 1
  | (_, d) => uptoBulk d + 1
 end
def uptoSmall : (H : Type) → List (DataW H) → Bool := fun _ ds => decide (uptoBulkAll ds ≤ 1048576)
def OpenSpec.upto (s : _root_.Go.ChangeSpec) : _root_.Go.OpenSpec := { _root_.Go.OpenSpec.ofChange s with cond := some uptoSmall }

/-- 'laws.FnNear', WHERE WHAT IT READS IS OF BULK AT MOST 1048576: true; the input reads as it did. -/
def fnNearUptoRow : OpenClaim := { program := "ytloicicgcdfgnaa", sum := "303617775aa7bbb8f904b2ae1d91db37065e04af48cb10066ff95e919817dd27", func := "loop.example/g00708/laws.FnNear", spec := "fnNear", unfollowed := true, recurses := true, apart := false, narrowed := true }
def FnNearUptoSaid : Prop := fnNearUptoRow.holds Try.pinned (OpenSpec.upto fnNearSpec)

/-- 'laws.FnPlayed', WHERE WHAT IT READS IS OF BULK AT MOST 1048576: true; the input reads as it did. -/
def fnPlayedUptoRow : OpenClaim := { program := "ytloicicgcdfgnaa", sum := "303617775aa7bbb8f904b2ae1d91db37065e04af48cb10066ff95e919817dd27", func := "loop.example/g00708/laws.FnPlayed", spec := "fnPlayed", unfollowed := true, recurses := true, apart := false, narrowed := true }
def FnPlayedUptoSaid : Prop := fnPlayedUptoRow.holds Try.pinned (OpenSpec.upto fnPlayedSpec)

/-- 'laws.FnNewWorld', WHERE WHAT IT READS IS OF BULK AT MOST 1048576: true; the input reads as it did. -/
def fnNewWorldUptoRow : OpenClaim := { program := "ytloicicgcdfgnaa", sum := "303617775aa7bbb8f904b2ae1d91db37065e04af48cb10066ff95e919817dd27", func := "loop.example/g00708/laws.FnNewWorld", spec := "fnNewWorld", unfollowed := true, recurses := true, apart := false, narrowed := true }
def FnNewWorldUptoSaid : Prop := fnNewWorldUptoRow.holds Try.pinned (OpenSpec.upto fnNewWorldSpec)

/-- 'laws.FnExactUpIn', WHERE WHAT IT READS IS OF BULK AT MOST 1048576: true; the input reads as it did. -/
def fnExactUpInUptoRow : OpenClaim := { program := "ytloicicgcdfgnaa", sum := "303617775aa7bbb8f904b2ae1d91db37065e04af48cb10066ff95e919817dd27", func := "loop.example/g00708/laws.FnExactUpIn", spec := "fnExactUpIn", unfollowed := true, recurses := true, apart := false, narrowed := true }
def FnExactUpInUptoSaid : Prop := fnExactUpInUptoRow.holds Try.pinned (OpenSpec.upto fnExactUpInSpec)

/-- 'laws.FnExactOffsOf', WHERE WHAT IT READS IS OF BULK AT MOST 1048576: true; the input reads as it did. -/
def fnExactOffsOfUptoRow : OpenClaim := { program := "ytloicicgcdfgnaa", sum := "303617775aa7bbb8f904b2ae1d91db37065e04af48cb10066ff95e919817dd27", func := "loop.example/g00708/laws.FnExactOffsOf", spec := "fnExactOffsOf", unfollowed := true, recurses := true, apart := false, narrowed := true }
def FnExactOffsOfUptoSaid : Prop := fnExactOffsOfUptoRow.holds Try.pinned (OpenSpec.upto fnExactOffsOfSpec)

/-- 'laws.FnExactSpanOf', WHERE WHAT IT READS IS OF BULK AT MOST 1048576: true; the input reads as it did. -/
def fnExactSpanOfUptoRow : OpenClaim := { program := "ytloicicgcdfgnaa", sum := "303617775aa7bbb8f904b2ae1d91db37065e04af48cb10066ff95e919817dd27", func := "loop.example/g00708/laws.FnExactSpanOf", spec := "fnExactSpanOf", unfollowed := true, recurses := true, apart := false, narrowed := true }
def FnExactSpanOfUptoSaid : Prop := fnExactSpanOfUptoRow.holds Try.pinned (OpenSpec.upto fnExactSpanOfSpec)

/-- 'laws.FnExactSkewOf', WHERE WHAT IT READS IS OF BULK AT MOST 1048576: true; the input reads as it did. -/
def fnExactSkewOfUptoRow : OpenClaim := { program := "ytloicicgcdfgnaa", sum := "303617775aa7bbb8f904b2ae1d91db37065e04af48cb10066ff95e919817dd27", func := "loop.example/g00708/laws.FnExactSkewOf", spec := "fnExactSkewOf", unfollowed := true, recurses := true, apart := false, narrowed := true }
def FnExactSkewOfUptoSaid : Prop := fnExactSkewOfUptoRow.holds Try.pinned (OpenSpec.upto fnExactSkewOfSpec)

/-- 'laws.FnExactMiddleSkew', WHERE WHAT IT READS IS OF BULK AT MOST 1048576: true; the input reads as it did. -/
def fnExactMiddleSkewUptoRow : OpenClaim := { program := "ytloicicgcdfgnaa", sum := "303617775aa7bbb8f904b2ae1d91db37065e04af48cb10066ff95e919817dd27", func := "loop.example/g00708/laws.FnExactMiddleSkew", spec := "fnExactMiddleSkew", unfollowed := true, recurses := true, apart := false, narrowed := true }
def FnExactMiddleSkewUptoSaid : Prop := fnExactMiddleSkewUptoRow.holds Try.pinned (OpenSpec.upto fnExactMiddleSkewSpec)

/-- 'laws.FnExactNearIn', WHERE WHAT IT READS IS OF BULK AT MOST 1048576: true; the input reads as it did. -/
def fnExactNearInUptoRow : OpenClaim := { program := "ytloicicgcdfgnaa", sum := "303617775aa7bbb8f904b2ae1d91db37065e04af48cb10066ff95e919817dd27", func := "loop.example/g00708/laws.FnExactNearIn", spec := "fnExactNearIn", unfollowed := true, recurses := true, apart := false, narrowed := true }
def FnExactNearInUptoSaid : Prop := fnExactNearInUptoRow.holds Try.pinned (OpenSpec.upto fnExactNearInSpec)

end Rows
end Go.Proofs.Ytloicicgcdfgnaa
