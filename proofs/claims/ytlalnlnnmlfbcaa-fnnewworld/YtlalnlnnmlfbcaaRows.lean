/-
  No cell of these rows narrows 'for every input' (looked for: loops, veiled, ifaces, maps, wideKeys, modest, calm, conditions, laid).
  DERIVED. THE GIVEN ROWS OF THIS SEAT. 6 by the template 'for every input the law returns true; each argument reads behind the call as it read before'; 0 by the template 'total and deterministic' (their statements: YtlalnlnnmlfbcaaTotals.lean).
  GIVEN WITH THE SEED: the statements are not yours to turn. If you find one false, say at which input.
  Laid BY PROGRAM, IN A SANDBOX (cutbox-rows.mjs): the forced cells as the released guide's own fill.sh prints them over the translation 1b543ad9d92824f5… (all of the seat's roots in one cut). By AI agents, Wed Nov 11 2026. No macro, syntax, notation, axiom, sorry.
-/
import Derived.Test.YtlalnlnnmlfbcaaChecked
import GoSem.Claim
import GoSem.ClaimJoined
import GoSem.ClaimMapViews
import Derived.JoinedTies
import Derived.KernelRfl
namespace Go.Proofs.Ytlalnlnnmlfbcaa
/- THE CELL 'sum', in the pinned program and in every row, IS THE sha256 OF THE DUMP (.gsa) THAT YtlalnlnnmlfbcaaProg.lean LOADS. Nothing in Lean hashes anything: it is a label: what it is worth is what the hold of that sum in a sandbox is worth. -/
noncomputable def Try.pinned : Pinned := { name := "ytlalnlnnmlfbcaa", sum := "1b543ad9d92824f546426eb372807dc2288c5cb03b509f9d008fd0dff71e3bbb", checked := Try.checked }
namespace Rows
def none {H : Type} : Left H := { results := [], args := [] }

/-- 'laws.FnNewWorld': WHATEVER THE INPUT: true; the input reads as it did. -/
def fnNewWorldSpec : ChangeSpec := { name := "fnNewWorld", fn := fun _ => fun
  | [d] => { results := [.lit (.bool true)], args := [d] }
  | _ => none }
def fnNewWorldRow : OpenClaim := { program := "ytlalnlnnmlfbcaa", sum := "1b543ad9d92824f546426eb372807dc2288c5cb03b509f9d008fd0dff71e3bbb", func := "loop.example/g00708/laws.FnNewWorld", spec := "fnNewWorld", unfollowed := true, recurses := true, apart := false }
def FnNewWorldSaid : Prop := fnNewWorldRow.holds Try.pinned (OpenSpec.ofChange fnNewWorldSpec)

/-- ITS FALSE NEIGHBOUR: 'it returns false'. Refute it at one input. -/
def fnNewWorldWrong : ChangeSpec := { name := "fnNewWorld", fn := fun _ => fun
  | [d] => { results := [.lit (.bool false)], args := [d] }
  | _ => none }
def FnNewWorldWrongFalsely : Prop := fnNewWorldRow.holds Try.pinned (OpenSpec.ofChange fnNewWorldWrong)

/-- 'laws.FnExactWorldOk': WHATEVER THE INPUT: true; the input reads as it did. -/
def fnExactWorldOkSpec : ChangeSpec := { name := "fnExactWorldOk", fn := fun _ => fun
  | [d] => { results := [.lit (.bool true)], args := [d] }
  | _ => none }
def fnExactWorldOkRow : OpenClaim := { program := "ytlalnlnnmlfbcaa", sum := "1b543ad9d92824f546426eb372807dc2288c5cb03b509f9d008fd0dff71e3bbb", func := "loop.example/g00708/laws.FnExactWorldOk", spec := "fnExactWorldOk", unfollowed := true, recurses := true, apart := false }
def FnExactWorldOkSaid : Prop := fnExactWorldOkRow.holds Try.pinned (OpenSpec.ofChange fnExactWorldOkSpec)

/-- ITS FALSE NEIGHBOUR: 'it returns false'. Refute it at one input. -/
def fnExactWorldOkWrong : ChangeSpec := { name := "fnExactWorldOk", fn := fun _ => fun
  | [d] => { results := [.lit (.bool false)], args := [d] }
  | _ => none }
def FnExactWorldOkWrongFalsely : Prop := fnExactWorldOkRow.holds Try.pinned (OpenSpec.ofChange fnExactWorldOkWrong)

/-- 'laws.FnExactNewWorld': WHATEVER THE INPUT: true; the input reads as it did. -/
def fnExactNewWorldSpec : ChangeSpec := { name := "fnExactNewWorld", fn := fun _ => fun
  | [d1, d2, d3] => { results := [.lit (.bool true)], args := [d1, d2, d3] }
  | _ => none }
def fnExactNewWorldRow : OpenClaim := { program := "ytlalnlnnmlfbcaa", sum := "1b543ad9d92824f546426eb372807dc2288c5cb03b509f9d008fd0dff71e3bbb", func := "loop.example/g00708/laws.FnExactNewWorld", spec := "fnExactNewWorld", unfollowed := true, recurses := true, apart := false }
def FnExactNewWorldSaid : Prop := fnExactNewWorldRow.holds Try.pinned (OpenSpec.ofChange fnExactNewWorldSpec)

/-- ITS FALSE NEIGHBOUR: 'it returns false'. Refute it at one input. -/
def fnExactNewWorldWrong : ChangeSpec := { name := "fnExactNewWorld", fn := fun _ => fun
  | [d1, d2, d3] => { results := [.lit (.bool false)], args := [d1, d2, d3] }
  | _ => none }
def FnExactNewWorldWrongFalsely : Prop := fnExactNewWorldRow.holds Try.pinned (OpenSpec.ofChange fnExactNewWorldWrong)

/-- 'laws.FnExactUpIn': WHATEVER THE INPUT: true; the input reads as it did. -/
def fnExactUpInSpec : ChangeSpec := { name := "fnExactUpIn", fn := fun _ => fun
  | [d] => { results := [.lit (.bool true)], args := [d] }
  | _ => none }
def fnExactUpInRow : OpenClaim := { program := "ytlalnlnnmlfbcaa", sum := "1b543ad9d92824f546426eb372807dc2288c5cb03b509f9d008fd0dff71e3bbb", func := "loop.example/g00708/laws.FnExactUpIn", spec := "fnExactUpIn", unfollowed := true, recurses := true, apart := false }
def FnExactUpInSaid : Prop := fnExactUpInRow.holds Try.pinned (OpenSpec.ofChange fnExactUpInSpec)

/-- ITS FALSE NEIGHBOUR: 'it returns false'. Refute it at one input. -/
def fnExactUpInWrong : ChangeSpec := { name := "fnExactUpIn", fn := fun _ => fun
  | [d] => { results := [.lit (.bool false)], args := [d] }
  | _ => none }
def FnExactUpInWrongFalsely : Prop := fnExactUpInRow.holds Try.pinned (OpenSpec.ofChange fnExactUpInWrong)

/-- 'laws.FnExactOffsOf': WHATEVER THE INPUT: true; the input reads as it did. -/
def fnExactOffsOfSpec : ChangeSpec := { name := "fnExactOffsOf", fn := fun _ => fun
  | [d] => { results := [.lit (.bool true)], args := [d] }
  | _ => none }
def fnExactOffsOfRow : OpenClaim := { program := "ytlalnlnnmlfbcaa", sum := "1b543ad9d92824f546426eb372807dc2288c5cb03b509f9d008fd0dff71e3bbb", func := "loop.example/g00708/laws.FnExactOffsOf", spec := "fnExactOffsOf", unfollowed := true, recurses := true, apart := false }
def FnExactOffsOfSaid : Prop := fnExactOffsOfRow.holds Try.pinned (OpenSpec.ofChange fnExactOffsOfSpec)

/-- ITS FALSE NEIGHBOUR: 'it returns false'. Refute it at one input. -/
def fnExactOffsOfWrong : ChangeSpec := { name := "fnExactOffsOf", fn := fun _ => fun
  | [d] => { results := [.lit (.bool false)], args := [d] }
  | _ => none }
def FnExactOffsOfWrongFalsely : Prop := fnExactOffsOfRow.holds Try.pinned (OpenSpec.ofChange fnExactOffsOfWrong)

/-- 'laws.FnExactSpanOf': WHATEVER THE INPUT: true; the input reads as it did. -/
def fnExactSpanOfSpec : ChangeSpec := { name := "fnExactSpanOf", fn := fun _ => fun
  | [d] => { results := [.lit (.bool true)], args := [d] }
  | _ => none }
def fnExactSpanOfRow : OpenClaim := { program := "ytlalnlnnmlfbcaa", sum := "1b543ad9d92824f546426eb372807dc2288c5cb03b509f9d008fd0dff71e3bbb", func := "loop.example/g00708/laws.FnExactSpanOf", spec := "fnExactSpanOf", unfollowed := true, recurses := true, apart := false }
def FnExactSpanOfSaid : Prop := fnExactSpanOfRow.holds Try.pinned (OpenSpec.ofChange fnExactSpanOfSpec)

/-- ITS FALSE NEIGHBOUR: 'it returns false'. Refute it at one input. -/
def fnExactSpanOfWrong : ChangeSpec := { name := "fnExactSpanOf", fn := fun _ => fun
  | [d] => { results := [.lit (.bool false)], args := [d] }
  | _ => none }
def FnExactSpanOfWrongFalsely : Prop := fnExactSpanOfRow.holds Try.pinned (OpenSpec.ofChange fnExactSpanOfWrong)

/- THE SECOND FORM. 'bulk': how many values and letters a reading holds, each counted each time it is reached (what is shared counts as often as it is met; a slice's spare places count too). A statement '..UptoSaid' is the law's where the arguments, and the package variables that the reading takes, are together of bulk at most 1048576: NARROWER than '..Said'. Prove '..Said' where nothing that the law and all that it calls make is longer than what came in: it says more and counts as full. Else prove '..UptoSaid'. A law counts once. -/
mutual
def uptoBulk {H : Type} : DataW H → Nat
  | .lit (.string bytes) => bytes.length + 1
  | .lit _ => 1
  | .nil => 1
  | .ptr d => uptoBulk d + 1
  | .slice elems spare => uptoBulkAll elems + uptoBulkAll spare + 1
  | .agg parts => uptoBulkAll parts + 1
  | .iface _ d => uptoBulk d + 1
  | .map entries => uptoBulkEntries entries + 1
  | .held _ => 1
def uptoBulkAll {H : Type} : List (DataW H) → Nat
  | [] => 0
  | d :: r => uptoBulk d + uptoBulkAll r
def uptoBulkEntries {H : Type} : List (Lit × DataW H) → Nat
  | [] => 0
  | x :: r => uptoBulkEntry x + uptoBulkEntries r
def uptoBulkEntry {H : Type} : Lit × DataW H → Nat
  | (.string bytes, d) => bytes.length + uptoBulk d + 1
  | (_, d) => uptoBulk d + 1
 end
def uptoSmall : (H : Type) → List (DataW H) → Bool := fun _ ds => decide (uptoBulkAll ds ≤ 1048576)
def OpenSpec.upto (s : _root_.Go.ChangeSpec) : _root_.Go.OpenSpec := { _root_.Go.OpenSpec.ofChange s with cond := some uptoSmall }

/-- 'laws.FnNewWorld', WHERE WHAT IT READS IS OF BULK AT MOST 1048576: true; the input reads as it did. -/
def fnNewWorldUptoRow : OpenClaim := { program := "ytlalnlnnmlfbcaa", sum := "1b543ad9d92824f546426eb372807dc2288c5cb03b509f9d008fd0dff71e3bbb", func := "loop.example/g00708/laws.FnNewWorld", spec := "fnNewWorld", unfollowed := true, recurses := true, apart := false, narrowed := true }
def FnNewWorldUptoSaid : Prop := fnNewWorldUptoRow.holds Try.pinned (OpenSpec.upto fnNewWorldSpec)

/-- 'laws.FnExactWorldOk', WHERE WHAT IT READS IS OF BULK AT MOST 1048576: true; the input reads as it did. -/
def fnExactWorldOkUptoRow : OpenClaim := { program := "ytlalnlnnmlfbcaa", sum := "1b543ad9d92824f546426eb372807dc2288c5cb03b509f9d008fd0dff71e3bbb", func := "loop.example/g00708/laws.FnExactWorldOk", spec := "fnExactWorldOk", unfollowed := true, recurses := true, apart := false, narrowed := true }
def FnExactWorldOkUptoSaid : Prop := fnExactWorldOkUptoRow.holds Try.pinned (OpenSpec.upto fnExactWorldOkSpec)

/-- 'laws.FnExactNewWorld', WHERE WHAT IT READS IS OF BULK AT MOST 1048576: true; the input reads as it did. -/
def fnExactNewWorldUptoRow : OpenClaim := { program := "ytlalnlnnmlfbcaa", sum := "1b543ad9d92824f546426eb372807dc2288c5cb03b509f9d008fd0dff71e3bbb", func := "loop.example/g00708/laws.FnExactNewWorld", spec := "fnExactNewWorld", unfollowed := true, recurses := true, apart := false, narrowed := true }
def FnExactNewWorldUptoSaid : Prop := fnExactNewWorldUptoRow.holds Try.pinned (OpenSpec.upto fnExactNewWorldSpec)

/-- 'laws.FnExactUpIn', WHERE WHAT IT READS IS OF BULK AT MOST 1048576: true; the input reads as it did. -/
def fnExactUpInUptoRow : OpenClaim := { program := "ytlalnlnnmlfbcaa", sum := "1b543ad9d92824f546426eb372807dc2288c5cb03b509f9d008fd0dff71e3bbb", func := "loop.example/g00708/laws.FnExactUpIn", spec := "fnExactUpIn", unfollowed := true, recurses := true, apart := false, narrowed := true }
def FnExactUpInUptoSaid : Prop := fnExactUpInUptoRow.holds Try.pinned (OpenSpec.upto fnExactUpInSpec)

/-- 'laws.FnExactOffsOf', WHERE WHAT IT READS IS OF BULK AT MOST 1048576: true; the input reads as it did. -/
def fnExactOffsOfUptoRow : OpenClaim := { program := "ytlalnlnnmlfbcaa", sum := "1b543ad9d92824f546426eb372807dc2288c5cb03b509f9d008fd0dff71e3bbb", func := "loop.example/g00708/laws.FnExactOffsOf", spec := "fnExactOffsOf", unfollowed := true, recurses := true, apart := false, narrowed := true }
def FnExactOffsOfUptoSaid : Prop := fnExactOffsOfUptoRow.holds Try.pinned (OpenSpec.upto fnExactOffsOfSpec)

/-- 'laws.FnExactSpanOf', WHERE WHAT IT READS IS OF BULK AT MOST 1048576: true; the input reads as it did. -/
def fnExactSpanOfUptoRow : OpenClaim := { program := "ytlalnlnnmlfbcaa", sum := "1b543ad9d92824f546426eb372807dc2288c5cb03b509f9d008fd0dff71e3bbb", func := "loop.example/g00708/laws.FnExactSpanOf", spec := "fnExactSpanOf", unfollowed := true, recurses := true, apart := false, narrowed := true }
def FnExactSpanOfUptoSaid : Prop := fnExactSpanOfUptoRow.holds Try.pinned (OpenSpec.upto fnExactSpanOfSpec)

end Rows
end Go.Proofs.Ytlalnlnnmlfbcaa
