/-
  No cell of these rows narrows 'for every input' (looked for: loops, veiled, ifaces, maps, wideKeys, modest, calm, conditions, laid).
  DERIVED. THE GIVEN ROWS OF THIS SEAT. 4 by the template 'for every input the law returns true; each argument reads behind the call as it read before'; 0 by the template 'total and deterministic' (their statements: YtnocmfhlmpgbmaaTotals.lean).
  GIVEN WITH THE SEED: the statements are not yours to turn. If you find one false, say at which input.
  Laid BY PROGRAM, IN A SANDBOX (cutbox-rows.mjs): the forced cells as the released guide's own fill.sh prints them over the translation d2d8f4bf8582e321… (all of the seat's roots in one cut). By AI agents, Wed Nov 11 2026. No macro, syntax, notation, axiom, sorry.
-/
import Derived.Test.YtnocmfhlmpgbmaaChecked
import GoSem.Claim
import GoSem.ClaimJoined
import GoSem.ClaimMapViews
import Derived.JoinedTies
import Derived.KernelRfl
namespace Go.Proofs.Ytnocmfhlmpgbmaa
/- THE CELL 'sum', in the pinned program and in every row, IS THE sha256 OF THE DUMP (.gsa) THAT YtnocmfhlmpgbmaaProg.lean LOADS. Nothing in Lean hashes anything: it is a label: what it is worth is what the hold of that sum in a sandbox is worth. -/
noncomputable def Try.pinned : Pinned := { name := "ytnocmfhlmpgbmaa", sum := "d2d8f4bf8582e321593eed8fe5f9216c3301d0176add70cce07e86656f91e2cc", checked := Try.checked }
namespace Rows
def none {H : Type} : Left H := { results := [], args := [] }

/-- 'laws.FnGuesses': WHATEVER THE INPUT: true; the input reads as it did. -/
def fnGuessesSpec : ChangeSpec := { name := "fnGuesses", fn := fun _ => fun
  | [d] => { results := [.lit (.bool true)], args := [d] }
  | _ => none }
def fnGuessesRow : OpenClaim := { program := "ytnocmfhlmpgbmaa", sum := "d2d8f4bf8582e321593eed8fe5f9216c3301d0176add70cce07e86656f91e2cc", func := "loop.example/g00708/laws.FnGuesses", spec := "fnGuesses", unfollowed := true, recurses := true, apart := false }
def FnGuessesSaid : Prop := fnGuessesRow.holds Try.pinned (OpenSpec.ofChange fnGuessesSpec)

/-- ITS FALSE NEIGHBOUR: 'it returns false'. Refute it at one input. -/
def fnGuessesWrong : ChangeSpec := { name := "fnGuesses", fn := fun _ => fun
  | [d] => { results := [.lit (.bool false)], args := [d] }
  | _ => none }
def FnGuessesWrongFalsely : Prop := fnGuessesRow.holds Try.pinned (OpenSpec.ofChange fnGuessesWrong)

/-- 'laws.FnExactTurnOk': WHATEVER THE INPUT: true; the input reads as it did. -/
def fnExactTurnOkSpec : ChangeSpec := { name := "fnExactTurnOk", fn := fun _ => fun
  | [d1, d2] => { results := [.lit (.bool true)], args := [d1, d2] }
  | _ => none }
def fnExactTurnOkRow : OpenClaim := { program := "ytnocmfhlmpgbmaa", sum := "d2d8f4bf8582e321593eed8fe5f9216c3301d0176add70cce07e86656f91e2cc", func := "loop.example/g00708/laws.FnExactTurnOk", spec := "fnExactTurnOk", unfollowed := true, recurses := true, apart := false }
def FnExactTurnOkSaid : Prop := fnExactTurnOkRow.holds Try.pinned (OpenSpec.ofChange fnExactTurnOkSpec)

/-- ITS FALSE NEIGHBOUR: 'it returns false'. Refute it at one input. -/
def fnExactTurnOkWrong : ChangeSpec := { name := "fnExactTurnOk", fn := fun _ => fun
  | [d1, d2] => { results := [.lit (.bool false)], args := [d1, d2] }
  | _ => none }
def FnExactTurnOkWrongFalsely : Prop := fnExactTurnOkRow.holds Try.pinned (OpenSpec.ofChange fnExactTurnOkWrong)

/-- 'laws.FnExactGuessesOf': WHATEVER THE INPUT: true; the input reads as it did. -/
def fnExactGuessesOfSpec : ChangeSpec := { name := "fnExactGuessesOf", fn := fun _ => fun
  | [d1, d2, d3] => { results := [.lit (.bool true)], args := [d1, d2, d3] }
  | _ => none }
def fnExactGuessesOfRow : OpenClaim := { program := "ytnocmfhlmpgbmaa", sum := "d2d8f4bf8582e321593eed8fe5f9216c3301d0176add70cce07e86656f91e2cc", func := "loop.example/g00708/laws.FnExactGuessesOf", spec := "fnExactGuessesOf", unfollowed := true, recurses := true, apart := false }
def FnExactGuessesOfSaid : Prop := fnExactGuessesOfRow.holds Try.pinned (OpenSpec.ofChange fnExactGuessesOfSpec)

/-- ITS FALSE NEIGHBOUR: 'it returns false'. Refute it at one input. -/
def fnExactGuessesOfWrong : ChangeSpec := { name := "fnExactGuessesOf", fn := fun _ => fun
  | [d1, d2, d3] => { results := [.lit (.bool false)], args := [d1, d2, d3] }
  | _ => none }
def FnExactGuessesOfWrongFalsely : Prop := fnExactGuessesOfRow.holds Try.pinned (OpenSpec.ofChange fnExactGuessesOfWrong)

/-- 'laws.FnExactCorrectionOf': WHATEVER THE INPUT: true; the input reads as it did. -/
def fnExactCorrectionOfSpec : ChangeSpec := { name := "fnExactCorrectionOf", fn := fun _ => fun
  | [d1, d2, d3] => { results := [.lit (.bool true)], args := [d1, d2, d3] }
  | _ => none }
def fnExactCorrectionOfRow : OpenClaim := { program := "ytnocmfhlmpgbmaa", sum := "d2d8f4bf8582e321593eed8fe5f9216c3301d0176add70cce07e86656f91e2cc", func := "loop.example/g00708/laws.FnExactCorrectionOf", spec := "fnExactCorrectionOf", unfollowed := true, recurses := true, apart := false }
def FnExactCorrectionOfSaid : Prop := fnExactCorrectionOfRow.holds Try.pinned (OpenSpec.ofChange fnExactCorrectionOfSpec)

/-- ITS FALSE NEIGHBOUR: 'it returns false'. Refute it at one input. -/
def fnExactCorrectionOfWrong : ChangeSpec := { name := "fnExactCorrectionOf", fn := fun _ => fun
  | [d1, d2, d3] => { results := [.lit (.bool false)], args := [d1, d2, d3] }
  | _ => none }
def FnExactCorrectionOfWrongFalsely : Prop := fnExactCorrectionOfRow.holds Try.pinned (OpenSpec.ofChange fnExactCorrectionOfWrong)

/- THE SECOND FORM. 'bulk': how many values and letters a reading holds, each counted each time it is reached (what is shared counts as often as it is met; a slice's spare places count too). A statement '..UptoSaid' is the law's where the arguments, and the package variables that the reading takes, are together of bulk at most 1048576: NARROWER than '..Said'. Prove '..Said' where nothing that the law and all that it calls make is longer than what came in: it says more and counts as full. Else prove '..UptoSaid'. A law counts once. -/
mutual
def uptoBulk {H : Type} : DataW H → Nat
  | .lit (.string bytes) => bytes.length + 1
  | .lit _ => 1
  | .nil => 1
  | .ptr d => uptoBulk d + 1
  | .slice elems spare => uptoBulkAll elems + uptoBulkAll spare + 1
  | .agg parts => uptoBulkAll parts + 1
  | .iface _ d => uptoBulk d + 1
  | .map entries => uptoBulkEntries entries + 1
  | .held _ => 1
def uptoBulkAll {H : Type} : List (DataW H) → Nat
  | [] => 0
  | d :: r => uptoBulk d + uptoBulkAll r
def uptoBulkEntries {H : Type} : List (Lit × DataW H) → Nat
  | [] => 0
  | x :: r => uptoBulkEntry x + uptoBulkEntries r
def uptoBulkEntry {H : Type} : Lit × DataW H → Nat
  | (.string bytes, d) => bytes.length + uptoBulk d + 1
  | (_, d) => uptoBulk d + 1
 end
def uptoSmall : (H : Type) → List (DataW H) → Bool := fun _ ds => decide (uptoBulkAll ds ≤ 1048576)
def OpenSpec.upto (s : _root_.Go.ChangeSpec) : _root_.Go.OpenSpec := { _root_.Go.OpenSpec.ofChange s with cond := some uptoSmall }

/-- 'laws.FnGuesses', WHERE WHAT IT READS IS OF BULK AT MOST 1048576: true; the input reads as it did. -/
def fnGuessesUptoRow : OpenClaim := { program := "ytnocmfhlmpgbmaa", sum := "d2d8f4bf8582e321593eed8fe5f9216c3301d0176add70cce07e86656f91e2cc", func := "loop.example/g00708/laws.FnGuesses", spec := "fnGuesses", unfollowed := true, recurses := true, apart := false, narrowed := true }
def FnGuessesUptoSaid : Prop := fnGuessesUptoRow.holds Try.pinned (OpenSpec.upto fnGuessesSpec)

/-- 'laws.FnExactTurnOk', WHERE WHAT IT READS IS OF BULK AT MOST 1048576: true; the input reads as it did. -/
def fnExactTurnOkUptoRow : OpenClaim := { program := "ytnocmfhlmpgbmaa", sum := "d2d8f4bf8582e321593eed8fe5f9216c3301d0176add70cce07e86656f91e2cc", func := "loop.example/g00708/laws.FnExactTurnOk", spec := "fnExactTurnOk", unfollowed := true, recurses := true, apart := false, narrowed := true }
def FnExactTurnOkUptoSaid : Prop := fnExactTurnOkUptoRow.holds Try.pinned (OpenSpec.upto fnExactTurnOkSpec)

/-- 'laws.FnExactGuessesOf', WHERE WHAT IT READS IS OF BULK AT MOST 1048576: true; the input reads as it did. -/
def fnExactGuessesOfUptoRow : OpenClaim := { program := "ytnocmfhlmpgbmaa", sum := "d2d8f4bf8582e321593eed8fe5f9216c3301d0176add70cce07e86656f91e2cc", func := "loop.example/g00708/laws.FnExactGuessesOf", spec := "fnExactGuessesOf", unfollowed := true, recurses := true, apart := false, narrowed := true }
def FnExactGuessesOfUptoSaid : Prop := fnExactGuessesOfUptoRow.holds Try.pinned (OpenSpec.upto fnExactGuessesOfSpec)

/-- 'laws.FnExactCorrectionOf', WHERE WHAT IT READS IS OF BULK AT MOST 1048576: true; the input reads as it did. -/
def fnExactCorrectionOfUptoRow : OpenClaim := { program := "ytnocmfhlmpgbmaa", sum := "d2d8f4bf8582e321593eed8fe5f9216c3301d0176add70cce07e86656f91e2cc", func := "loop.example/g00708/laws.FnExactCorrectionOf", spec := "fnExactCorrectionOf", unfollowed := true, recurses := true, apart := false, narrowed := true }
def FnExactCorrectionOfUptoSaid : Prop := fnExactCorrectionOfUptoRow.holds Try.pinned (OpenSpec.upto fnExactCorrectionOfSpec)

end Rows
end Go.Proofs.Ytnocmfhlmpgbmaa
