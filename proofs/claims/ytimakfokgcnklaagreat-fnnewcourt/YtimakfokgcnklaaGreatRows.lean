/-
  No cell of these rows narrows 'for every input' (looked for: loops, veiled, ifaces, maps, wideKeys, modest, calm, conditions, laid).
  DERIVED. THE GIVEN ROWS OF THIS SEAT. 5 by the template 'for every input the law returns true; each argument reads behind the call as it read before'; 0 by the template 'total and deterministic' (their statements: YtimakfokgcnklaaGreatTotals.lean).
  GIVEN WITH THE SEED: the statements are not yours to turn. If you find one false, say at which input.
  Laid BY PROGRAM, IN A SANDBOX (cutbox-rows.mjs): the forced cells as the released guide's own fill.sh prints them over the translation cb2121b553f8ca42… (all of the seat's roots in one cut). By AI agents, Wed Nov 11 2026. No macro, syntax, notation, axiom, sorry.
-/
import Derived.Test.YtimakfokgcnklaaGreatChecked
import GoSem.Claim
import GoSem.ClaimJoined
import GoSem.ClaimMapViews
import Derived.JoinedTies
import Derived.KernelRfl
namespace Go.Proofs.YtimakfokgcnklaaGreat
/- THE CELL 'sum', in the pinned program and in every row, IS THE sha256 OF THE DUMP (.gsa) THAT YtimakfokgcnklaaGreatProg.lean LOADS. Nothing in Lean hashes anything: it is a label: what it is worth is what the hold of that sum in a sandbox is worth. -/
noncomputable def Tryz.pinned : Pinned := { name := "ytimakfokgcnklaagreat", sum := "cb2121b553f8ca42a29f0988bb3379fc8a0c26bbe2cc17af84fbb35f25b45392", checked := Tryz.checked }
namespace Rows
def none {H : Type} : Left H := { results := [], args := [] }

/-- 'laws.FnNewCourt': WHATEVER THE INPUT: true; the input reads as it did. -/
def fnNewCourtSpec : ChangeSpec := { name := "fnNewCourt", fn := fun _ => fun
  | [d] => { results := [.lit (.bool true)], args := [d] }
  | _ => none }
def fnNewCourtRow : OpenClaim := { program := "ytimakfokgcnklaagreat", sum := "cb2121b553f8ca42a29f0988bb3379fc8a0c26bbe2cc17af84fbb35f25b45392", func := "loop.example/g00708/laws.FnNewCourt", spec := "fnNewCourt", unfollowed := true, recurses := true, apart := false }
def FnNewCourtSaid : Prop := fnNewCourtRow.holds Tryz.pinned (OpenSpec.ofChange fnNewCourtSpec)

/-- ITS FALSE NEIGHBOUR: 'it returns false'. Refute it at one input. -/
def fnNewCourtWrong : ChangeSpec := { name := "fnNewCourt", fn := fun _ => fun
  | [d] => { results := [.lit (.bool false)], args := [d] }
  | _ => none }
def FnNewCourtWrongFalsely : Prop := fnNewCourtRow.holds Tryz.pinned (OpenSpec.ofChange fnNewCourtWrong)

/-- 'laws.FnExactCourtOk': WHATEVER THE INPUT: true; the input reads as it did. -/
def fnExactCourtOkSpec : ChangeSpec := { name := "fnExactCourtOk", fn := fun _ => fun
  | [d] => { results := [.lit (.bool true)], args := [d] }
  | _ => none }
def fnExactCourtOkRow : OpenClaim := { program := "ytimakfokgcnklaagreat", sum := "cb2121b553f8ca42a29f0988bb3379fc8a0c26bbe2cc17af84fbb35f25b45392", func := "loop.example/g00708/laws.FnExactCourtOk", spec := "fnExactCourtOk", unfollowed := true, recurses := true, apart := false }
def FnExactCourtOkSaid : Prop := fnExactCourtOkRow.holds Tryz.pinned (OpenSpec.ofChange fnExactCourtOkSpec)

/-- ITS FALSE NEIGHBOUR: 'it returns false'. Refute it at one input. -/
def fnExactCourtOkWrong : ChangeSpec := { name := "fnExactCourtOk", fn := fun _ => fun
  | [d] => { results := [.lit (.bool false)], args := [d] }
  | _ => none }
def FnExactCourtOkWrongFalsely : Prop := fnExactCourtOkRow.holds Tryz.pinned (OpenSpec.ofChange fnExactCourtOkWrong)

/-- 'laws.FnExactNewCourt': WHATEVER THE INPUT: true; the input reads as it did. -/
def fnExactNewCourtSpec : ChangeSpec := { name := "fnExactNewCourt", fn := fun _ => fun
  | [d1, d2, d3, d4] => { results := [.lit (.bool true)], args := [d1, d2, d3, d4] }
  | _ => none }
def fnExactNewCourtRow : OpenClaim := { program := "ytimakfokgcnklaagreat", sum := "cb2121b553f8ca42a29f0988bb3379fc8a0c26bbe2cc17af84fbb35f25b45392", func := "loop.example/g00708/laws.FnExactNewCourt", spec := "fnExactNewCourt", unfollowed := true, recurses := true, apart := false }
def FnExactNewCourtSaid : Prop := fnExactNewCourtRow.holds Tryz.pinned (OpenSpec.ofChange fnExactNewCourtSpec)

/-- ITS FALSE NEIGHBOUR: 'it returns false'. Refute it at one input. -/
def fnExactNewCourtWrong : ChangeSpec := { name := "fnExactNewCourt", fn := fun _ => fun
  | [d1, d2, d3, d4] => { results := [.lit (.bool false)], args := [d1, d2, d3, d4] }
  | _ => none }
def FnExactNewCourtWrongFalsely : Prop := fnExactNewCourtRow.holds Tryz.pinned (OpenSpec.ofChange fnExactNewCourtWrong)

/-- 'laws.FnExactReadingOf': WHATEVER THE INPUT: true; the input reads as it did. -/
def fnExactReadingOfSpec : ChangeSpec := { name := "fnExactReadingOf", fn := fun _ => fun
  | [d1, d2] => { results := [.lit (.bool true)], args := [d1, d2] }
  | _ => none }
def fnExactReadingOfRow : OpenClaim := { program := "ytimakfokgcnklaagreat", sum := "cb2121b553f8ca42a29f0988bb3379fc8a0c26bbe2cc17af84fbb35f25b45392", func := "loop.example/g00708/laws.FnExactReadingOf", spec := "fnExactReadingOf", unfollowed := true, recurses := true, apart := false }
def FnExactReadingOfSaid : Prop := fnExactReadingOfRow.holds Tryz.pinned (OpenSpec.ofChange fnExactReadingOfSpec)

/-- ITS FALSE NEIGHBOUR: 'it returns false'. Refute it at one input. -/
def fnExactReadingOfWrong : ChangeSpec := { name := "fnExactReadingOf", fn := fun _ => fun
  | [d1, d2] => { results := [.lit (.bool false)], args := [d1, d2] }
  | _ => none }
def FnExactReadingOfWrongFalsely : Prop := fnExactReadingOfRow.holds Tryz.pinned (OpenSpec.ofChange fnExactReadingOfWrong)

/-- 'laws.FnExactHonestIn': WHATEVER THE INPUT: true; the input reads as it did. -/
def fnExactHonestInSpec : ChangeSpec := { name := "fnExactHonestIn", fn := fun _ => fun
  | [d] => { results := [.lit (.bool true)], args := [d] }
  | _ => none }
def fnExactHonestInRow : OpenClaim := { program := "ytimakfokgcnklaagreat", sum := "cb2121b553f8ca42a29f0988bb3379fc8a0c26bbe2cc17af84fbb35f25b45392", func := "loop.example/g00708/laws.FnExactHonestIn", spec := "fnExactHonestIn", unfollowed := true, recurses := true, apart := false }
def FnExactHonestInSaid : Prop := fnExactHonestInRow.holds Tryz.pinned (OpenSpec.ofChange fnExactHonestInSpec)

/-- ITS FALSE NEIGHBOUR: 'it returns false'. Refute it at one input. -/
def fnExactHonestInWrong : ChangeSpec := { name := "fnExactHonestIn", fn := fun _ => fun
  | [d] => { results := [.lit (.bool false)], args := [d] }
  | _ => none }
def FnExactHonestInWrongFalsely : Prop := fnExactHonestInRow.holds Tryz.pinned (OpenSpec.ofChange fnExactHonestInWrong)

/- THE SECOND FORM. 'bulk': how many values and letters a reading holds, each counted each time it is reached (what is shared counts as often as it is met; a slice's spare places count too). A statement '..UptoSaid' is the law's where the arguments, and the package variables that the reading takes, are together of bulk at most 1048576: NARROWER than '..Said'. Prove '..Said' where nothing that the law and all that it calls make is longer than what came in: it says more and counts as full. Else prove '..UptoSaid'. A law counts once. -/
mutual
def uptoBulk {H : Type} : DataW H → Nat
  | .lit (.string bytes) => bytes.length + 1
  | .lit _ => 1
  | .nil => 1
  | .ptr d => uptoBulk d + 1
  | .slice elems spare => uptoBulkAll elems + uptoBulkAll spare + 1
  | .agg parts => uptoBulkAll parts + 1
  | .iface _ d => uptoBulk d + 1
  | .map entries => uptoBulkEntries entries + 1
  | .held _ => 1
def uptoBulkAll {H : Type} : List (DataW H) → Nat
  | [] => 0
  | d :: r => uptoBulk d + uptoBulkAll r
def uptoBulkEntries {H : Type} : List (Lit × DataW H) → Nat
  | [] => 0
  | x :: r => uptoBulkEntry x + uptoBulkEntries r
def uptoBulkEntry {H : Type} : Lit × DataW H → Nat
  | (.string bytes, d) => bytes.length + uptoBulk d + 1
  | (_, d) => uptoBulk d + 1
 end
def uptoSmall : (H : Type) → List (DataW H) → Bool := fun _ ds => decide (uptoBulkAll ds ≤ 1048576)
def OpenSpec.upto (s : _root_.Go.ChangeSpec) : _root_.Go.OpenSpec := { _root_.Go.OpenSpec.ofChange s with cond := some uptoSmall }

/-- 'laws.FnNewCourt', WHERE WHAT IT READS IS OF BULK AT MOST 1048576: true; the input reads as it did. -/
def fnNewCourtUptoRow : OpenClaim := { program := "ytimakfokgcnklaagreat", sum := "cb2121b553f8ca42a29f0988bb3379fc8a0c26bbe2cc17af84fbb35f25b45392", func := "loop.example/g00708/laws.FnNewCourt", spec := "fnNewCourt", unfollowed := true, recurses := true, apart := false, narrowed := true }
def FnNewCourtUptoSaid : Prop := fnNewCourtUptoRow.holds Tryz.pinned (OpenSpec.upto fnNewCourtSpec)

/-- 'laws.FnExactCourtOk', WHERE WHAT IT READS IS OF BULK AT MOST 1048576: true; the input reads as it did. -/
def fnExactCourtOkUptoRow : OpenClaim := { program := "ytimakfokgcnklaagreat", sum := "cb2121b553f8ca42a29f0988bb3379fc8a0c26bbe2cc17af84fbb35f25b45392", func := "loop.example/g00708/laws.FnExactCourtOk", spec := "fnExactCourtOk", unfollowed := true, recurses := true, apart := false, narrowed := true }
def FnExactCourtOkUptoSaid : Prop := fnExactCourtOkUptoRow.holds Tryz.pinned (OpenSpec.upto fnExactCourtOkSpec)

/-- 'laws.FnExactNewCourt', WHERE WHAT IT READS IS OF BULK AT MOST 1048576: true; the input reads as it did. -/
def fnExactNewCourtUptoRow : OpenClaim := { program := "ytimakfokgcnklaagreat", sum := "cb2121b553f8ca42a29f0988bb3379fc8a0c26bbe2cc17af84fbb35f25b45392", func := "loop.example/g00708/laws.FnExactNewCourt", spec := "fnExactNewCourt", unfollowed := true, recurses := true, apart := false, narrowed := true }
def FnExactNewCourtUptoSaid : Prop := fnExactNewCourtUptoRow.holds Tryz.pinned (OpenSpec.upto fnExactNewCourtSpec)

/-- 'laws.FnExactReadingOf', WHERE WHAT IT READS IS OF BULK AT MOST 1048576: true; the input reads as it did. -/
def fnExactReadingOfUptoRow : OpenClaim := { program := "ytimakfokgcnklaagreat", sum := "cb2121b553f8ca42a29f0988bb3379fc8a0c26bbe2cc17af84fbb35f25b45392", func := "loop.example/g00708/laws.FnExactReadingOf", spec := "fnExactReadingOf", unfollowed := true, recurses := true, apart := false, narrowed := true }
def FnExactReadingOfUptoSaid : Prop := fnExactReadingOfUptoRow.holds Tryz.pinned (OpenSpec.upto fnExactReadingOfSpec)

/-- 'laws.FnExactHonestIn', WHERE WHAT IT READS IS OF BULK AT MOST 1048576: true; the input reads as it did. -/
def fnExactHonestInUptoRow : OpenClaim := { program := "ytimakfokgcnklaagreat", sum := "cb2121b553f8ca42a29f0988bb3379fc8a0c26bbe2cc17af84fbb35f25b45392", func := "loop.example/g00708/laws.FnExactHonestIn", spec := "fnExactHonestIn", unfollowed := true, recurses := true, apart := false, narrowed := true }
def FnExactHonestInUptoSaid : Prop := fnExactHonestInUptoRow.holds Tryz.pinned (OpenSpec.upto fnExactHonestInSpec)

end Rows
end Go.Proofs.YtimakfokgcnklaaGreat
