/-
  No cell of these rows narrows 'for every input' (looked for: loops, veiled, ifaces, maps, wideKeys, modest, calm, conditions, laid).
  DERIVED. THE GIVEN ROWS OF THIS SEAT. 8 by the template 'for every input the law returns true; each argument reads behind the call as it read before'; 0 by the template 'total and deterministic' (their statements: YtcgcmceobmpdiaaTotals.lean).
  GIVEN WITH THE SEED: the statements are not yours to turn. If you find one false, say at which input.
  Laid BY PROGRAM, IN A SANDBOX (cutbox-rows.mjs): the forced cells as the released guide's own fill.sh prints them over the translation 5e480427bf378810… (all of the seat's roots in one cut). By AI agents, Wed Nov 11 2026. No macro, syntax, notation, axiom, sorry.
-/
import Derived.Test.YtcgcmceobmpdiaaChecked
import GoSem.Claim
import GoSem.ClaimJoined
import GoSem.ClaimMapViews
import Derived.JoinedTies
import Derived.KernelRfl
namespace Go.Proofs.Ytcgcmceobmpdiaa
/- THE CELL 'sum', in the pinned program and in every row, IS THE sha256 OF THE DUMP (.gsa) THAT YtcgcmceobmpdiaaProg.lean LOADS. Nothing in Lean hashes anything: it is a label: what it is worth is what the hold of that sum in a sandbox is worth. -/
noncomputable def Try.pinned : Pinned := { name := "ytcgcmceobmpdiaa", sum := "5e480427bf37881082b47db3b72367da24bec08b935e42513c8a31ec3a8d7683", checked := Try.checked }
namespace Rows
def none {H : Type} : Left H := { results := [], args := [] }

/-- 'laws.FnMono': WHATEVER THE INPUT: true; the input reads as it did. -/
def fnMonoSpec : ChangeSpec := { name := "fnMono", fn := fun _ => fun
  | [d] => { results := [.lit (.bool true)], args := [d] }
  | _ => none }
def fnMonoRow : OpenClaim := { program := "ytcgcmceobmpdiaa", sum := "5e480427bf37881082b47db3b72367da24bec08b935e42513c8a31ec3a8d7683", func := "loop.example/g00708/laws.FnMono", spec := "fnMono", unfollowed := true, recurses := true, apart := false }
def FnMonoSaid : Prop := fnMonoRow.holds Try.pinned (OpenSpec.ofChange fnMonoSpec)

/-- ITS FALSE NEIGHBOUR: 'it returns false'. Refute it at one input. -/
def fnMonoWrong : ChangeSpec := { name := "fnMono", fn := fun _ => fun
  | [d] => { results := [.lit (.bool false)], args := [d] }
  | _ => none }
def FnMonoWrongFalsely : Prop := fnMonoRow.holds Try.pinned (OpenSpec.ofChange fnMonoWrong)

/-- 'laws.FnPaid': WHATEVER THE INPUT: true; the input reads as it did. -/
def fnPaidSpec : ChangeSpec := { name := "fnPaid", fn := fun _ => fun
  | [d] => { results := [.lit (.bool true)], args := [d] }
  | _ => none }
def fnPaidRow : OpenClaim := { program := "ytcgcmceobmpdiaa", sum := "5e480427bf37881082b47db3b72367da24bec08b935e42513c8a31ec3a8d7683", func := "loop.example/g00708/laws.FnPaid", spec := "fnPaid", unfollowed := true, recurses := true, apart := false }
def FnPaidSaid : Prop := fnPaidRow.holds Try.pinned (OpenSpec.ofChange fnPaidSpec)

/-- ITS FALSE NEIGHBOUR: 'it returns false'. Refute it at one input. -/
def fnPaidWrong : ChangeSpec := { name := "fnPaid", fn := fun _ => fun
  | [d] => { results := [.lit (.bool false)], args := [d] }
  | _ => none }
def FnPaidWrongFalsely : Prop := fnPaidRow.holds Try.pinned (OpenSpec.ofChange fnPaidWrong)

/-- 'laws.FnCorrected': WHATEVER THE INPUT: true; the input reads as it did. -/
def fnCorrectedSpec : ChangeSpec := { name := "fnCorrected", fn := fun _ => fun
  | [d] => { results := [.lit (.bool true)], args := [d] }
  | _ => none }
def fnCorrectedRow : OpenClaim := { program := "ytcgcmceobmpdiaa", sum := "5e480427bf37881082b47db3b72367da24bec08b935e42513c8a31ec3a8d7683", func := "loop.example/g00708/laws.FnCorrected", spec := "fnCorrected", unfollowed := true, recurses := true, apart := false }
def FnCorrectedSaid : Prop := fnCorrectedRow.holds Try.pinned (OpenSpec.ofChange fnCorrectedSpec)

/-- ITS FALSE NEIGHBOUR: 'it returns false'. Refute it at one input. -/
def fnCorrectedWrong : ChangeSpec := { name := "fnCorrected", fn := fun _ => fun
  | [d] => { results := [.lit (.bool false)], args := [d] }
  | _ => none }
def FnCorrectedWrongFalsely : Prop := fnCorrectedRow.holds Try.pinned (OpenSpec.ofChange fnCorrectedWrong)

/-- 'laws.FnExactClockOk': WHATEVER THE INPUT: true; the input reads as it did. -/
def fnExactClockOkSpec : ChangeSpec := { name := "fnExactClockOk", fn := fun _ => fun
  | [d1, d2] => { results := [.lit (.bool true)], args := [d1, d2] }
  | _ => none }
def fnExactClockOkRow : OpenClaim := { program := "ytcgcmceobmpdiaa", sum := "5e480427bf37881082b47db3b72367da24bec08b935e42513c8a31ec3a8d7683", func := "loop.example/g00708/laws.FnExactClockOk", spec := "fnExactClockOk", apart := false }
def FnExactClockOkSaid : Prop := fnExactClockOkRow.holds Try.pinned (OpenSpec.ofChange fnExactClockOkSpec)

/-- ITS FALSE NEIGHBOUR: 'it returns false'. Refute it at one input. -/
def fnExactClockOkWrong : ChangeSpec := { name := "fnExactClockOk", fn := fun _ => fun
  | [d1, d2] => { results := [.lit (.bool false)], args := [d1, d2] }
  | _ => none }
def FnExactClockOkWrongFalsely : Prop := fnExactClockOkRow.holds Try.pinned (OpenSpec.ofChange fnExactClockOkWrong)

/-- 'laws.FnExactReadAt': WHATEVER THE INPUT: true; the input reads as it did. -/
def fnExactReadAtSpec : ChangeSpec := { name := "fnExactReadAt", fn := fun _ => fun
  | [d1, d2, d3] => { results := [.lit (.bool true)], args := [d1, d2, d3] }
  | _ => none }
def fnExactReadAtRow : OpenClaim := { program := "ytcgcmceobmpdiaa", sum := "5e480427bf37881082b47db3b72367da24bec08b935e42513c8a31ec3a8d7683", func := "loop.example/g00708/laws.FnExactReadAt", spec := "fnExactReadAt", unfollowed := true, recurses := true, apart := false }
def FnExactReadAtSaid : Prop := fnExactReadAtRow.holds Try.pinned (OpenSpec.ofChange fnExactReadAtSpec)

/-- ITS FALSE NEIGHBOUR: 'it returns false'. Refute it at one input. -/
def fnExactReadAtWrong : ChangeSpec := { name := "fnExactReadAt", fn := fun _ => fun
  | [d1, d2, d3] => { results := [.lit (.bool false)], args := [d1, d2, d3] }
  | _ => none }
def FnExactReadAtWrongFalsely : Prop := fnExactReadAtRow.holds Try.pinned (OpenSpec.ofChange fnExactReadAtWrong)

/-- 'laws.FnExactOwedAt': WHATEVER THE INPUT: true; the input reads as it did. -/
def fnExactOwedAtSpec : ChangeSpec := { name := "fnExactOwedAt", fn := fun _ => fun
  | [d1, d2, d3] => { results := [.lit (.bool true)], args := [d1, d2, d3] }
  | _ => none }
def fnExactOwedAtRow : OpenClaim := { program := "ytcgcmceobmpdiaa", sum := "5e480427bf37881082b47db3b72367da24bec08b935e42513c8a31ec3a8d7683", func := "loop.example/g00708/laws.FnExactOwedAt", spec := "fnExactOwedAt", unfollowed := true, recurses := true, apart := false }
def FnExactOwedAtSaid : Prop := fnExactOwedAtRow.holds Try.pinned (OpenSpec.ofChange fnExactOwedAtSpec)

/-- ITS FALSE NEIGHBOUR: 'it returns false'. Refute it at one input. -/
def fnExactOwedAtWrong : ChangeSpec := { name := "fnExactOwedAt", fn := fun _ => fun
  | [d1, d2, d3] => { results := [.lit (.bool false)], args := [d1, d2, d3] }
  | _ => none }
def FnExactOwedAtWrongFalsely : Prop := fnExactOwedAtRow.holds Try.pinned (OpenSpec.ofChange fnExactOwedAtWrong)

/-- 'laws.FnExactCorrected': WHATEVER THE INPUT: true; the input reads as it did. -/
def fnExactCorrectedSpec : ChangeSpec := { name := "fnExactCorrected", fn := fun _ => fun
  | [d1, d2, d3, d4] => { results := [.lit (.bool true)], args := [d1, d2, d3, d4] }
  | _ => none }
def fnExactCorrectedRow : OpenClaim := { program := "ytcgcmceobmpdiaa", sum := "5e480427bf37881082b47db3b72367da24bec08b935e42513c8a31ec3a8d7683", func := "loop.example/g00708/laws.FnExactCorrected", spec := "fnExactCorrected", unfollowed := true, recurses := true, apart := false }
def FnExactCorrectedSaid : Prop := fnExactCorrectedRow.holds Try.pinned (OpenSpec.ofChange fnExactCorrectedSpec)

/-- ITS FALSE NEIGHBOUR: 'it returns false'. Refute it at one input. -/
def fnExactCorrectedWrong : ChangeSpec := { name := "fnExactCorrected", fn := fun _ => fun
  | [d1, d2, d3, d4] => { results := [.lit (.bool false)], args := [d1, d2, d3, d4] }
  | _ => none }
def FnExactCorrectedWrongFalsely : Prop := fnExactCorrectedRow.holds Try.pinned (OpenSpec.ofChange fnExactCorrectedWrong)

/-- 'laws.FnExactPaidWhen': WHATEVER THE INPUT: true; the input reads as it did. -/
def fnExactPaidWhenSpec : ChangeSpec := { name := "fnExactPaidWhen", fn := fun _ => fun
  | [d1, d2] => { results := [.lit (.bool true)], args := [d1, d2] }
  | _ => none }
def fnExactPaidWhenRow : OpenClaim := { program := "ytcgcmceobmpdiaa", sum := "5e480427bf37881082b47db3b72367da24bec08b935e42513c8a31ec3a8d7683", func := "loop.example/g00708/laws.FnExactPaidWhen", spec := "fnExactPaidWhen", apart := false }
def FnExactPaidWhenSaid : Prop := fnExactPaidWhenRow.holds Try.pinned (OpenSpec.ofChange fnExactPaidWhenSpec)

/-- ITS FALSE NEIGHBOUR: 'it returns false'. Refute it at one input. -/
def fnExactPaidWhenWrong : ChangeSpec := { name := "fnExactPaidWhen", fn := fun _ => fun
  | [d1, d2] => { results := [.lit (.bool false)], args := [d1, d2] }
  | _ => none }
def FnExactPaidWhenWrongFalsely : Prop := fnExactPaidWhenRow.holds Try.pinned (OpenSpec.ofChange fnExactPaidWhenWrong)

/- THE SECOND FORM. 'bulk': how many values and letters a reading holds, each counted each time it is reached (what is shared counts as often as it is met; a slice's spare places count too). A statement '..UptoSaid' is the law's where the arguments, and the package variables that the reading takes, are together of bulk at most 1048576: NARROWER than '..Said'. Prove '..Said' where nothing that the law and all that it calls make is longer than what came in: it says more and counts as full. Else prove '..UptoSaid'. A law counts once. -/
mutual
def uptoBulk {H : Type} : DataW H → Nat
  | .lit (.string bytes) => bytes.length + 1
  | .lit _ => 1
  | .nil => 1
  | .ptr d => uptoBulk d + 1
  | .slice elems spare => uptoBulkAll elems + uptoBulkAll spare + 1
  | .agg parts => uptoBulkAll parts + 1
  | .iface _ d => uptoBulk d + 1
  | .map entries => uptoBulkEntries entries + 1
  | .held _ => 1
def uptoBulkAll {H : Type} : List (DataW H) → Nat
  | [] => 0
  | d :: r => uptoBulk d + uptoBulkAll r
def uptoBulkEntries {H : Type} : List (Lit × DataW H) → Nat
  | [] => 0
  | x :: r => uptoBulkEntry x + uptoBulkEntries r
def uptoBulkEntry {H : Type} : Lit × DataW H → Nat
  | (.string bytes, d) => bytes.length + uptoBulk d + 1
  | (_, d) => uptoBulk d + 1
 end
def uptoSmall : (H : Type) → List (DataW H) → Bool := fun _ ds => decide (uptoBulkAll ds ≤ 1048576)
def OpenSpec.upto (s : _root_.Go.ChangeSpec) : _root_.Go.OpenSpec := { _root_.Go.OpenSpec.ofChange s with cond := some uptoSmall }

/-- 'laws.FnMono', WHERE WHAT IT READS IS OF BULK AT MOST 1048576: true; the input reads as it did. -/
def fnMonoUptoRow : OpenClaim := { program := "ytcgcmceobmpdiaa", sum := "5e480427bf37881082b47db3b72367da24bec08b935e42513c8a31ec3a8d7683", func := "loop.example/g00708/laws.FnMono", spec := "fnMono", unfollowed := true, recurses := true, apart := false, narrowed := true }
def FnMonoUptoSaid : Prop := fnMonoUptoRow.holds Try.pinned (OpenSpec.upto fnMonoSpec)

/-- 'laws.FnPaid', WHERE WHAT IT READS IS OF BULK AT MOST 1048576: true; the input reads as it did. -/
def fnPaidUptoRow : OpenClaim := { program := "ytcgcmceobmpdiaa", sum := "5e480427bf37881082b47db3b72367da24bec08b935e42513c8a31ec3a8d7683", func := "loop.example/g00708/laws.FnPaid", spec := "fnPaid", unfollowed := true, recurses := true, apart := false, narrowed := true }
def FnPaidUptoSaid : Prop := fnPaidUptoRow.holds Try.pinned (OpenSpec.upto fnPaidSpec)

/-- 'laws.FnCorrected', WHERE WHAT IT READS IS OF BULK AT MOST 1048576: true; the input reads as it did. -/
def fnCorrectedUptoRow : OpenClaim := { program := "ytcgcmceobmpdiaa", sum := "5e480427bf37881082b47db3b72367da24bec08b935e42513c8a31ec3a8d7683", func := "loop.example/g00708/laws.FnCorrected", spec := "fnCorrected", unfollowed := true, recurses := true, apart := false, narrowed := true }
def FnCorrectedUptoSaid : Prop := fnCorrectedUptoRow.holds Try.pinned (OpenSpec.upto fnCorrectedSpec)

/-- 'laws.FnExactClockOk', WHERE WHAT IT READS IS OF BULK AT MOST 1048576: true; the input reads as it did. -/
def fnExactClockOkUptoRow : OpenClaim := { program := "ytcgcmceobmpdiaa", sum := "5e480427bf37881082b47db3b72367da24bec08b935e42513c8a31ec3a8d7683", func := "loop.example/g00708/laws.FnExactClockOk", spec := "fnExactClockOk", apart := false, narrowed := true }
def FnExactClockOkUptoSaid : Prop := fnExactClockOkUptoRow.holds Try.pinned (OpenSpec.upto fnExactClockOkSpec)

/-- 'laws.FnExactReadAt', WHERE WHAT IT READS IS OF BULK AT MOST 1048576: true; the input reads as it did. -/
def fnExactReadAtUptoRow : OpenClaim := { program := "ytcgcmceobmpdiaa", sum := "5e480427bf37881082b47db3b72367da24bec08b935e42513c8a31ec3a8d7683", func := "loop.example/g00708/laws.FnExactReadAt", spec := "fnExactReadAt", unfollowed := true, recurses := true, apart := false, narrowed := true }
def FnExactReadAtUptoSaid : Prop := fnExactReadAtUptoRow.holds Try.pinned (OpenSpec.upto fnExactReadAtSpec)

/-- 'laws.FnExactOwedAt', WHERE WHAT IT READS IS OF BULK AT MOST 1048576: true; the input reads as it did. -/
def fnExactOwedAtUptoRow : OpenClaim := { program := "ytcgcmceobmpdiaa", sum := "5e480427bf37881082b47db3b72367da24bec08b935e42513c8a31ec3a8d7683", func := "loop.example/g00708/laws.FnExactOwedAt", spec := "fnExactOwedAt", unfollowed := true, recurses := true, apart := false, narrowed := true }
def FnExactOwedAtUptoSaid : Prop := fnExactOwedAtUptoRow.holds Try.pinned (OpenSpec.upto fnExactOwedAtSpec)

/-- 'laws.FnExactCorrected', WHERE WHAT IT READS IS OF BULK AT MOST 1048576: true; the input reads as it did. -/
def fnExactCorrectedUptoRow : OpenClaim := { program := "ytcgcmceobmpdiaa", sum := "5e480427bf37881082b47db3b72367da24bec08b935e42513c8a31ec3a8d7683", func := "loop.example/g00708/laws.FnExactCorrected", spec := "fnExactCorrected", unfollowed := true, recurses := true, apart := false, narrowed := true }
def FnExactCorrectedUptoSaid : Prop := fnExactCorrectedUptoRow.holds Try.pinned (OpenSpec.upto fnExactCorrectedSpec)

/-- 'laws.FnExactPaidWhen', WHERE WHAT IT READS IS OF BULK AT MOST 1048576: true; the input reads as it did. -/
def fnExactPaidWhenUptoRow : OpenClaim := { program := "ytcgcmceobmpdiaa", sum := "5e480427bf37881082b47db3b72367da24bec08b935e42513c8a31ec3a8d7683", func := "loop.example/g00708/laws.FnExactPaidWhen", spec := "fnExactPaidWhen", apart := false, narrowed := true }
def FnExactPaidWhenUptoSaid : Prop := fnExactPaidWhenUptoRow.holds Try.pinned (OpenSpec.upto fnExactPaidWhenSpec)

end Rows
end Go.Proofs.Ytcgcmceobmpdiaa
