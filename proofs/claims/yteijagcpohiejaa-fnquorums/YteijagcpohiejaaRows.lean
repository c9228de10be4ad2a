/-
  No cell of these rows narrows 'for every input' (looked for: loops, veiled, ifaces, maps, wideKeys, modest, calm, conditions, laid).
  DERIVED. THE GIVEN ROWS OF THIS SEAT. 8 by the template 'for every input the law returns true; each argument reads behind the call as it read before'; 0 by the template 'total and deterministic' (their statements: YteijagcpohiejaaTotals.lean).
  GIVEN WITH THE SEED: the statements are not yours to turn. If you find one false, say at which input.
  Laid BY PROGRAM, IN A SANDBOX (cutbox-rows.mjs): the forced cells as the released guide's own fill.sh prints them over the translation ea53dcf42f5e4ddd… (all of the seat's roots in one cut). By AI agents, Wed Nov 11 2026. No macro, syntax, notation, axiom, sorry.
-/
import Derived.Test.YteijagcpohiejaaChecked
import GoSem.Claim
import GoSem.ClaimJoined
import GoSem.ClaimMapViews
import Derived.JoinedTies
import Derived.KernelRfl
namespace Go.Proofs.Yteijagcpohiejaa
/- THE CELL 'sum', in the pinned program and in every row, IS THE sha256 OF THE DUMP (.gsa) THAT YteijagcpohiejaaProg.lean LOADS. Nothing in Lean hashes anything: it is a label: what it is worth is what the hold of that sum in a sandbox is worth. -/
noncomputable def Try.pinned : Pinned := { name := "yteijagcpohiejaa", sum := "ea53dcf42f5e4ddd13109721dbfd021680862439a9844cf0b775d9b5acf4a5a8", checked := Try.checked }
namespace Rows
def none {H : Type} : Left H := { results := [], args := [] }

/-- 'laws.FnConfig': WHATEVER THE INPUT: true; the input reads as it did. -/
def fnConfigSpec : ChangeSpec := { name := "fnConfig", fn := fun _ => fun
  | [d] => { results := [.lit (.bool true)], args := [d] }
  | _ => none }
def fnConfigRow : OpenClaim := { program := "yteijagcpohiejaa", sum := "ea53dcf42f5e4ddd13109721dbfd021680862439a9844cf0b775d9b5acf4a5a8", func := "loop.example/g00708/laws.FnConfig", spec := "fnConfig", apart := false }
def FnConfigSaid : Prop := fnConfigRow.holds Try.pinned (OpenSpec.ofChange fnConfigSpec)

/-- ITS FALSE NEIGHBOUR: 'it returns false'. Refute it at one input. -/
def fnConfigWrong : ChangeSpec := { name := "fnConfig", fn := fun _ => fun
  | [d] => { results := [.lit (.bool false)], args := [d] }
  | _ => none }
def FnConfigWrongFalsely : Prop := fnConfigRow.holds Try.pinned (OpenSpec.ofChange fnConfigWrong)

/-- 'laws.FnQuorums': WHATEVER THE INPUT: true; the input reads as it did. -/
def fnQuorumsSpec : ChangeSpec := { name := "fnQuorums", fn := fun _ => fun
  | [d] => { results := [.lit (.bool true)], args := [d] }
  | _ => none }
def fnQuorumsRow : OpenClaim := { program := "yteijagcpohiejaa", sum := "ea53dcf42f5e4ddd13109721dbfd021680862439a9844cf0b775d9b5acf4a5a8", func := "loop.example/g00708/laws.FnQuorums", spec := "fnQuorums", apart := false }
def FnQuorumsSaid : Prop := fnQuorumsRow.holds Try.pinned (OpenSpec.ofChange fnQuorumsSpec)

/-- ITS FALSE NEIGHBOUR: 'it returns false'. Refute it at one input. -/
def fnQuorumsWrong : ChangeSpec := { name := "fnQuorums", fn := fun _ => fun
  | [d] => { results := [.lit (.bool false)], args := [d] }
  | _ => none }
def FnQuorumsWrongFalsely : Prop := fnQuorumsRow.holds Try.pinned (OpenSpec.ofChange fnQuorumsWrong)

/-- 'laws.FnExactGapMost': WHATEVER THE INPUT: true; the input reads as it did. -/
def fnExactGapMostSpec : ChangeSpec := { name := "fnExactGapMost", fn := fun _ => fun
  | [d] => { results := [.lit (.bool true)], args := [d] }
  | _ => none }
def fnExactGapMostRow : OpenClaim := { program := "yteijagcpohiejaa", sum := "ea53dcf42f5e4ddd13109721dbfd021680862439a9844cf0b775d9b5acf4a5a8", func := "loop.example/g00708/laws.FnExactGapMost", spec := "fnExactGapMost", apart := false }
def FnExactGapMostSaid : Prop := fnExactGapMostRow.holds Try.pinned (OpenSpec.ofChange fnExactGapMostSpec)

/-- ITS FALSE NEIGHBOUR: 'it returns false'. Refute it at one input. -/
def fnExactGapMostWrong : ChangeSpec := { name := "fnExactGapMost", fn := fun _ => fun
  | [d] => { results := [.lit (.bool false)], args := [d] }
  | _ => none }
def FnExactGapMostWrongFalsely : Prop := fnExactGapMostRow.holds Try.pinned (OpenSpec.ofChange fnExactGapMostWrong)

/-- 'laws.FnExactSkewMost': WHATEVER THE INPUT: true; the input reads as it did. -/
def fnExactSkewMostSpec : ChangeSpec := { name := "fnExactSkewMost", fn := fun _ => fun
  | [d] => { results := [.lit (.bool true)], args := [d] }
  | _ => none }
def fnExactSkewMostRow : OpenClaim := { program := "yteijagcpohiejaa", sum := "ea53dcf42f5e4ddd13109721dbfd021680862439a9844cf0b775d9b5acf4a5a8", func := "loop.example/g00708/laws.FnExactSkewMost", spec := "fnExactSkewMost", apart := false }
def FnExactSkewMostSaid : Prop := fnExactSkewMostRow.holds Try.pinned (OpenSpec.ofChange fnExactSkewMostSpec)

/-- ITS FALSE NEIGHBOUR: 'it returns false'. Refute it at one input. -/
def fnExactSkewMostWrong : ChangeSpec := { name := "fnExactSkewMost", fn := fun _ => fun
  | [d] => { results := [.lit (.bool false)], args := [d] }
  | _ => none }
def FnExactSkewMostWrongFalsely : Prop := fnExactSkewMostRow.holds Try.pinned (OpenSpec.ofChange fnExactSkewMostWrong)

/-- 'laws.FnExactAdjustMost': WHATEVER THE INPUT: true; the input reads as it did. -/
def fnExactAdjustMostSpec : ChangeSpec := { name := "fnExactAdjustMost", fn := fun _ => fun
  | [d] => { results := [.lit (.bool true)], args := [d] }
  | _ => none }
def fnExactAdjustMostRow : OpenClaim := { program := "yteijagcpohiejaa", sum := "ea53dcf42f5e4ddd13109721dbfd021680862439a9844cf0b775d9b5acf4a5a8", func := "loop.example/g00708/laws.FnExactAdjustMost", spec := "fnExactAdjustMost", apart := false }
def FnExactAdjustMostSaid : Prop := fnExactAdjustMostRow.holds Try.pinned (OpenSpec.ofChange fnExactAdjustMostSpec)

/-- ITS FALSE NEIGHBOUR: 'it returns false'. Refute it at one input. -/
def fnExactAdjustMostWrong : ChangeSpec := { name := "fnExactAdjustMost", fn := fun _ => fun
  | [d] => { results := [.lit (.bool false)], args := [d] }
  | _ => none }
def FnExactAdjustMostWrongFalsely : Prop := fnExactAdjustMostRow.holds Try.pinned (OpenSpec.ofChange fnExactAdjustMostWrong)

/-- 'laws.FnExactCodeOf': WHATEVER THE INPUT: true; the input reads as it did. -/
def fnExactCodeOfSpec : ChangeSpec := { name := "fnExactCodeOf", fn := fun _ => fun
  | [d] => { results := [.lit (.bool true)], args := [d] }
  | _ => none }
def fnExactCodeOfRow : OpenClaim := { program := "yteijagcpohiejaa", sum := "ea53dcf42f5e4ddd13109721dbfd021680862439a9844cf0b775d9b5acf4a5a8", func := "loop.example/g00708/laws.FnExactCodeOf", spec := "fnExactCodeOf", apart := false }
def FnExactCodeOfSaid : Prop := fnExactCodeOfRow.holds Try.pinned (OpenSpec.ofChange fnExactCodeOfSpec)

/-- ITS FALSE NEIGHBOUR: 'it returns false'. Refute it at one input. -/
def fnExactCodeOfWrong : ChangeSpec := { name := "fnExactCodeOf", fn := fun _ => fun
  | [d] => { results := [.lit (.bool false)], args := [d] }
  | _ => none }
def FnExactCodeOfWrongFalsely : Prop := fnExactCodeOfRow.holds Try.pinned (OpenSpec.ofChange fnExactCodeOfWrong)

/-- 'laws.FnExactConfigOk': WHATEVER THE INPUT: true; the input reads as it did. -/
def fnExactConfigOkSpec : ChangeSpec := { name := "fnExactConfigOk", fn := fun _ => fun
  | [d] => { results := [.lit (.bool true)], args := [d] }
  | _ => none }
def fnExactConfigOkRow : OpenClaim := { program := "yteijagcpohiejaa", sum := "ea53dcf42f5e4ddd13109721dbfd021680862439a9844cf0b775d9b5acf4a5a8", func := "loop.example/g00708/laws.FnExactConfigOk", spec := "fnExactConfigOk", apart := false }
def FnExactConfigOkSaid : Prop := fnExactConfigOkRow.holds Try.pinned (OpenSpec.ofChange fnExactConfigOkSpec)

/-- ITS FALSE NEIGHBOUR: 'it returns false'. Refute it at one input. -/
def fnExactConfigOkWrong : ChangeSpec := { name := "fnExactConfigOk", fn := fun _ => fun
  | [d] => { results := [.lit (.bool false)], args := [d] }
  | _ => none }
def FnExactConfigOkWrongFalsely : Prop := fnExactConfigOkRow.holds Try.pinned (OpenSpec.ofChange fnExactConfigOkWrong)

/-- 'laws.FnExactQuorumOf': WHATEVER THE INPUT: true; the input reads as it did. -/
def fnExactQuorumOfSpec : ChangeSpec := { name := "fnExactQuorumOf", fn := fun _ => fun
  | [d] => { results := [.lit (.bool true)], args := [d] }
  | _ => none }
def fnExactQuorumOfRow : OpenClaim := { program := "yteijagcpohiejaa", sum := "ea53dcf42f5e4ddd13109721dbfd021680862439a9844cf0b775d9b5acf4a5a8", func := "loop.example/g00708/laws.FnExactQuorumOf", spec := "fnExactQuorumOf", apart := false }
def FnExactQuorumOfSaid : Prop := fnExactQuorumOfRow.holds Try.pinned (OpenSpec.ofChange fnExactQuorumOfSpec)

/-- ITS FALSE NEIGHBOUR: 'it returns false'. Refute it at one input. -/
def fnExactQuorumOfWrong : ChangeSpec := { name := "fnExactQuorumOf", fn := fun _ => fun
  | [d] => { results := [.lit (.bool false)], args := [d] }
  | _ => none }
def FnExactQuorumOfWrongFalsely : Prop := fnExactQuorumOfRow.holds Try.pinned (OpenSpec.ofChange fnExactQuorumOfWrong)

/- THE SECOND FORM. 'bulk': how many values and letters a reading holds, each counted each time it is reached (what is shared counts as often as it is met; a slice's spare places count too). A statement '..UptoSaid' is the law's where the arguments, and the package variables that the reading takes, are together of bulk at most 1048576: NARROWER than '..Said'. Prove '..Said' where nothing that the law and all that it calls make is longer than what came in: it says more and counts as full. Else prove '..UptoSaid'. A law counts once. -/
mutual
def uptoBulk {H : Type} : DataW H → Nat
  | .lit (.string bytes) => bytes.length + 1
  | .lit _ => 1
  | .nil => 1
  | .ptr d => uptoBulk d + 1
  | .slice elems spare => uptoBulkAll elems + uptoBulkAll spare + 1
  | .agg parts => uptoBulkAll parts + 1
  | .iface _ d => uptoBulk d + 1
  | .map entries => uptoBulkEntries entries + 1
  | .held _ => 1
def uptoBulkAll {H : Type} : List (DataW H) → Nat
  | [] => 0
  | d :: r => uptoBulk d + uptoBulkAll r
def uptoBulkEntries {H : Type} : List (Lit × DataW H) → Nat
  | [] => 0
  | x :: r => uptoBulkEntry x + uptoBulkEntries r
def uptoBulkEntry {H : Type} : Lit × DataW H → Nat
  | (.string bytes, d) => bytes.length + uptoBulk d + 1
  | (_, d) => uptoBulk d + 1
 end
def uptoSmall : (H : Type) → List (DataW H) → Bool := fun _ ds => decide (uptoBulkAll ds ≤ 1048576)
def OpenSpec.upto (s : _root_.Go.ChangeSpec) : _root_.Go.OpenSpec := { _root_.Go.OpenSpec.ofChange s with cond := some uptoSmall }

/-- 'laws.FnConfig', WHERE WHAT IT READS IS OF BULK AT MOST 1048576: true; the input reads as it did. -/
def fnConfigUptoRow : OpenClaim := { program := "yteijagcpohiejaa", sum := "ea53dcf42f5e4ddd13109721dbfd021680862439a9844cf0b775d9b5acf4a5a8", func := "loop.example/g00708/laws.FnConfig", spec := "fnConfig", apart := false, narrowed := true }
def FnConfigUptoSaid : Prop := fnConfigUptoRow.holds Try.pinned (OpenSpec.upto fnConfigSpec)

/-- 'laws.FnQuorums', WHERE WHAT IT READS IS OF BULK AT MOST 1048576: true; the input reads as it did. -/
def fnQuorumsUptoRow : OpenClaim := { program := "yteijagcpohiejaa", sum := "ea53dcf42f5e4ddd13109721dbfd021680862439a9844cf0b775d9b5acf4a5a8", func := "loop.example/g00708/laws.FnQuorums", spec := "fnQuorums", apart := false, narrowed := true }
def FnQuorumsUptoSaid : Prop := fnQuorumsUptoRow.holds Try.pinned (OpenSpec.upto fnQuorumsSpec)

/-- 'laws.FnExactGapMost', WHERE WHAT IT READS IS OF BULK AT MOST 1048576: true; the input reads as it did. -/
def fnExactGapMostUptoRow : OpenClaim := { program := "yteijagcpohiejaa", sum := "ea53dcf42f5e4ddd13109721dbfd021680862439a9844cf0b775d9b5acf4a5a8", func := "loop.example/g00708/laws.FnExactGapMost", spec := "fnExactGapMost", apart := false, narrowed := true }
def FnExactGapMostUptoSaid : Prop := fnExactGapMostUptoRow.holds Try.pinned (OpenSpec.upto fnExactGapMostSpec)

/-- 'laws.FnExactSkewMost', WHERE WHAT IT READS IS OF BULK AT MOST 1048576: true; the input reads as it did. -/
def fnExactSkewMostUptoRow : OpenClaim := { program := "yteijagcpohiejaa", sum := "ea53dcf42f5e4ddd13109721dbfd021680862439a9844cf0b775d9b5acf4a5a8", func := "loop.example/g00708/laws.FnExactSkewMost", spec := "fnExactSkewMost", apart := false, narrowed := true }
def FnExactSkewMostUptoSaid : Prop := fnExactSkewMostUptoRow.holds Try.pinned (OpenSpec.upto fnExactSkewMostSpec)

/-- 'laws.FnExactAdjustMost', WHERE WHAT IT READS IS OF BULK AT MOST 1048576: true; the input reads as it did. -/
def fnExactAdjustMostUptoRow : OpenClaim := { program := "yteijagcpohiejaa", sum := "ea53dcf42f5e4ddd13109721dbfd021680862439a9844cf0b775d9b5acf4a5a8", func := "loop.example/g00708/laws.FnExactAdjustMost", spec := "fnExactAdjustMost", apart := false, narrowed := true }
def FnExactAdjustMostUptoSaid : Prop := fnExactAdjustMostUptoRow.holds Try.pinned (OpenSpec.upto fnExactAdjustMostSpec)

/-- 'laws.FnExactCodeOf', WHERE WHAT IT READS IS OF BULK AT MOST 1048576: true; the input reads as it did. -/
def fnExactCodeOfUptoRow : OpenClaim := { program := "yteijagcpohiejaa", sum := "ea53dcf42f5e4ddd13109721dbfd021680862439a9844cf0b775d9b5acf4a5a8", func := "loop.example/g00708/laws.FnExactCodeOf", spec := "fnExactCodeOf", apart := false, narrowed := true }
def FnExactCodeOfUptoSaid : Prop := fnExactCodeOfUptoRow.holds Try.pinned (OpenSpec.upto fnExactCodeOfSpec)

/-- 'laws.FnExactConfigOk', WHERE WHAT IT READS IS OF BULK AT MOST 1048576: true; the input reads as it did. -/
def fnExactConfigOkUptoRow : OpenClaim := { program := "yteijagcpohiejaa", sum := "ea53dcf42f5e4ddd13109721dbfd021680862439a9844cf0b775d9b5acf4a5a8", func := "loop.example/g00708/laws.FnExactConfigOk", spec := "fnExactConfigOk", apart := false, narrowed := true }
def FnExactConfigOkUptoSaid : Prop := fnExactConfigOkUptoRow.holds Try.pinned (OpenSpec.upto fnExactConfigOkSpec)

/-- 'laws.FnExactQuorumOf', WHERE WHAT IT READS IS OF BULK AT MOST 1048576: true; the input reads as it did. -/
def fnExactQuorumOfUptoRow : OpenClaim := { program := "yteijagcpohiejaa", sum := "ea53dcf42f5e4ddd13109721dbfd021680862439a9844cf0b775d9b5acf4a5a8", func := "loop.example/g00708/laws.FnExactQuorumOf", spec := "fnExactQuorumOf", apart := false, narrowed := true }
def FnExactQuorumOfUptoSaid : Prop := fnExactQuorumOfUptoRow.holds Try.pinned (OpenSpec.upto fnExactQuorumOfSpec)

end Rows
end Go.Proofs.Yteijagcpohiejaa
