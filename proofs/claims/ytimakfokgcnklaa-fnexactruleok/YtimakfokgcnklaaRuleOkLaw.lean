/-
  FnExactRuleOk: at every rule impl's RuleOk answers as the specification.
-/
import Derived.Test.YtimakfokgcnklaaRows
import Derived.WalkKit
import Derived.ProofKit
import Derived.OpenShut
import Derived.ChangeOld
import Derived.Below
import Derived.Lib.SmallJoins
import Derived.Test.YtimakfokgcnklaaOpW
import Derived.Test.YtimakfokgcnklaaRu
import Derived.Test.YtimakfokgcnklaaOpr
namespace Go.Proofs.Ytimakfokgcnklaa.fnExactRuleOk
open Go.ChangeShapes Go.WideShapes Go.ChangeAt Go.RowKit Go.Joins
set_option linter.unusedVariables false
set_option linter.unusedSimpArgs false

theorem own : ownKnob Try.prog.godebug = none := by kernel_rfl
theorem laidOut : laidOutB Try.prog = true := by kernel_rfl

set_option maxHeartbeats 1000000 in
theorem toRule (n f p a l m : Int) (w : World) :
    Calls Try.prog 5 #[.agg #[.int .i64 n, .int .i64 f, .int .i64 p, .int .i64 a, .int .i64 l, .int .i64 m]] w fun e w' => e = .returned (.agg #[.int .i64 n, .int .i64 f, .int .i64 p, .int .i64 a, .int .i64 l, .int .i64 m]) ∧ Below w.heap.size w w' := by
  go_enter Try.func5, Try.ntmps5
  go_wp2
  refine bodyPost_ret (v := .agg #[.int .i64 n, .int .i64 f, .int .i64 p, .int .i64 a, .int .i64 l, .int .i64 m]) (by simp [results, Try.results5, go_sem]) rfl ⟨rfl, ?_⟩
  (repeat (first | exact Below.refl _ _ | assumption | refine Below.setCell ?_ (by first | omega | (simp <;> omega)) _ | refine Below.alloc ?_ (by first | omega | (simp <;> omega)) _ | refine Below.drew ?_ | refine below_drewN ?_ _))


/-! The walk. -/
set_option maxHeartbeats 20000000 in
set_option maxRecDepth 100000 in
theorem walk (rn rf rp ra rl rm : Int) (w : World)  :
    Calls Try.prog 3 #[.agg #[.int .i64 rn, .int .i64 rf, .int .i64 rp, .int .i64 ra, .int .i64 rl, .int .i64 rm]] w fun e w' => e = .returned (.bool true) ∧ Below w.heap.size w w' := by
  have R := Rm.Room.new w [.int .i64 rn, .int .i64 rf, .int .i64 rp, .int .i64 ra, .int .i64 rl, .int .i64 rm] 23
  have B := (Below.refl w.heap.size w).alloc (Nat.le_refl _) (.cells #[.int .i64 rn, .int .i64 rf, .int .i64 rp, .int .i64 ra, .int .i64 rl, .int .i64 rm] 23)
  obtain ⟨v, hv⟩ : ∃ v, Cd.RO rn rf rp ra rl rm = v := ⟨_, rfl⟩
  have HV : Hid (Cd.RO rn rf rp ra rl rm = v) := hv
  clear hv
  have hvv : (v != v) = false := by cases v <;> rfl
  go_enter Try.func3, Try.ntmps3
  have c0 := R.cell 0 rfl
  have c1 := R.cell 1 rfl
  have c2 := R.cell 2 rfl
  have c3 := R.cell 3 rfl
  have c4 := R.cell 4 rfl
  have c5 := R.cell 5 rfl
  go_wp2_with fail
  refine (toRule rn rf rp ra rl rm _).mono ?_
  rintro e w1 ⟨rfl, b1⟩
  replace R := R.below (b1.mono (Nat.le_refl _))
  replace B := B.trans (b1.mono B.size)
  clear b1 c0 c1 c2 c3 c4 c5
  go_wp2_with fail
  refine (Cd.ruleS rn rf rp ra rl rm _).mono ?_
  rintro e w2 ⟨rfl, b1⟩
  replace R := R.below (b1.mono (Nat.le_refl _))
  replace B := B.trans (b1.mono B.size)
  rw [HV.out]
  clear b1
  have c0 := R.cell 0 rfl
  have c1 := R.cell 1 rfl
  have c2 := R.cell 2 rfl
  have c3 := R.cell 3 rfl
  have c4 := R.cell 4 rfl
  have c5 := R.cell 5 rfl
  go_wp2_with fail
  refine (toRule rn rf rp ra rl rm _).mono ?_
  rintro e w3 ⟨rfl, b1⟩
  replace B := B.trans (b1.mono B.size)
  clear b1 c0 c1 c2 c3 c4 c5
  go_wp2_with fail
  refine (Cd.i_RuleOk rn rf rp ra rl rm _).mono ?_
  rintro e w4 ⟨rfl, b1⟩
  replace B := B.trans (b1.mono B.size)
  rw [HV.out]
  clear b1
  go_wp2
  go_ret
  exact ⟨rfl, B⟩

/-! The row. -/
set_option maxRecDepth 100000 in
theorem lifted (os : Os) (started : os.Started) (H : Type) (enc : TypeId × Value → H) :
    ReturnsInHanded {} Try.checked os 3 .any (Rows.fnExactRuleOkSpec.pre6 enc Try.prog Try.f3 Rows.fnExactRuleOkRow.domain false) (Rows.fnExactRuleOkSpec.post enc Try.prog Try.f3 false true false false) := by
  refine returnsInHanded_of_change (C := Try.checked) own started (by kernel_rfl) Try.func3
    (ChangeSpec.witness6 (enc := enc) (C := Try.checked) false ⟨#[], #[.agg #[.int .i64 0, .int .i64 0, .int .i64 0, .int .i64 0, .int .i64 0, .int .i64 0]], []⟩ 8 (by kernel_rfl) (by kernel_rfl) (by kernel_rfl) (by kernel_rfl)) ?_
  intro W base args ds gs before hval0 hW hcnd _
  have hval : ∀ (j : Nat) t v, Try.f3.params[j]? = some t → args[j]? = some v → Value.okWide Try.prog W .any base t v := hval0
  have hW' := hW
  obtain ⟨p, q, hA0, hV, rfl, hfz, hnd⟩ := hW
  have hA : DataW.TrodAll enc Try.prog W 0 (fun _ => true) true Try.f3.params.toList args.toList ds p := hA0
  rw [Try.params3] at hA hval
  obtain ⟨v0, vs0, d0, ds0, p0, q0, hargs, rfl, rfl, h0, r0⟩ := trodAll_cons hA
  obtain ⟨rfl, rfl, rfl⟩ := trodAll_nil r0
  obtain rfl : args = #[v0] := by cases args; simp_all
  obtain ⟨rfl, rfl⟩ := trodVars_none hV
  have k0' := h0
  have lt0' : ∀ x ∈ p0, x.block < W.heap.size := by obtain ⟨m, hm⟩ := k0'; exact DataW.trod_lt m _ _ _ hm
  have rd0 := Rd.Reads.of h0
  obtain ⟨cs0, rfl, _⟩ := okWide_struct Try.underlying23 (hval 0 23 v0 rfl rfl)
  obtain ⟨rn, rf, rp, ra, rl, rm, rfl⟩ := Rd.rule rd0
  clear hA0 hval0
  refine (walk rn rf rp ra rl rm W ).mono fun e W' ⟨he, bel⟩ => ?_
  subst he
  exact ⟨_, rfl, _, _, _, [], _, [], hW', trodAll_mk1 (shut_bool Try.underlying4 _), (trodAll_cons_mk (Below.trod laidOut (by kernel_rfl) (of_decide_eq_true (by kernel_rfl)) k0' bel lt0') trodAll_mk0), rfl, bel.frame _, fun h => by cases h⟩

theorem over : Rows.fnExactRuleOkRow.holds Try.pinned (OpenSpec.ofChange Rows.fnExactRuleOkSpec) :=
  OpenClaim.holds_of_wide 3 Try.f3 rfl rfl rfl rfl rfl rfl rfl ⟨rfl, rfl, rfl, rfl, rfl⟩ rfl rfl rfl rfl rfl (by kernel_rfl) Try.func3 (by kernel_rfl)
    (of_decide_eq_true (by kernel_rfl)) (by unfold Func.isWrapper; first | (rw [if_pos (by decide +kernel)]; kernel_rfl) | (rw [if_neg (by decide +kernel)]; exact ⟨rfl, rfl⟩))
    (fun os started H enc _ => lifted os started H enc)

end Go.Proofs.Ytimakfokgcnklaa.fnExactRuleOk

namespace Go.Proofs.Ytimakfokgcnklaa
/-- The given statement. -/
theorem fnExactRuleOk_holds : Rows.FnExactRuleOkSaid := fnExactRuleOk.over
#print axioms fnExactRuleOk_holds
end Go.Proofs.Ytimakfokgcnklaa
