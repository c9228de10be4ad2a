/-
  Whatever the config, impl.ConfigOk answers as spec.ConfigOk; no condition.
-/
import Derived.Test.YteijagcpohiejaaRows
import Derived.WalkKit
import Derived.ProofKit
import Derived.OpenShut
import Derived.ChangeOld
import Derived.Below
import Derived.Lib.SmallJoins
import Derived.Test.YteijagcpohiejaaToCfg
import Derived.Test.YteijagcpohiejaaAgg
namespace Go.Proofs.Yteijagcpohiejaa.fnExactConfigOk
open Go.ChangeShapes Go.WideShapes Go.ChangeAt Go.RowKit Go.Joins
set_option linter.unusedVariables false
set_option linter.unusedSimpArgs false

theorem own : ownKnob Try.prog.godebug = none := by kernel_rfl
theorem cells35 : Try.prog.cellsOf 35 = 6 := by kernel_rfl


/-! The walk. -/
set_option maxHeartbeats 4000000 in
theorem walk (a0a a0b a0c a0d a0e a0f : Int) (w0a : (Lit.int .i64 a0a).wf = true) (w0b : (Lit.int .i64 a0b).wf = true) (w0c : (Lit.int .i64 a0c).wf = true) (w0d : (Lit.int .i64 a0d).wf = true) (w0e : (Lit.int .i64 a0e).wf = true) (w0f : (Lit.int .i64 a0f).wf = true) (w : World) :
    Calls Try.prog 9 #[.agg #[.int .i64 a0a, .int .i64 a0b, .int .i64 a0c, .int .i64 a0d, .int .i64 a0e, .int .i64 a0f]] w fun e w' => e = .returned (.bool true) ∧ Below w.heap.size w w' := by
  have k1 := Cf.new w a0a a0b a0c a0d a0e a0f 35
  go_enter Try.func9, Try.ntmps9
  go_wp2_with fail
  refine (Cf.toConfig _ _ _ _ _ _ _).mono ?_
  rintro e w2 ⟨rfl, hb2⟩
  have k2 := Cf.keep hb2 k1
  have ⟨c20, c21, c22, c23, c24, c25⟩ := k2
  have z2 := hb2.size
  (try simp at z2)
  go_wp2_with fail
  refine (Cf.s_ConfigOk _ _ _ _ _ _ _).mono ?_
  rintro e w3 ⟨rfl, hb3⟩
  have k3 := Cf.keep hb3 k2
  have ⟨c30, c31, c32, c33, c34, c35⟩ := k3
  have z3 := hb3.size
  (try simp at z3)
  go_wp2_with fail
  refine (Cf.toConfig _ _ _ _ _ _ _).mono ?_
  rintro e w4 ⟨rfl, hb4⟩
  have k4 := Cf.keep hb4 k3
  have ⟨c40, c41, c42, c43, c44, c45⟩ := k4
  have z4 := hb4.size
  (try simp at z4)
  go_wp2_with fail
  refine (Cf.i_ConfigOk _ _ _ _ _ _ _).mono ?_
  rintro e w5 ⟨rfl, hb5⟩
  have k5 := Cf.keep hb5 k4
  have ⟨c50, c51, c52, c53, c54, c55⟩ := k5
  have z5 := hb5.size
  (try simp at z5)
  go_wp2
  go_ret
  refine ⟨rfl, ?_⟩
  (repeat (first | exact Below.refl _ _ | assumption | refine Below.setCell ?_ (by first | omega | (simp <;> omega)) _ | refine Below.alloc ?_ (by first | omega | (simp <;> omega)) _ | refine Below.drew ?_ | refine below_drewN ?_ _ | refine Below.trans ?_ (Below.mono (by assumption) (by first | omega | (simp <;> omega)))))

/-! The row. -/
set_option maxRecDepth 100000 in
theorem lifted (os : Os) (started : os.Started) (H : Type) (enc : TypeId × Value → H) :
    ReturnsInHanded {} Try.checked os 9 .any (Rows.fnExactConfigOkSpec.pre6 enc Try.prog Try.f9 Rows.fnExactConfigOkRow.domain false) (Rows.fnExactConfigOkSpec.post enc Try.prog Try.f9 false true false false) := by
  refine returnsInHanded_of_change (C := Try.checked) own started (by kernel_rfl) Try.func9
    (ChangeSpec.witness6 (enc := enc) (C := Try.checked) false ⟨#[], #[.agg #[.int .i64 0, .int .i64 0, .int .i64 0, .int .i64 0, .int .i64 0, .int .i64 0]], []⟩ 8 (by kernel_rfl) (by kernel_rfl) (by kernel_rfl) (by kernel_rfl)) ?_
  intro W base args ds gs before hval0 hW hcnd _
  have hval : ∀ (j : Nat) t v, Try.f9.params[j]? = some t → args[j]? = some v → Value.okWide Try.prog W .any base t v := hval0
  have hW' := hW
  obtain ⟨p, q, hA0, hV, rfl, hfz, hnd⟩ := hW
  have hA : DataW.TrodAll enc Try.prog W 0 (fun _ => true) true Try.f9.params.toList args.toList ds p := hA0
  rw [Try.params9] at hA hval
  obtain ⟨v0, vs0, d0, ds0, p0, q0, hargs, rfl, rfl, h0, r0⟩ := trodAll_cons hA
  obtain ⟨rfl, rfl, rfl⟩ := trodAll_nil r0
  obtain rfl : args = #[v0] := by cases args; simp_all
  obtain ⟨rfl, rfl⟩ := trodVars_none hV
  obtain ⟨a0a, a0b, a0c, a0d, a0e, a0f, rfl, rfl, rfl, w0a, w0b, w0c, w0d, w0e, w0f⟩ := Ag.open6 Try.underlying35 (by kernel_rfl) cells35 Try.underlying2 Try.underlying2 Try.underlying2 Try.underlying2 Try.underlying2 Try.underlying2 (hval 0 35 v0 rfl rfl) h0
  clear hA0 hval0
  refine (walk a0a a0b a0c a0d a0e a0f w0a w0b w0c w0d w0e w0f W).mono fun e W' ⟨he, bel⟩ => ?_
  subst he
  exact ⟨_, rfl, _, _, _, [], _, [], hW', trodAll_mk1 (shut_bool Try.underlying4 _), (trodAll_cons_mk (Ag.shut6 Try.underlying35 (by kernel_rfl) cells35 Try.underlying2 Try.underlying2 Try.underlying2 Try.underlying2 Try.underlying2 Try.underlying2 w0a w0b w0c w0d w0e w0f) trodAll_mk0), rfl, bel.frame _, fun h => by cases h⟩

theorem over : Rows.fnExactConfigOkRow.holds Try.pinned (OpenSpec.ofChange Rows.fnExactConfigOkSpec) :=
  OpenClaim.holds_of_wide 9 Try.f9 rfl rfl rfl rfl rfl rfl rfl ⟨rfl, rfl, rfl, rfl, rfl⟩ rfl rfl rfl rfl rfl (by kernel_rfl) Try.func9 (by kernel_rfl)
    (of_decide_eq_true (by kernel_rfl)) (by unfold Func.isWrapper; first | (rw [if_pos (by decide +kernel)]; kernel_rfl) | (rw [if_neg (by decide +kernel)]; exact ⟨rfl, rfl⟩))
    (fun os started H enc _ => lifted os started H enc)

end Go.Proofs.Yteijagcpohiejaa.fnExactConfigOk

namespace Go.Proofs.Yteijagcpohiejaa
/-- The given statement. -/
theorem fnExactConfigOk_holds : Rows.FnExactConfigOkSaid := fnExactConfigOk.over
#print axioms fnExactConfigOk_holds
end Go.Proofs.Yteijagcpohiejaa
