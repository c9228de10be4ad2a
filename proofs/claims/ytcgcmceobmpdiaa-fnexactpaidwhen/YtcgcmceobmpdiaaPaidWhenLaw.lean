/-
  The Go function laws.FnExactPaidWhen answers true at every clock and slew: impl.PaidWhen answers there as spec.PaidWhen. No condition.
-/
import Derived.Test.YtcgcmceobmpdiaaRows
import Derived.WalkKit
import Derived.ProofKit
import Derived.OpenShut
import Derived.ChangeOld
import Derived.Below
import Derived.Lib.SmallJoins
import Derived.Test.YtcgcmceobmpdiaaCk5
namespace Go.Proofs.Ytcgcmceobmpdiaa.fnExactPaidWhen
open Go.ChangeShapes Go.WideShapes Go.ChangeAt Go.RowKit Go.Joins
set_option linter.unusedVariables false
set_option linter.unusedSimpArgs false

theorem own : ownKnob Try.prog.godebug = none := by kernel_rfl
theorem cells40 : Try.prog.cellsOf 40 = 3 := by kernel_rfl


/-! The walk. -/
set_option maxHeartbeats 4000000 in
theorem walk (a0a a0b a0c a1 : Int) (w0a : (Lit.int .i64 a0a).wf = true) (w0b : (Lit.int .i64 a0b).wf = true) (w0c : (Lit.int .i64 a0c).wf = true) (w1 : (Lit.int .i64 a1).wf = true) (w : World) :
    Calls Try.prog 10 #[.agg #[.int .i64 a0a, .int .i64 a0b, .int .i64 a0c], .int .i64 a1] w fun e w' => e = .returned (.bool true) ∧ Below w.heap.size w w' := by
  have R := Rm.Room.new w (Ck.c3 a0a a0b a0c) 40
  have B := (Below.refl w.heap.size w).alloc (Nat.le_refl _) (.cells #[.int .i64 a0a, .int .i64 a0b, .int .i64 a0c] 40)
  go_enter Try.func10, Try.ntmps10
  have c0 := R.cell 0 rfl
  have c1 := R.cell 1 rfl
  have c2 := R.cell 2 rfl
  go_wp2_with fail
  clear c0 c1 c2
  refine (Ck.toClock a0a a0b a0c _).mono ?_
  rintro e wa1 ⟨rfl, b⟩
  replace R := R.below b
  replace B := B.trans (b.mono B.size)
  clear b
  go_wp2_with fail
  refine (Ck.s_PaidWhen a0a a0b a0c a1 _).mono ?_
  rintro e wb1 ⟨rfl, b⟩
  replace R := R.below b
  replace B := B.trans (b.mono B.size)
  clear b
  have c0 := R.cell 0 rfl
  have c1 := R.cell 1 rfl
  have c2 := R.cell 2 rfl
  go_wp2_with fail
  clear c0 c1 c2
  refine (Ck.toClock a0a a0b a0c _).mono ?_
  rintro e wa2 ⟨rfl, b⟩
  replace R := R.below b
  replace B := B.trans (b.mono B.size)
  clear b
  go_wp2_with fail
  refine (Ck.i_PaidWhen a0a a0b a0c a1 _).mono ?_
  rintro e wb2 ⟨rfl, b⟩
  replace R := R.below b
  replace B := B.trans (b.mono B.size)
  clear b
  go_wp2
  go_ret
  exact ⟨rfl, B⟩

/-! The row. -/
set_option maxRecDepth 100000 in
theorem lifted (os : Os) (started : os.Started) (H : Type) (enc : TypeId × Value → H) :
    ReturnsInHanded {} Try.checked os 10 .any (Rows.fnExactPaidWhenSpec.pre6 enc Try.prog Try.f10 Rows.fnExactPaidWhenRow.domain false) (Rows.fnExactPaidWhenSpec.post enc Try.prog Try.f10 false true false false) := by
  refine returnsInHanded_of_change (C := Try.checked) own started (by kernel_rfl) Try.func10
    (ChangeSpec.witness6 (enc := enc) (C := Try.checked) false ⟨#[], #[.agg #[.int .i64 0, .int .i64 0, .int .i64 0], .int .i64 0], []⟩ 8 (by kernel_rfl) (by kernel_rfl) (by kernel_rfl) (by kernel_rfl)) ?_
  intro W base args ds gs before hval0 hW hcnd _
  have hval : ∀ (j : Nat) t v, Try.f10.params[j]? = some t → args[j]? = some v → Value.okWide Try.prog W .any base t v := hval0
  have hW' := hW
  obtain ⟨p, q, hA0, hV, rfl, hfz, hnd⟩ := hW
  have hA : DataW.TrodAll enc Try.prog W 0 (fun _ => true) true Try.f10.params.toList args.toList ds p := hA0
  rw [Try.params10] at hA hval
  obtain ⟨v0, vs0, d0, ds0, p0, q0, hargs, rfl, rfl, h0, r0⟩ := trodAll_cons hA
  obtain ⟨v1, vs1, d1, ds1, p1, q1, rfl, rfl, rfl, h1, r1⟩ := trodAll_cons r0
  obtain ⟨rfl, rfl, rfl⟩ := trodAll_nil r1
  obtain rfl : args = #[v0, v1] := by cases args; simp_all
  obtain ⟨rfl, rfl⟩ := trodVars_none hV
  obtain ⟨c00, c01, c02, y00, y01, y02, m0, rfl, rfl, rfl, hy00, hy01, hy02⟩ := open_agg3 Try.underlying40 (by kernel_rfl) cells40 (hval 0 40 v0 rfl rfl) h0
  obtain ⟨a0a, e00, rfl, w0a⟩ := DataW.trod_int Try.underlying2 hy00
  obtain ⟨a0b, e01, rfl, w0b⟩ := DataW.trod_int Try.underlying2 hy01
  obtain ⟨a0c, e02, rfl, w0c⟩ := DataW.trod_int Try.underlying2 hy02
  simp at e00 e01 e02
  subst e00 e01 e02
  obtain ⟨a1, rfl, rfl, rfl, w1⟩ := open_int Try.underlying2 (hval 1 2 v1 rfl rfl) h1
  clear hA0 hval0
  have reads0 : ∀ (W' : World) (sp : Nat → Bool), DataW.Trod enc Try.prog W' 0 sp true 40 (.agg #[.int .i64 a0a, .int .i64 a0b, .int .i64 a0c]) (.agg [.lit (.int .i64 a0a), .lit (.int .i64 a0b), .lit (.int .i64 a0c)]) [] := fun W' sp =>
    shut_agg3 (y0 := (.lit (.int .i64 a0a), [])) (y1 := (.lit (.int .i64 a0b), [])) (y2 := (.lit (.int .i64 a0c), [])) Try.underlying40 (by kernel_rfl) cells40 ⟨1, by simp [DataW.trod, Try.underlying2, w0a]⟩ ⟨1, by simp [DataW.trod, Try.underlying2, w0b]⟩ ⟨1, by simp [DataW.trod, Try.underlying2, w0c]⟩
  refine (walk a0a a0b a0c a1 w0a w0b w0c w1 W).mono fun e W' ⟨he, bel⟩ => ?_
  subst he
  exact ⟨_, rfl, _, _, _, [], _, [], hW', trodAll_mk1 (shut_bool Try.underlying4 _), (trodAll_cons_mk (reads0 _ _) (trodAll_cons_mk (shut_int Try.underlying2 w1) trodAll_mk0)), rfl, bel.frame _, fun h => by cases h⟩

theorem over : Rows.fnExactPaidWhenRow.holds Try.pinned (OpenSpec.ofChange Rows.fnExactPaidWhenSpec) :=
  OpenClaim.holds_of_wide 10 Try.f10 rfl rfl rfl rfl rfl rfl rfl ⟨rfl, rfl, rfl, rfl, rfl⟩ rfl rfl rfl rfl rfl (by kernel_rfl) Try.func10 (by kernel_rfl)
    (of_decide_eq_true (by kernel_rfl)) (by unfold Func.isWrapper; first | (rw [if_pos (by decide +kernel)]; kernel_rfl) | (rw [if_neg (by decide +kernel)]; exact ⟨rfl, rfl⟩))
    (fun os started H enc _ => lifted os started H enc)

end Go.Proofs.Ytcgcmceobmpdiaa.fnExactPaidWhen

namespace Go.Proofs.Ytcgcmceobmpdiaa
/-- The given statement. -/
theorem fnExactPaidWhen_holds : Rows.FnExactPaidWhenSaid := fnExactPaidWhen.over
#print axioms fnExactPaidWhen_holds
end Go.Proofs.Ytcgcmceobmpdiaa
