/-
  The Go function laws.FnExactSubNs answers true at every two int64s: impl.SubNs answers there as spec.SubNs. No condition.
-/
import Derived.Test.YtcdmabjebohlgahRows
import Derived.WalkKit
import Derived.ProofKit
import Derived.OpenShut
namespace Go.Proofs.Ytcdmabjebohlgah.fnExactSubNs
open Go.ChangeShapes Go.WideShapes Go.ChangeAt Go.RowKit
set_option linter.unusedVariables false

theorem own : ownKnob Try.prog.godebug = none := by kernel_rfl

theorem a_lo (a0 a1 : Int) (w : World) (n1 : ¬ (-4000000000000000000 : Int) ≤ a0) :
    Calls Try.prog 3 #[.int .i64 a0, .int .i64 a1] w fun e w' => e = .returned (.bool true) ∧ Grown w w' := by
  go_enter Try.func3, Try.ntmps3
  go_wp2
  go_ret
  exact ⟨rfl, Grown.refl _⟩

theorem a_hi (a0 a1 : Int) (w : World) (c1 : (-4000000000000000000 : Int) ≤ a0) (n2 : ¬ a0 ≤ 4000000000000000000) :
    Calls Try.prog 3 #[.int .i64 a0, .int .i64 a1] w fun e w' => e = .returned (.bool true) ∧ Grown w w' := by
  go_enter Try.func3, Try.ntmps3
  go_wp2
  go_ret
  exact ⟨rfl, Grown.refl _⟩

theorem b_least (a0 a1 : Int) (w : World) (c1 : (-4000000000000000000 : Int) ≤ a0) (c2 : a0 ≤ 4000000000000000000) (n3 : ¬ (-4000000000000000000 : Int) ≤ a1) (m : wrap64 (-a1) = -9223372036854775808) :
    Calls Try.prog 3 #[.int .i64 a0, .int .i64 a1] w fun e w' => e = .returned (.bool true) ∧ Grown w w' := by
  go_enter Try.func3, Try.ntmps3
  go_wp2
  go_ret
  exact ⟨rfl, Grown.refl _⟩

theorem b_lo (a0 a1 : Int) (w : World) (c1 : (-4000000000000000000 : Int) ≤ a0) (c2 : a0 ≤ 4000000000000000000) (n3 : ¬ (-4000000000000000000 : Int) ≤ a1) (e1 : wrap64 (-a1) = -a1) (d4 : (-4000000000000000000 : Int) ≤ -a1) (nd3 : ¬ -a1 ≤ 4000000000000000000) :
    Calls Try.prog 3 #[.int .i64 a0, .int .i64 a1] w fun e w' => e = .returned (.bool true) ∧ Grown w w' := by
  go_enter Try.func3, Try.ntmps3
  go_wp2
  go_ret
  exact ⟨rfl, Grown.refl _⟩

theorem b_hi (a0 a1 : Int) (w : World) (c1 : (-4000000000000000000 : Int) ≤ a0) (c2 : a0 ≤ 4000000000000000000) (c3 : (-4000000000000000000 : Int) ≤ a1) (n4 : ¬ a1 ≤ 4000000000000000000) (e1 : wrap64 (-a1) = -a1) (nd4 : ¬ (-4000000000000000000 : Int) ≤ -a1) :
    Calls Try.prog 3 #[.int .i64 a0, .int .i64 a1] w fun e w' => e = .returned (.bool true) ∧ Grown w w' := by
  go_enter Try.func3, Try.ntmps3
  go_wp2
  go_ret
  exact ⟨rfl, Grown.refl _⟩

theorem in_lo (a0 a1 : Int) (w : World) (c1 : (-4000000000000000000 : Int) ≤ a0) (c2 : a0 ≤ 4000000000000000000) (c3 : (-4000000000000000000 : Int) ≤ a1) (c4 : a1 ≤ 4000000000000000000) (d3 : -a1 ≤ 4000000000000000000) (d4 : (-4000000000000000000 : Int) ≤ -a1) (e1 : wrap64 (-a1) = -a1) (ea : a0 + -a1 = a0 - a1) (e3 : wrap64 (a0 - a1) = a0 - a1) (n5 : ¬ (-4000000000000000000 : Int) ≤ a0 - a1) :
    Calls Try.prog 3 #[.int .i64 a0, .int .i64 a1] w fun e w' => e = .returned (.bool true) ∧ Grown w w' := by
  go_enter Try.func3, Try.ntmps3
  go_wp2
  go_ret
  exact ⟨rfl, Grown.refl _⟩

theorem in_hi (a0 a1 : Int) (w : World) (c1 : (-4000000000000000000 : Int) ≤ a0) (c2 : a0 ≤ 4000000000000000000) (c3 : (-4000000000000000000 : Int) ≤ a1) (c4 : a1 ≤ 4000000000000000000) (d3 : -a1 ≤ 4000000000000000000) (d4 : (-4000000000000000000 : Int) ≤ -a1) (e1 : wrap64 (-a1) = -a1) (ea : a0 + -a1 = a0 - a1) (e3 : wrap64 (a0 - a1) = a0 - a1) (c5 : (-4000000000000000000 : Int) ≤ a0 - a1) (n6 : ¬ a0 - a1 ≤ 4000000000000000000) :
    Calls Try.prog 3 #[.int .i64 a0, .int .i64 a1] w fun e w' => e = .returned (.bool true) ∧ Grown w w' := by
  go_enter Try.func3, Try.ntmps3
  go_wp2
  go_ret
  exact ⟨rfl, Grown.refl _⟩

theorem in_all (a0 a1 : Int) (w : World) (c1 : (-4000000000000000000 : Int) ≤ a0) (c2 : a0 ≤ 4000000000000000000) (c3 : (-4000000000000000000 : Int) ≤ a1) (c4 : a1 ≤ 4000000000000000000) (d3 : -a1 ≤ 4000000000000000000) (d4 : (-4000000000000000000 : Int) ≤ -a1) (e1 : wrap64 (-a1) = -a1) (ea : a0 + -a1 = a0 - a1) (e3 : wrap64 (a0 - a1) = a0 - a1) (c5 : (-4000000000000000000 : Int) ≤ a0 - a1) (c6 : a0 - a1 ≤ 4000000000000000000) :
    Calls Try.prog 3 #[.int .i64 a0, .int .i64 a1] w fun e w' => e = .returned (.bool true) ∧ Grown w w' := by
  go_enter Try.func3, Try.ntmps3
  go_wp2
  go_ret
  exact ⟨rfl, Grown.refl _⟩


/-! The walk. -/
theorem walk (a0 : Int) (a1 : Int) (w0 : (Lit.int .i64 a0).wf = true) (w1 : (Lit.int .i64 a1).wf = true) (w : World) :
    Calls Try.prog 3 #[.int .i64 a0, .int .i64 a1] w fun e w' => e = .returned (.bool true) ∧ Grown w w' := by
  have b1 := bounds_i64 w1
  by_cases c1 : (-4000000000000000000 : Int) ≤ a0
  · by_cases c2 : a0 ≤ 4000000000000000000
    · by_cases c3 : (-4000000000000000000 : Int) ≤ a1
      · have d3 : -a1 ≤ 4000000000000000000 := by omega
        have e1 : wrap64 (-a1) = -a1 := by unfold wrap64; omega
        by_cases c4 : a1 ≤ 4000000000000000000
        · have d4 : -4000000000000000000 ≤ -a1 := by omega
          have ea : a0 + -a1 = a0 - a1 := by omega
          have e3 : wrap64 (a0 - a1) = a0 - a1 := by unfold wrap64; omega
          by_cases c5 : (-4000000000000000000 : Int) ≤ a0 - a1
          · by_cases c6 : a0 - a1 ≤ 4000000000000000000
            · exact in_all a0 a1 w c1 c2 c3 c4 d3 d4 e1 ea e3 c5 c6
            · exact in_hi a0 a1 w c1 c2 c3 c4 d3 d4 e1 ea e3 c5 c6
          · exact in_lo a0 a1 w c1 c2 c3 c4 d3 d4 e1 ea e3 c5
        · have d4 : ¬ -4000000000000000000 ≤ -a1 := by omega
          exact b_hi a0 a1 w c1 c2 c3 c4 e1 d4
      · by_cases c0 : a1 = -9223372036854775808
        · exact b_least a0 a1 w c1 c2 c3 (by subst c0; unfold wrap64; omega)
        · have e1 : wrap64 (-a1) = -a1 := by unfold wrap64; omega
          exact b_lo a0 a1 w c1 c2 c3 e1 (by omega) (by omega)
    · exact a_hi a0 a1 w c1 c2
  · exact a_lo a0 a1 w c1

/-! The row. -/
set_option maxRecDepth 100000 in
theorem lifted (os : Os) (started : os.Started) (H : Type) (enc : TypeId × Value → H) :
    ReturnsInHanded {} Try.checked os 3 .any (Rows.fnExactSubNsSpec.pre6 enc Try.prog Try.f3 Rows.fnExactSubNsRow.domain false) (Rows.fnExactSubNsSpec.post enc Try.prog Try.f3 false true false false) := by
  refine returnsInHanded_of_change (C := Try.checked) own started (by kernel_rfl) Try.func3
    (ChangeSpec.witness6 (enc := enc) (C := Try.checked) false ⟨#[], #[.int .i64 0, .int .i64 0], []⟩ 8 (by kernel_rfl) (by kernel_rfl) (by kernel_rfl) (by kernel_rfl)) ?_
  intro W base args ds gs before hval0 hW hcnd _
  have hval : ∀ (j : Nat) t v, Try.f3.params[j]? = some t → args[j]? = some v → Value.okWide Try.prog W .any base t v := hval0
  have hW' := hW
  obtain ⟨p, q, hA0, hV, rfl, hfz, hnd⟩ := hW
  have hA : DataW.TrodAll enc Try.prog W 0 (fun _ => true) true Try.f3.params.toList args.toList ds p := hA0
  rw [Try.params3] at hA hval
  obtain ⟨v0, vs0, d0, ds0, p0, q0, hargs, rfl, rfl, h0, r0⟩ := trodAll_cons hA
  obtain ⟨v1, vs1, d1, ds1, p1, q1, rfl, rfl, rfl, h1, r1⟩ := trodAll_cons r0
  obtain ⟨rfl, rfl, rfl⟩ := trodAll_nil r1
  obtain rfl : args = #[v0, v1] := by cases args; simp_all
  obtain ⟨rfl, rfl⟩ := trodVars_none hV
  obtain ⟨a0, rfl, rfl, rfl, w0⟩ := open_int Try.underlying2 (hval 0 2 v0 rfl rfl) h0
  obtain ⟨a1, rfl, rfl, rfl, w1⟩ := open_int Try.underlying2 (hval 1 2 v1 rfl rfl) h1
  clear hA0 hval0
  simp only [List.append_nil] at hW'
  refine (walk a0 a1 w0 w1 W).mono fun e W' ⟨he, hg⟩ => ?_
  subst he
  exact ⟨_, rfl, post_of_same (pa := []) (pv := []) hW' (fun _ _ _ => (trodAll_cons_mk (shut_bool Try.underlying4 _) trodAll_mk0)) (fun sp _ => (trodAll_cons_mk (shut_int Try.underlying2 w0) (trodAll_cons_mk (shut_int Try.underlying2 w1) trodAll_mk0))) (fun _ _ => rfl) rfl
    (hg.frame _) hg.2.1 (ok_one (by kernel_rfl) rfl (okWide_bool_mk Try.underlying4 _))⟩

theorem over : Rows.fnExactSubNsRow.holds Try.pinned (OpenSpec.ofChange Rows.fnExactSubNsSpec) :=
  OpenClaim.holds_of_wide 3 Try.f3 rfl rfl rfl rfl rfl rfl rfl ⟨rfl, rfl, rfl, rfl, rfl⟩ rfl rfl rfl rfl rfl (by kernel_rfl) Try.func3 (by kernel_rfl)
    (of_decide_eq_true (by kernel_rfl)) (by unfold Func.isWrapper; first | (rw [if_pos (by decide +kernel)]; kernel_rfl) | (rw [if_neg (by decide +kernel)]; exact ⟨rfl, rfl⟩))
    (fun os started H enc _ => lifted os started H enc)

end Go.Proofs.Ytcdmabjebohlgah.fnExactSubNs

namespace Go.Proofs.Ytcdmabjebohlgah
/-- The given statement. -/
theorem fnExactSubNs_holds : Rows.FnExactSubNsSaid := fnExactSubNs.over
#print axioms fnExactSubNs_holds
end Go.Proofs.Ytcdmabjebohlgah
