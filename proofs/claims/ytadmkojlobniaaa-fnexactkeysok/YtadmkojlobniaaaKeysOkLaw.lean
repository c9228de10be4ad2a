/-
  KeysOk answers as its model at every list of keys, and writes into none.
-/
import Derived.Test.YtadmkojlobniaaaRows
import Derived.WalkKit
import Derived.ProofKit
import Derived.OpenShut
import Derived.ChangeOld
import Derived.Below
import Derived.Lib.SmallJoins
import Derived.Test.YtadmkojlobniaaaOpW
import Derived.Test.YtadmkojlobniaaaOpS
import Derived.Test.YtadmkojlobniaaaSl2
namespace Go.Proofs.Ytadmkojlobniaaa.fnExactKeysOk
open Go.ChangeShapes Go.WideShapes Go.ChangeAt Go.RowKit Go.Joins
set_option linter.unusedVariables false
set_option linter.unusedSimpArgs false

theorem own : ownKnob Try.prog.godebug = none := by kernel_rfl
theorem laidOut : laidOutB Try.prog = true := by kernel_rfl


/-! The walk. -/
set_option maxHeartbeats 20000000 in
set_option maxRecDepth 100000 in
theorem walk (b : Option Addr) (m mb : Nat) (os : List Int) (w : World) (hs : Ls.Row w w.heap.size b m os) (lm : m ≤ maxLen) :
    Calls Try.prog 4 #[.slice b m mb] w fun e w' => e = .returned (.bool true) ∧ Below w.heap.size w w' := by
  have BZ := Below.refl w.heap.size w
  by_cases hl : m ≤ 1048576
  case neg =>
    have d : decide ((1048576 : Int) < m) = true := decide_eq_true (by omega)
    go_enter Try.func4, Try.ntmps4
    go_wp2
    go_ret
    exact ⟨rfl, BZ⟩
  case pos =>
    have d : decide ((1048576 : Int) < m) = false := decide_eq_false (by omega)
    go_enter Try.func4, Try.ntmps4
    go_wp2_with fail
    refine (Ls.toInt64S _ _ _ os _ ((hs.later BZ (Nat.le_refl _)).more BZ.size) hl).mono ?_
    rintro e w1 ⟨⟨g1, rfl, _, r1⟩, b1⟩
    have B := BZ.trans (b1.mono BZ.size)
    go_wp2_with fail
    refine (Sl.s_KeysOk _ _ _ os _ r1 hl).mono ?_
    rintro e w2 ⟨rfl, rfl⟩
    go_wp2_with fail
    refine (Ls.toInt64S _ _ _ os _ ((hs.later B (Nat.le_refl _)).more B.size) hl).mono ?_
    rintro e w3 ⟨⟨g3, rfl, _, r3⟩, b3⟩
    replace B := B.trans (b3.mono B.size)
    go_wp2_with fail
    refine (Sl.i_KeysOk _ _ _ os _ r3 hl).mono ?_
    rintro e w4 ⟨rfl, b4⟩
    replace B := B.trans (b4.mono B.size)
    replace r3 := (r3.later b4 (Nat.le_refl _)).more b4.size
    go_wp2_with fail
    refine (Ls.toInt64S _ _ _ os _ ((hs.later B (Nat.le_refl _)).more B.size) hl).mono ?_
    rintro e w5 ⟨⟨g5, rfl, _, r5⟩, b5⟩
    replace B := B.trans (b5.mono B.size)
    replace r3 := (r3.later b5 (Nat.le_refl _)).more b5.size
    clear b5
    go_wp2_with fail
    refine (Ls.eqInt64S _ _ _ _ _ os _ r3 r5 hl).mono ?_
    rintro e w6 ⟨rfl, b6⟩
    replace B := B.trans (b6.mono B.size)
    go_wp2
    go_ret
    exact ⟨rfl, B⟩

/-! The row. -/
set_option maxRecDepth 100000 in
theorem lifted (os : Os) (started : os.Started) (H : Type) (enc : TypeId × Value → H) :
    ReturnsInHanded {} Try.checked os 4 .any (Rows.fnExactKeysOkSpec.pre6 enc Try.prog Try.f4 Rows.fnExactKeysOkRow.domain false) (Rows.fnExactKeysOkSpec.post enc Try.prog Try.f4 false true false false) := by
  refine returnsInHanded_of_change (C := Try.checked) own started (by kernel_rfl) Try.func4
    (ChangeSpec.witness6 (enc := enc) (C := Try.checked) false ⟨#[], #[.slice none 0 0], []⟩ 8 (by kernel_rfl) (by kernel_rfl) (by kernel_rfl) (by kernel_rfl)) ?_
  intro W base args ds gs before hval0 hW hcnd _
  have hval : ∀ (j : Nat) t v, Try.f4.params[j]? = some t → args[j]? = some v → Value.okWide Try.prog W .any base t v := hval0
  have hW' := hW
  obtain ⟨p, q, hA0, hV, rfl, hfz, hnd⟩ := hW
  have hA : DataW.TrodAll enc Try.prog W 0 (fun _ => true) true Try.f4.params.toList args.toList ds p := hA0
  rw [Try.params4] at hA hval
  obtain ⟨v0, vs0, d0, ds0, p0, q0, hargs, rfl, rfl, h0, r0⟩ := trodAll_cons hA
  obtain ⟨rfl, rfl, rfl⟩ := trodAll_nil r0
  obtain rfl : args = #[v0] := by cases args; simp_all
  obtain ⟨rfl, rfl⟩ := trodVars_none hV
  have k0' := h0
  have lt0' : ∀ x ∈ p0, x.block < W.heap.size := by obtain ⟨m, hm⟩ := k0'; exact DataW.trod_lt m _ _ _ hm
  have rd0 := Rd.Reads.of h0
  obtain ⟨b, m, mb, rfl⟩ := okWide_slice Try.underlying29 (hval 0 29 v0 rfl rfl)
  obtain ⟨b_0, m_0, mb_0, os, e0, hs, lm, _⟩ := rd0.ints Try.underlying29 Try.underlying2 Rd.cells_int
  simp [Value.cells] at e0
  obtain ⟨rfl, rfl, rfl⟩ := e0
  clear hA0 hval0
  refine (walk b m mb os W hs lm).mono fun e W' ⟨he, bel⟩ => ?_
  subst he
  exact ⟨_, rfl, _, _, _, [], _, [], hW', trodAll_mk1 (shut_bool Try.underlying4 _), (trodAll_cons_mk (Below.trod laidOut (by kernel_rfl) (of_decide_eq_true (by kernel_rfl)) k0' bel lt0') trodAll_mk0), rfl, bel.frame _, fun h => by cases h⟩

theorem over : Rows.fnExactKeysOkRow.holds Try.pinned (OpenSpec.ofChange Rows.fnExactKeysOkSpec) :=
  OpenClaim.holds_of_wide 4 Try.f4 rfl rfl rfl rfl rfl rfl rfl ⟨rfl, rfl, rfl, rfl, rfl⟩ rfl rfl rfl rfl rfl (by kernel_rfl) Try.func4 (by kernel_rfl)
    (of_decide_eq_true (by kernel_rfl)) (by unfold Func.isWrapper; first | (rw [if_pos (by decide +kernel)]; kernel_rfl) | (rw [if_neg (by decide +kernel)]; exact ⟨rfl, rfl⟩))
    (fun os started H enc _ => lifted os started H enc)

end Go.Proofs.Ytadmkojlobniaaa.fnExactKeysOk

namespace Go.Proofs.Ytadmkojlobniaaa
/-- The given statement. -/
theorem fnExactKeysOk_holds : Rows.FnExactKeysOkSaid := fnExactKeysOk.over
#print axioms fnExactKeysOk_holds
end Go.Proofs.Ytadmkojlobniaaa
