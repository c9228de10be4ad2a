/-
  The Go function laws.FnExactMiddleOf answers true at every list of int64s and every f: impl.MiddleOf answers there as spec.MiddleOf, and leaves the list as it was. No condition.
-/
import Derived.Test.YtpablkflchcjiaaRows
import Derived.WalkKit
import Derived.ProofKit
import Derived.OpenShut
import Derived.ShutString
import Derived.ChangeOld
import Derived.Below
import Derived.Test.YtpablkflchcjiaaMid
namespace Go.Proofs.Ytpablkflchcjiaa.fnExactMiddleOf
open Go.ChangeShapes Go.WideShapes Go.ChangeAt Go.RowKit
open Go.ChangeMaps (open_string shut_string)
set_option linter.unusedVariables false
set_option linter.unusedSimpArgs false

theorem own : ownKnob Try.prog.godebug = none := by kernel_rfl
theorem laidOut : laidOutB Try.prog = true := by kernel_rfl

/-- WHAT THE WALK IS TOLD OF A SLICE OF INTEGERS THAT CAME IN: it is nil; or it leads to a row of 'cap' cells, the numbers 'zs' (the first 'len' are its elements, the rest its spare room), each fitting its kind. -/
def IsRow (k : IntKind) (w : World) (a : Option Addr) (len cap : Nat) (zs : List Int) : Prop :=
  (a = none ∧ len = 0 ∧ cap = 0 ∧ zs = []) ∨
  ∃ x, a = some x ∧ len ≤ cap ∧ cap ≤ maxLen ∧ zs.length = cap ∧ (∀ i, i < zs.length → w.cell? (x.add i) = some (.int k (zs.getD i 0))) ∧ ∀ n ∈ zs, (Lit.int k n).wf = true

theorem row_of {w : World} {a : Option Addr} {len cap : Nat} {zs : List Int} (h : IsRow .i64 w a len cap zs) : Ls.Row w w.heap.size a len (zs.take len) := by
  rcases h with ⟨_, h1, h2, h3⟩ | ⟨x, rfl, h1, h2, h3, h4, h5⟩
  · subst h1 h2 h3
    exact ⟨rfl, .inl rfl⟩
  · refine ⟨by simp; omega, ?_⟩
    by_cases h0 : len = 0
    · exact .inl h0
    · obtain ⟨b, off, spot⟩ := x
      have hc := h4 0 (by omega)
      have hs : spot = none := by simpa [Addr.add] using World.cell?_spot hc
      subst hs
      have hb := World.block_lt_of_cell? _ _ hc
      refine .inr ⟨b, off, rfl, by simpa [Addr.add] using hb, fun k hk => ?_⟩
      have hk4 := h4 k (by omega)
      have e : Ls.el (zs.take len) k = zs.getD k 0 := by simp [Ls.el, List.getD, hk]
      rw [e]
      by_cases hk0 : k = 0
      · subst hk0; simpa [Addr.add] using hk4
      · simpa [Addr.add, hk0] using hk4

/-! The walk. -/
set_option maxHeartbeats 20000000 in
set_option maxRecDepth 100000 in
theorem walk (a0 : Option Addr) (len0 cap0 : Nat) (z0 : List Int) (a1 : Int) (w : World) (w0 : IsRow .i64 w a0 len0 cap0 z0) (w1 : (Lit.int .i64 a1).wf = true) :
    Calls Try.prog 8 #[.slice a0 len0 cap0, .int .i64 a1] w fun e w' => e = .returned (.bool true) ∧ Below w.heap.size w w' := by
  by_cases hl : len0 ≤ 1048576
  · have r0 := row_of w0
    clear w0
    have hl' : ¬ (1048576 : Int) < len0 := by omega
    generalize z0.take len0 = zs at r0
    go_enter Try.func8, Try.ntmps8
    go_wp2_with fail
    refine (Ow.copied _ _ _ zs _ r0 hl).mono ?_
    rintro e x1 ⟨⟨g1, rfl, h1⟩, b1⟩
    have s1 := b1.size
    go_wp2_with fail
    refine (Tr.s_MiddleOf g1 0 len0 len0 a1 zs _ h1.1 h1.2.2.1 h1.2.2.2.1 hl).mono ?_
    rintro e x2 ⟨rfl, b2⟩
    have s2 := b2.size
    have B2 := b1.trans (b2.mono s1)
    clear h1
    go_wp2_with fail
    refine (Ow.copied _ _ _ zs _ ((r0.later B2 (Nat.le_refl _)).more (by omega)) hl).mono ?_
    rintro e x3 ⟨⟨g3, rfl, h3⟩, b3⟩
    have s3 := b3.size
    have B3 := B2.trans (b3.mono (by omega))
    go_wp2_with fail
    refine (Tr.i_MiddleOf g3 0 len0 len0 a1 zs _ h3.1 h3.2.2.1 h3.2.2.2.1 hl).mono ?_
    rintro e x4 ⟨rfl, b4⟩
    have s4 := b4.size
    have B4 := B3.trans (b4.mono (by omega))
    have h3 := h3.later b4 h3.2.2.1
    go_wp2_with fail
    refine (Ow.copied _ _ _ zs _ ((r0.later B4 (Nat.le_refl _)).more (by omega)) hl).mono ?_
    rintro e x6 ⟨⟨g6, rfl, h6⟩, b6⟩
    have s6 := b6.size
    have B6 := B4.trans (b6.mono (by omega))
    have h3 := h3.later b6 h3.2.2.1
    go_wp2_with fail
    refine (Ls.eqInt64S _ _ _ _ _ zs _ h3.row h6.row hl).mono ?_
    rintro e x7 ⟨rfl, b7⟩
    have s7 := b7.size
    have B7 := B6.trans (b7.mono (by omega))
    go_wp2
    go_ret
    exact ⟨rfl, B7⟩
  · have hl' : (1048576 : Int) < len0 := by omega
    go_enter Try.func8, Try.ntmps8
    go_wp2
    go_ret
    exact ⟨rfl, Below.refl _ _⟩

/-! The row. -/
set_option maxRecDepth 100000 in
theorem lifted (os : Os) (started : os.Started) (H : Type) (enc : TypeId × Value → H) :
    ReturnsInHanded {} Try.checked os 8 .any (Rows.fnExactMiddleOfSpec.pre6 enc Try.prog Try.f8 Rows.fnExactMiddleOfRow.domain false) (Rows.fnExactMiddleOfSpec.post enc Try.prog Try.f8 false true false false) := by
  refine returnsInHanded_of_change (C := Try.checked) own started (by kernel_rfl) Try.func8
    (ChangeSpec.witness6 (enc := enc) (C := Try.checked) false ⟨#[], #[.slice none 0 0, .int .i64 0], []⟩ 8 (by kernel_rfl) (by kernel_rfl) (by kernel_rfl) (by kernel_rfl)) ?_
  intro W base args ds gs before hval0 hW hcnd _
  have hval : ∀ (j : Nat) t v, Try.f8.params[j]? = some t → args[j]? = some v → Value.okWide Try.prog W .any base t v := hval0
  have hW' := hW
  obtain ⟨p, q, hA0, hV, rfl, hfz, hnd⟩ := hW
  have hA : DataW.TrodAll enc Try.prog W 0 (fun _ => true) true Try.f8.params.toList args.toList ds p := hA0
  rw [Try.params8] at hA hval
  obtain ⟨v0, vs0, d0, ds0, p0, q0, hargs, rfl, rfl, h0, r0⟩ := trodAll_cons hA
  obtain ⟨v1, vs1, d1, ds1, p1, q1, rfl, rfl, rfl, h1, r1⟩ := trodAll_cons r0
  obtain ⟨rfl, rfl, rfl⟩ := trodAll_nil r1
  obtain rfl : args = #[v0, v1] := by cases args; simp_all
  obtain ⟨rfl, rfl⟩ := trodVars_none hV
  obtain ⟨a0, len0, cap0, rfl⟩ := okWide_slice Try.underlying27 (hval 0 27 v0 rfl rfl)
  have k0 := h0
  have lt0 : ∀ x ∈ p0, x.block < W.heap.size := by obtain ⟨m, hm⟩ := k0; exact DataW.trod_lt m _ _ _ hm
  obtain ⟨z0, w0⟩ : ∃ zs, IsRow .i64 W a0 len0 cap0 zs := by
    obtain ⟨fuel, hf⟩ := h0
    rcases open_ints Try.underlying27 Try.underlying2 (by kernel_rfl) hf with ⟨hcs, _⟩ | ⟨x, l, c, zs, hcs, _, hl, hm, hz, _, hcell, hwz⟩
    · simp [Value.cells] at hcs
      obtain ⟨rfl, rfl, rfl⟩ := hcs
      exact ⟨[], .inl ⟨rfl, rfl, rfl, rfl⟩⟩
    · simp [Value.cells] at hcs
      obtain ⟨rfl, rfl, rfl⟩ := hcs
      exact ⟨zs, .inr ⟨_, rfl, hl, hm, by simpa using hz, hcell, hwz⟩⟩
  obtain ⟨a1, rfl, rfl, rfl, w1⟩ := open_int Try.underlying2 (hval 1 2 v1 rfl rfl) h1
  clear hA0 hval0
  refine (walk a0 len0 cap0 z0 a1 W w0 w1).mono fun e W' ⟨he, bel⟩ => ?_
  subst he
  exact ⟨_, rfl, _, _, _, [], _, [], hW', trodAll_mk1 (shut_bool Try.underlying4 _), (trodAll_cons_mk (Below.trod laidOut (by kernel_rfl) (of_decide_eq_true (by kernel_rfl)) k0 bel lt0) (trodAll_cons_mk (shut_int Try.underlying2 w1) trodAll_mk0)), rfl, bel.frame _, fun h => by cases h⟩

theorem over : Rows.fnExactMiddleOfRow.holds Try.pinned (OpenSpec.ofChange Rows.fnExactMiddleOfSpec) :=
  OpenClaim.holds_of_wide 8 Try.f8 rfl rfl rfl rfl rfl rfl rfl ⟨rfl, rfl, rfl, rfl, rfl⟩ rfl rfl rfl rfl rfl (by kernel_rfl) Try.func8 (by kernel_rfl)
    (of_decide_eq_true (by kernel_rfl)) (by unfold Func.isWrapper; first | (rw [if_pos (by decide +kernel)]; kernel_rfl) | (rw [if_neg (by decide +kernel)]; exact ⟨rfl, rfl⟩))
    (fun os started H enc _ => lifted os started H enc)

end Go.Proofs.Ytpablkflchcjiaa.fnExactMiddleOf

namespace Go.Proofs.Ytpablkflchcjiaa
/-- The given statement. -/
theorem fnExactMiddleOf_holds : Rows.FnExactMiddleOfSaid := fnExactMiddleOf.over
#print axioms fnExactMiddleOf_holds
end Go.Proofs.Ytpablkflchcjiaa
