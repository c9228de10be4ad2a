/-
  SealOf answers as its model at every list of keys, round and node, and writes into no list.
-/
import Derived.Test.YtadmkojlobniaaaRows
import Derived.WalkKit
import Derived.ProofKit
import Derived.OpenShut
import Derived.ChangeOld
import Derived.Below
import Derived.Lib.SmallJoins
import Derived.Test.YtadmkojlobniaaaOpW
import Derived.Test.YtadmkojlobniaaaOpS
import Derived.Test.YtadmkojlobniaaaSl2
namespace Go.Proofs.Ytadmkojlobniaaa.fnExactSealOf
open Go.ChangeShapes Go.WideShapes Go.ChangeAt Go.RowKit Go.Joins
set_option linter.unusedVariables false
set_option linter.unusedSimpArgs false

theorem own : ownKnob Try.prog.godebug = none := by kernel_rfl
theorem laidOut : laidOutB Try.prog = true := by kernel_rfl


/-! The walk. -/
set_option maxHeartbeats 20000000 in
set_option maxRecDepth 100000 in
theorem walk (b : Option Addr) (m mb : Nat) (os : List Int) (i1 : Int) (i2 : Int) (w : World) (hs : Ls.Row w w.heap.size b m os) (lm : m ≤ maxLen) (wf1 : (Lit.int .i64 i1).wf = true) (wf2 : (Lit.int .i64 i2).wf = true) :
    Calls Try.prog 5 #[.slice b m mb, .int .i64 i1, .int .i64 i2] w fun e w' => e = .returned (.bool true) ∧ Below w.heap.size w w' := by
  have BZ := Below.refl w.heap.size w
  by_cases hl : m ≤ 1048576
  case neg =>
    have d : decide ((1048576 : Int) < m) = true := decide_eq_true (by omega)
    go_enter Try.func5, Try.ntmps5
    go_wp2
    go_ret
    exact ⟨rfl, BZ⟩
  case pos =>
    have d : decide ((1048576 : Int) < m) = false := decide_eq_false (by omega)
    go_enter Try.func5, Try.ntmps5
    go_wp2_with fail
    refine (Ls.toInt64S _ _ _ os _ ((hs.later BZ (Nat.le_refl _)).more BZ.size) hl).mono ?_
    rintro e w1 ⟨⟨g1, rfl, _, r1⟩, b1⟩
    have B := BZ.trans (b1.mono BZ.size)
    go_wp2_with fail
    refine (Sl.s_SealOf _ _ _ os i1 i2 _ r1 hl).mono ?_
    rintro e w2 ⟨rfl, b2⟩
    replace B := B.trans (b2.mono B.size)
    clear b2 r1 b1
    obtain ⟨q1, hq1⟩ : ∃ q, Sl.S1 os m i1 i2 = q := ⟨_, rfl⟩
    obtain ⟨q2, hq2⟩ : ∃ q, Sl.S2 os m i1 i2 = q := ⟨_, rfl⟩
    obtain ⟨q3, hq3⟩ : ∃ q, Sl.TT os m i1 i2 = q := ⟨_, rfl⟩
    obtain ⟨q4, hq4⟩ : ∃ q, Sl.SO os m i1 i2 = q := ⟨_, rfl⟩
    have HA : Hid (Sl.SA os m i1 i2 = .returned (.tuple #[Sl.sl q1 q2 q3, .bool q4])) := by rw [Sl.SA, hq1, hq2, hq3, hq4]; rfl
    clear hq1 hq2 hq3 hq4
    rw [HA.out]
    have R := Rm.Room.new w2 (Sl.c3 q1 q2 q3) 39
    replace B := B.alloc B.size (.cells #[.int .i64 q1, .int .i64 q2, .int .i64 q3] 39)
    go_wp2_with fail
    refine (Ls.toInt64S _ _ _ os _ ((hs.later B (Nat.le_refl _)).more B.size) hl).mono ?_
    rintro e w3 ⟨⟨g3, rfl, _, r3⟩, b3⟩
    replace B := B.trans (b3.mono B.size)
    replace R := R.below b3
    have lR := R.lt (by simp)
    go_wp2_with fail
    refine (Sl.i_SealOf _ _ _ os i1 i2 _ r3 hl).mono ?_
    rintro e w4 ⟨rfl, b4⟩
    replace B := B.trans (b4.mono B.size)
    replace R := R.below b4
    replace r3 := (r3.later b4 (Nat.le_refl _)).more b4.size
    clear b3 b4
    rw [HA.out]
    have bq := (Below.refl w4.heap.size w4).alloc (Nat.le_refl _) (.cells #[.int .i64 q1, .int .i64 q2, .int .i64 q3] 39)
    have Q := Rm.Room.new w4 (Sl.c3 q1 q2 q3) 39
    replace B := B.trans (bq.mono B.size)
    replace R := R.below bq
    replace r3 := (r3.later bq (Nat.le_refl _)).more bq.size
    have c0 := R.cell 0 rfl
    have c1 := R.cell 1 rfl
    have c2 := R.cell 2 rfl
    have d0 := Q.cell 0 rfl
    have d1 := Q.cell 1 rfl
    have d2 := Q.cell 2 rfl
    go_wp2_with fail
    clear c0 c1 c2 d0 d1 d2
    refine (Sl.eqSeal q1 q2 q3 _).mono ?_
    rintro e w9 ⟨rfl, b9⟩
    replace B := B.trans (b9.mono B.size)
    replace r3 := (r3.later b9 (Nat.le_refl _)).more b9.size
    clear b9 bq
    go_wp2_with fail
    refine (Ls.toInt64S _ _ _ os _ ((hs.later B (Nat.le_refl _)).more B.size) hl).mono ?_
    rintro e w5 ⟨⟨g5, rfl, _, r5⟩, b5⟩
    replace B := B.trans (b5.mono B.size)
    replace r3 := (r3.later b5 (Nat.le_refl _)).more b5.size
    clear b5
    go_wp2_with fail
    refine (Ls.eqInt64S _ _ _ _ _ os _ r3 r5 hl).mono ?_
    rintro e w6 ⟨rfl, b6⟩
    replace B := B.trans (b6.mono B.size)
    go_wp2
    go_ret
    exact ⟨rfl, B⟩

/-! The row. -/
set_option maxRecDepth 100000 in
theorem lifted (os : Os) (started : os.Started) (H : Type) (enc : TypeId × Value → H) :
    ReturnsInHanded {} Try.checked os 5 .any (Rows.fnExactSealOfSpec.pre6 enc Try.prog Try.f5 Rows.fnExactSealOfRow.domain false) (Rows.fnExactSealOfSpec.post enc Try.prog Try.f5 false true false false) := by
  refine returnsInHanded_of_change (C := Try.checked) own started (by kernel_rfl) Try.func5
    (ChangeSpec.witness6 (enc := enc) (C := Try.checked) false ⟨#[], #[.slice none 0 0, .int .i64 0, .int .i64 0], []⟩ 8 (by kernel_rfl) (by kernel_rfl) (by kernel_rfl) (by kernel_rfl)) ?_
  intro W base args ds gs before hval0 hW hcnd _
  have hval : ∀ (j : Nat) t v, Try.f5.params[j]? = some t → args[j]? = some v → Value.okWide Try.prog W .any base t v := hval0
  have hW' := hW
  obtain ⟨p, q, hA0, hV, rfl, hfz, hnd⟩ := hW
  have hA : DataW.TrodAll enc Try.prog W 0 (fun _ => true) true Try.f5.params.toList args.toList ds p := hA0
  rw [Try.params5] at hA hval
  obtain ⟨v0, vs0, d0, ds0, p0, q0, hargs, rfl, rfl, h0, r0⟩ := trodAll_cons hA
  obtain ⟨v1, vs1, d1, ds1, p1, q1, rfl, rfl, rfl, h1, r1⟩ := trodAll_cons r0
  obtain ⟨v2, vs2, d2, ds2, p2, q2, rfl, rfl, rfl, h2, r2⟩ := trodAll_cons r1
  obtain ⟨rfl, rfl, rfl⟩ := trodAll_nil r2
  obtain rfl : args = #[v0, v1, v2] := by cases args; simp_all
  obtain ⟨rfl, rfl⟩ := trodVars_none hV
  have k0' := h0
  have lt0' : ∀ x ∈ p0, x.block < W.heap.size := by obtain ⟨m, hm⟩ := k0'; exact DataW.trod_lt m _ _ _ hm
  have rd0 := Rd.Reads.of h0
  obtain ⟨b, m, mb, rfl⟩ := okWide_slice Try.underlying29 (hval 0 29 v0 rfl rfl)
  obtain ⟨b_0, m_0, mb_0, os, e0, hs, lm, _⟩ := rd0.ints Try.underlying29 Try.underlying2 Rd.cells_int
  simp [Value.cells] at e0
  obtain ⟨rfl, rfl, rfl⟩ := e0
  have k1' := h1
  have lt1' : ∀ x ∈ p1, x.block < W.heap.size := by obtain ⟨m, hm⟩ := k1'; exact DataW.trod_lt m _ _ _ hm
  obtain ⟨i1, rfl, rfl, rfl, wf1⟩ := open_int Try.underlying2 (hval 1 2 v1 rfl rfl) h1
  have k2' := h2
  have lt2' : ∀ x ∈ p2, x.block < W.heap.size := by obtain ⟨m, hm⟩ := k2'; exact DataW.trod_lt m _ _ _ hm
  obtain ⟨i2, rfl, rfl, rfl, wf2⟩ := open_int Try.underlying2 (hval 2 2 v2 rfl rfl) h2
  clear hA0 hval0
  refine (walk b m mb os i1 i2 W hs lm wf1 wf2).mono fun e W' ⟨he, bel⟩ => ?_
  subst he
  exact ⟨_, rfl, _, _, _, [], _, [], hW', trodAll_mk1 (shut_bool Try.underlying4 _), (trodAll_cons_mk (Below.trod laidOut (by kernel_rfl) (of_decide_eq_true (by kernel_rfl)) k0' bel lt0') (trodAll_cons_mk (shut_int Try.underlying2 wf1) (trodAll_cons_mk (shut_int Try.underlying2 wf2) trodAll_mk0))), rfl, bel.frame _, fun h => by cases h⟩

theorem over : Rows.fnExactSealOfRow.holds Try.pinned (OpenSpec.ofChange Rows.fnExactSealOfSpec) :=
  OpenClaim.holds_of_wide 5 Try.f5 rfl rfl rfl rfl rfl rfl rfl ⟨rfl, rfl, rfl, rfl, rfl⟩ rfl rfl rfl rfl rfl (by kernel_rfl) Try.func5 (by kernel_rfl)
    (of_decide_eq_true (by kernel_rfl)) (by unfold Func.isWrapper; first | (rw [if_pos (by decide +kernel)]; kernel_rfl) | (rw [if_neg (by decide +kernel)]; exact ⟨rfl, rfl⟩))
    (fun os started H enc _ => lifted os started H enc)

end Go.Proofs.Ytadmkojlobniaaa.fnExactSealOf

namespace Go.Proofs.Ytadmkojlobniaaa
/-- The given statement. -/
theorem fnExactSealOf_holds : Rows.FnExactSealOfSaid := fnExactSealOf.over
#print axioms fnExactSealOf_holds
end Go.Proofs.Ytadmkojlobniaaa
