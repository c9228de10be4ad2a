/-
  impl.BestRound and its specification agree.
-/
import Derived.Test.YtdjeffjjijkhbaaRows
import Derived.WalkKit
import Derived.ProofKit
import Derived.OpenShut
import Derived.ChangeOld
import Derived.Below
import Derived.Lib.SmallJoins
import Derived.Test.YtdjeffjjijkhbaaOpW
import Derived.Test.YtdjeffjjijkhbaaIm
import Derived.Test.YtdjeffjjijkhbaaOpC
import Derived.Test.YtdjeffjjijkhbaaMark
import Derived.Test.YtdjeffjjijkhbaaSb2
import Derived.RegionTactic
namespace Go.Proofs.Ytdjeffjjijkhbaa.fnExactBestRound
open Go.ChangeShapes Go.WideShapes Go.ChangeAt Go.RowKit Go.Joins
set_option linter.unusedVariables false
set_option linter.unusedSimpArgs false

theorem own : ownKnob Try.prog.godebug = none := by kernel_rfl
theorem laidOut : laidOutB Try.prog = true := by kernel_rfl


/-! The walk. -/
set_option maxHeartbeats 20000000 in
set_option maxRecDepth 100000 in
theorem walk (b : Option Addr) (m mb : Nat) (os : List Int) (i1 : Int) (aS : Option Addr) (nS cS : Nat) (ss : List Sb.S3) (i3 : Int) (w : World) (hs : Ls.Row w w.heap.size b m os) (lm : m ≤ maxLen) (wf1 : (Lit.int .i64 i1).wf = true) (hS : Sb.Row3 w w.heap.size aS nS ss) (mS : nS ≤ maxLen) (wf3 : (Lit.int .i64 i3).wf = true) :
    Calls Try.prog 8 #[.slice b m mb, .int .i64 i1, .slice aS nS cS, .int .i64 i3] w fun e w' => e = .returned (.bool true) ∧ Below w.heap.size w w' := by
  have BZ := Below.refl w.heap.size w
  by_cases hl : m ≤ 1048576
  case neg =>
    have d : decide ((1048576 : Int) < m) = true := decide_eq_true (by omega)
    go_enter Try.func8, Try.ntmps8
    go_wp2
    go_ret
    exact ⟨rfl, BZ⟩
  case pos =>
    have d : decide ((1048576 : Int) < m) = false := decide_eq_false (by omega)
    by_cases hz : (nS : Int) ≤ 1048576
    case neg =>
      go_enter Try.func8, Try.ntmps8
      go_wp2_with fail
      refine (Sb.szSealS_no _ _ _ (1048576) _ (by omega) (by omega) mS).mono ?_
      rintro e z0 ⟨rfl, rfl⟩
      go_wp2
      go_ret
      exact ⟨rfl, BZ⟩
    case pos =>
      have hn : nS ≤ 1048576 := by omega
      go_enter Try.func8, Try.ntmps8
      have dz0 : decide (1048576 - (nS : Int) < 0) = false := decide_eq_false (by omega)
      go_wp2_with fail
      refine (Sb.szSealS_yes _ _ _ (1048576) _ (by omega) (by omega)).mono ?_
      rintro e z0 ⟨rfl, rfl⟩
      have BB := BZ
      go_wp2_with fail
      refine (Ow.copied _ _ _ os _ ((hs.later BB (Nat.le_refl _)).more BB.size) hl).mono ?_
      rintro e x1 ⟨⟨ghA, rfl, hA⟩, b1⟩
      have s1 := b1.size
      (try simp at s1)
      replace BB := BB.trans (b1.mono BB.size)
      clear b1
      have lohA := hA.2.1
      have hihA := hA.2.2.1
      (try simp at lohA hihA)
      go_wp2_with fail
      refine (Sb.toSealS _ _ _ ss _ ((hS.later BB (Nat.le_refl _)).more BB.size) hn).mono ?_
      rintro e x2 ⟨⟨ghB, rfl, hB⟩, b2⟩
      have s2 := b2.size
      (try simp at s2)
      replace BB := BB.trans (b2.mono BB.size)
      replace hA := hA.later b2 hA.2.2.1
      clear b2
      have lohB := hB.2.1
      have hihB := hB.2.2.1
      (try simp at lohB hihB)
      go_wp2_with fail
      refine (Mg.s_BestRound _ _ _ os i1 _ _ _ ss i3 _ hA.row hl hB.row hn).mono ?_
      rintro e x3 ⟨rfl, b3⟩
      have s3 := b3.size
      (try simp at s3)
      replace BB := BB.trans (b3.mono BB.size)
      replace hA := hA.later b3 hA.2.2.1
      replace hB := hB.later b3 hB.2.2.1
      clear b3
      clear hA
      clear hB
      obtain ⟨v, hv⟩ : ∃ v, Mg.BR os m i1 ss i3 = v := ⟨_, rfl⟩
      have HV : Hid (Mg.BR os m i1 ss i3 = v) := hv
      clear hv
      rw [HV.out]
      go_wp2_with fail
      refine (Ow.copied _ _ _ os _ ((hs.later BB (Nat.le_refl _)).more BB.size) hl).mono ?_
      rintro e x4 ⟨⟨ghC, rfl, hC⟩, b4⟩
      have s4 := b4.size
      (try simp at s4)
      replace BB := BB.trans (b4.mono BB.size)
      clear b4
      have lohC := hC.2.1
      have hihC := hC.2.2.1
      (try simp at lohC hihC)
      go_wp2_with fail
      refine (Sb.toSealS _ _ _ ss _ ((hS.later BB (Nat.le_refl _)).more BB.size) hn).mono ?_
      rintro e x5 ⟨⟨ghD, rfl, hD⟩, b5⟩
      have s5 := b5.size
      (try simp at s5)
      replace BB := BB.trans (b5.mono BB.size)
      replace hC := hC.later b5 hC.2.2.1
      clear b5
      have lohD := hD.2.1
      have hihD := hD.2.2.1
      (try simp at lohD hihD)
      go_wp2_with fail
      refine (Mi.i_BestRound _ _ _ os i1 _ _ _ ss i3 _ hC.row hl hD.row hn).mono ?_
      rintro e x6 ⟨rfl, b6⟩
      have s6 := b6.size
      (try simp at s6)
      replace BB := BB.trans (b6.mono BB.size)
      replace hC := hC.later b6 hC.2.2.1
      replace hD := hD.later b6 hD.2.2.1
      clear b6
      try rw [HV.out]
      go_wp2_with fail
      refine (Ow.copied _ _ _ os _ ((hs.later BB (Nat.le_refl _)).more BB.size) hl).mono ?_
      rintro e x7 ⟨⟨ghE, rfl, hE⟩, b7⟩
      have s7 := b7.size
      (try simp at s7)
      replace BB := BB.trans (b7.mono BB.size)
      replace hC := hC.later b7 hC.2.2.1
      replace hD := hD.later b7 hD.2.2.1
      clear b7
      have lohE := hE.2.1
      have hihE := hE.2.2.1
      (try simp at lohE hihE)
      go_wp2_with fail
      refine (Ls.eqInt64S _ _ _ _ _ os _ hC.row hE.row hl).mono ?_
      rintro e x8 ⟨rfl, b8⟩
      have s8 := b8.size
      (try simp at s8)
      replace BB := BB.trans (b8.mono BB.size)
      replace hC := hC.later b8 hC.2.2.1
      replace hD := hD.later b8 hD.2.2.1
      replace hE := hE.later b8 hE.2.2.1
      clear b8
      clear hC
      clear hE
      go_wp2_with fail
      refine (Sb.toSealS _ _ _ ss _ ((hS.later BB (Nat.le_refl _)).more BB.size) hn).mono ?_
      rintro e x9 ⟨⟨ghF, rfl, hF⟩, b9⟩
      have s9 := b9.size
      (try simp at s9)
      replace BB := BB.trans (b9.mono BB.size)
      replace hD := hD.later b9 hD.2.2.1
      clear b9
      have lohF := hF.2.1
      have hihF := hF.2.2.1
      (try simp at lohF hihF)
      go_wp2_with fail
      refine (Sb.eqSealS _ _ _ _ _ ss _ hD.row hF.row hn).mono ?_
      rintro e x10 ⟨rfl, b10⟩
      have s10 := b10.size
      (try simp at s10)
      replace BB := BB.trans (b10.mono BB.size)
      replace hD := hD.later b10 hD.2.2.1
      replace hF := hF.later b10 hF.2.2.1
      clear b10
      clear hD
      clear hF
      go_wp2
      go_ret
      exact ⟨rfl, BB⟩

/-! The row. -/
set_option maxRecDepth 100000 in
theorem lifted (os : Os) (started : os.Started) (H : Type) (enc : TypeId × Value → H) :
    ReturnsInHanded {} Try.checked os 8 .any (Rows.fnExactBestRoundSpec.pre6 enc Try.prog Try.f8 Rows.fnExactBestRoundRow.domain false) (Rows.fnExactBestRoundSpec.post enc Try.prog Try.f8 false true false false) := by
  refine returnsInHanded_of_change (C := Try.checked) own started (by kernel_rfl) Try.func8
    (ChangeSpec.witness6 (enc := enc) (C := Try.checked) false ⟨#[], #[.slice none 0 0, .int .i64 0, .slice none 0 0, .int .i64 0], []⟩ 8 (by kernel_rfl) (by kernel_rfl) (by kernel_rfl) (by kernel_rfl)) ?_
  intro W base args ds gs before hval0 hW hcnd _
  have hval : ∀ (j : Nat) t v, Try.f8.params[j]? = some t → args[j]? = some v → Value.okWide Try.prog W .any base t v := hval0
  have hW' := hW
  obtain ⟨p, q, hA0, hV, rfl, hfz, hnd⟩ := hW
  have hA : DataW.TrodAll enc Try.prog W 0 (fun _ => true) true Try.f8.params.toList args.toList ds p := hA0
  rw [Try.params8] at hA hval
  obtain ⟨v0, vs0, d0, ds0, p0, q0, hargs, rfl, rfl, h0, r0⟩ := trodAll_cons hA
  obtain ⟨v1, vs1, d1, ds1, p1, q1, rfl, rfl, rfl, h1, r1⟩ := trodAll_cons r0
  obtain ⟨v2, vs2, d2, ds2, p2, q2, rfl, rfl, rfl, h2, r2⟩ := trodAll_cons r1
  obtain ⟨v3, vs3, d3, ds3, p3, q3, rfl, rfl, rfl, h3, r3⟩ := trodAll_cons r2
  obtain ⟨rfl, rfl, rfl⟩ := trodAll_nil r3
  obtain rfl : args = #[v0, v1, v2, v3] := by cases args; simp_all
  obtain ⟨rfl, rfl⟩ := trodVars_none hV
  have k0' := h0
  have lt0' : ∀ x ∈ p0, x.block < W.heap.size := by obtain ⟨m, hm⟩ := k0'; exact DataW.trod_lt m _ _ _ hm
  have rd0 := Rd.Reads.of h0
  obtain ⟨b, m, mb, rfl⟩ := okWide_slice Try.underlying24 (hval 0 24 v0 rfl rfl)
  obtain ⟨b_0, m_0, mb_0, os, e0, hs, lm, _⟩ := rd0.ints Try.underlying24 Try.underlying2 Rd.cells_int
  simp [Value.cells] at e0
  obtain ⟨rfl, rfl, rfl⟩ := e0
  have k1' := h1
  have lt1' : ∀ x ∈ p1, x.block < W.heap.size := by obtain ⟨m, hm⟩ := k1'; exact DataW.trod_lt m _ _ _ hm
  obtain ⟨i1, rfl, rfl, rfl, wf1⟩ := open_int Try.underlying2 (hval 1 2 v1 rfl rfl) h1
  have k2' := h2
  have lt2' : ∀ x ∈ p2, x.block < W.heap.size := by obtain ⟨m, hm⟩ := k2'; exact DataW.trod_lt m _ _ _ hm
  have rd2 := Rd.Reads.of h2
  obtain ⟨aS, nS, cS, rfl⟩ := okWide_slice Try.underlying38 (hval 2 38 v2 rfl rfl)
  obtain ⟨b_2, m_2, mb_2, ss, e2, hS, mS⟩ := Rd.seals rd2
  simp [Value.cells] at e2
  obtain ⟨rfl, rfl, rfl⟩ := e2
  have k3' := h3
  have lt3' : ∀ x ∈ p3, x.block < W.heap.size := by obtain ⟨m, hm⟩ := k3'; exact DataW.trod_lt m _ _ _ hm
  obtain ⟨i3, rfl, rfl, rfl, wf3⟩ := open_int Try.underlying2 (hval 3 2 v3 rfl rfl) h3
  clear hA0 hval0
  refine (walk b m mb os i1 aS nS cS ss i3 W hs lm wf1 hS mS wf3).mono fun e W' ⟨he, bel⟩ => ?_
  subst he
  exact ⟨_, rfl, _, _, _, [], _, [], hW', trodAll_mk1 (shut_bool Try.underlying4 _), (trodAll_cons_mk (Below.trod laidOut (by kernel_rfl) (of_decide_eq_true (by kernel_rfl)) k0' bel lt0') (trodAll_cons_mk (shut_int Try.underlying2 wf1) (trodAll_cons_mk (Below.trod laidOut (by kernel_rfl) (of_decide_eq_true (by kernel_rfl)) k2' bel lt2') (trodAll_cons_mk (shut_int Try.underlying2 wf3) trodAll_mk0)))), rfl, bel.frame _, fun h => by cases h⟩

theorem over : Rows.fnExactBestRoundRow.holds Try.pinned (OpenSpec.ofChange Rows.fnExactBestRoundSpec) :=
  OpenClaim.holds_of_wide 8 Try.f8 rfl rfl rfl rfl rfl rfl rfl ⟨rfl, rfl, rfl, rfl, rfl⟩ rfl rfl rfl rfl rfl (by kernel_rfl) Try.func8 (by kernel_rfl)
    (of_decide_eq_true (by kernel_rfl)) (by unfold Func.isWrapper; first | (rw [if_pos (by decide +kernel)]; kernel_rfl) | (rw [if_neg (by decide +kernel)]; exact ⟨rfl, rfl⟩))
    (fun os started H enc _ => lifted os started H enc)

end Go.Proofs.Ytdjeffjjijkhbaa.fnExactBestRound

namespace Go.Proofs.Ytdjeffjjijkhbaa
/-- The given statement. -/
theorem fnExactBestRound_holds : Rows.FnExactBestRoundSaid := fnExactBestRound.over
#print axioms fnExactBestRound_holds
end Go.Proofs.Ytdjeffjjijkhbaa
