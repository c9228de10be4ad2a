/-
  impl.MergedSeals and its specification agree.
-/
import Derived.Test.YtdjeffjjijkhbaaRows
import Derived.WalkKit
import Derived.ProofKit
import Derived.OpenShut
import Derived.ChangeOld
import Derived.Below
import Derived.Lib.SmallJoins
import Derived.Test.YtdjeffjjijkhbaaOpW
import Derived.Test.YtdjeffjjijkhbaaIm
import Derived.Test.YtdjeffjjijkhbaaOpC
import Derived.Test.YtdjeffjjijkhbaaMark
import Derived.Test.YtdjeffjjijkhbaaSb2
import Derived.RegionTactic
namespace Go.Proofs.Ytdjeffjjijkhbaa.fnExactMergedSeals
open Go.ChangeShapes Go.WideShapes Go.ChangeAt Go.RowKit Go.Joins
set_option linter.unusedVariables false
set_option linter.unusedSimpArgs false

theorem own : ownKnob Try.prog.godebug = none := by kernel_rfl
theorem laidOut : laidOutB Try.prog = true := by kernel_rfl


/-! The walk. -/
set_option maxHeartbeats 20000000 in
set_option maxRecDepth 100000 in
theorem walk (b : Option Addr) (m mb : Nat) (os : List Int) (aS : Option Addr) (nS cS : Nat) (ss : List Sb.S3) (aS1 : Option Addr) (nS1 cS1 : Nat) (ss1 : List Sb.S3) (w : World) (hs : Ls.Row w w.heap.size b m os) (lm : m ≤ maxLen) (hS : Sb.Row3 w w.heap.size aS nS ss) (mS : nS ≤ maxLen) (hS1 : Sb.Row3 w w.heap.size aS1 nS1 ss1) (mS1 : nS1 ≤ maxLen) :
    Calls Try.prog 5 #[.slice b m mb, .slice aS nS cS, .slice aS1 nS1 cS1] w fun e w' => e = .returned (.bool true) ∧ Below w.heap.size w w' := by
  have BZ := Below.refl w.heap.size w
  by_cases hl : m ≤ 1048576
  case neg =>
    have d : decide ((1048576 : Int) < m) = true := decide_eq_true (by omega)
    go_enter Try.func5, Try.ntmps5
    go_wp2
    go_ret
    exact ⟨rfl, BZ⟩
  case pos =>
    have d : decide ((1048576 : Int) < m) = false := decide_eq_false (by omega)
    by_cases hz : (nS : Int) ≤ 1048576
    case neg =>
      go_enter Try.func5, Try.ntmps5
      go_wp2_with fail
      refine (Sb.szSealS_no _ _ _ (1048576) _ (by omega) (by omega) mS).mono ?_
      rintro e z0 ⟨rfl, rfl⟩
      go_wp2
      go_ret
      exact ⟨rfl, BZ⟩
    case pos =>
      by_cases hz1 : (nS1 : Int) ≤ 1048576 - (nS : Int)
      case neg =>
        go_enter Try.func5, Try.ntmps5
        go_wp2_with fail
        refine (Sb.szSealS_yes _ _ _ (1048576) _ (by omega) (by omega)).mono ?_
        rintro e z0 ⟨rfl, rfl⟩
        go_wp2_with fail
        refine (Sb.szSealS_no _ _ _ (1048576 - (nS : Int)) _ (by omega) (by omega) mS1).mono ?_
        rintro e z1 ⟨rfl, rfl⟩
        go_wp2
        go_ret
        exact ⟨rfl, BZ⟩
      case pos =>
        have hn : nS ≤ 1048576 := by omega
        have hn1 : nS1 ≤ 1048576 := by omega
        go_enter Try.func5, Try.ntmps5
        have dz0 : decide (1048576 - (nS : Int) < 0) = false := decide_eq_false (by omega)
        go_wp2_with fail
        refine (Sb.szSealS_yes _ _ _ (1048576) _ (by omega) (by omega)).mono ?_
        rintro e z0 ⟨rfl, rfl⟩
        have dz1 : decide (1048576 - (nS : Int) - (nS1 : Int) < 0) = false := decide_eq_false (by omega)
        go_wp2_with fail
        refine (Sb.szSealS_yes _ _ _ (1048576 - (nS : Int)) _ (by omega) (by omega)).mono ?_
        rintro e z1 ⟨rfl, rfl⟩
        have BB := BZ
        go_wp2_with fail
        refine (Ow.copied _ _ _ os _ ((hs.later BB (Nat.le_refl _)).more BB.size) hl).mono ?_
        rintro e x1 ⟨⟨ghA, rfl, hA⟩, b1⟩
        have s1 := b1.size
        (try simp at s1)
        replace BB := BB.trans (b1.mono BB.size)
        clear b1
        have lohA := hA.2.1
        have hihA := hA.2.2.1
        (try simp at lohA hihA)
        go_wp2_with fail
        refine (Sb.toSealS _ _ _ ss _ ((hS.later BB (Nat.le_refl _)).more BB.size) hn).mono ?_
        rintro e x2 ⟨⟨ghB, rfl, hB⟩, b2⟩
        have s2 := b2.size
        (try simp at s2)
        replace BB := BB.trans (b2.mono BB.size)
        replace hA := hA.later b2 hA.2.2.1
        clear b2
        have lohB := hB.2.1
        have hihB := hB.2.2.1
        (try simp at lohB hihB)
        go_wp2_with fail
        refine (Sb.toSealS _ _ _ ss1 _ ((hS1.later BB (Nat.le_refl _)).more BB.size) hn1).mono ?_
        rintro e x3 ⟨⟨ghC, rfl, hC⟩, b3⟩
        have s3 := b3.size
        (try simp at s3)
        replace BB := BB.trans (b3.mono BB.size)
        replace hA := hA.later b3 hA.2.2.1
        replace hB := hB.later b3 hB.2.2.1
        clear b3
        have lohC := hC.2.1
        have hihC := hC.2.2.1
        (try simp at lohC hihC)
        have lS : ss.length = nS := hS.1
        have lS1 : ss1.length = nS1 := hS1.1
        have hL0 : (Mg.MG (Mg.RT os m) (ss ++ ss1)).length ≤ 1048576 := by have := Mg.MG_len (Mg.RT os m) (ss ++ ss1); simp [lS, lS1] at this; omega
        obtain ⟨L, hv⟩ : ∃ L, (Mg.MG (Mg.RT os m) (ss ++ ss1)) = L := ⟨_, rfl⟩
        have HV : Hid ((Mg.MG (Mg.RT os m) (ss ++ ss1)) = L) := hv
        rw [hv] at hL0
        clear hv
        go_wp2_with fail
        refine (Mg.s_MergedSeals _ _ _ os _ _ _ ss _ _ _ ss1 _ hA.row hl hB.row hn hC.row hn1).mono ?_
        rintro e x4 ⟨⟨ghW, chW, rfl, OhW⟩, b4⟩
        have s4 := b4.size
        (try simp at s4)
        replace BB := BB.trans (b4.mono BB.size)
        replace hA := hA.later b4 hA.2.2.1
        replace hB := hB.later b4 hB.2.2.1
        replace hC := hC.later b4 hC.2.2.1
        clear b4
        have hW := Og.OwnS.has OhW
        clear OhW
        try rw [HV.out]
        try rw [HV.out] at hW
        have lohW := hW.2.1
        have hihW := hW.2.2.1
        (try simp at lohW hihW)
        clear hA
        clear hB
        clear hC
        go_wp2_with fail
        refine (Ow.copied _ _ _ os _ ((hs.later BB (Nat.le_refl _)).more BB.size) hl).mono ?_
        rintro e x5 ⟨⟨ghX, rfl, hX⟩, b5⟩
        have s5 := b5.size
        (try simp at s5)
        replace BB := BB.trans (b5.mono BB.size)
        replace hW := hW.later b5 hW.2.2.1
        clear b5
        have lohX := hX.2.1
        have hihX := hX.2.2.1
        (try simp at lohX hihX)
        go_wp2_with fail
        refine (Sb.toSealS _ _ _ ss _ ((hS.later BB (Nat.le_refl _)).more BB.size) hn).mono ?_
        rintro e x6 ⟨⟨ghY, rfl, hY⟩, b6⟩
        have s6 := b6.size
        (try simp at s6)
        replace BB := BB.trans (b6.mono BB.size)
        replace hW := hW.later b6 hW.2.2.1
        replace hX := hX.later b6 hX.2.2.1
        clear b6
        have lohY := hY.2.1
        have hihY := hY.2.2.1
        (try simp at lohY hihY)
        go_wp2_with fail
        refine (Sb.toSealS _ _ _ ss1 _ ((hS1.later BB (Nat.le_refl _)).more BB.size) hn1).mono ?_
        rintro e x7 ⟨⟨ghZ, rfl, hZ⟩, b7⟩
        have s7 := b7.size
        (try simp at s7)
        replace BB := BB.trans (b7.mono BB.size)
        replace hW := hW.later b7 hW.2.2.1
        replace hX := hX.later b7 hX.2.2.1
        replace hY := hY.later b7 hY.2.2.1
        clear b7
        have lohZ := hZ.2.1
        have hihZ := hZ.2.2.1
        (try simp at lohZ hihZ)
        go_wp2_with fail
        refine (Mi.i_MergedSeals _ _ _ os _ _ _ ss _ _ _ ss1 _ hX.row hl hY.row hn hZ.row hn1).mono ?_
        rintro e x8 ⟨⟨ghG, chG, rfl, OhG⟩, b8⟩
        have s8 := b8.size
        (try simp at s8)
        replace BB := BB.trans (b8.mono BB.size)
        replace hW := hW.later b8 hW.2.2.1
        replace hX := hX.later b8 hX.2.2.1
        replace hY := hY.later b8 hY.2.2.1
        replace hZ := hZ.later b8 hZ.2.2.1
        clear b8
        have hG := Og.OwnS.has OhG
        clear OhG
        try rw [HV.out]
        try rw [HV.out] at hG
        have lohG := hG.2.1
        have hihG := hG.2.2.1
        (try simp at lohG hihG)
        go_wp2_with fail
        refine (Sb.eqSealS _ _ _ _ _ L _ hG.row hW.row hL0).mono ?_
        rintro e x9 ⟨rfl, b9⟩
        have s9 := b9.size
        (try simp at s9)
        replace BB := BB.trans (b9.mono BB.size)
        replace hW := hW.later b9 hW.2.2.1
        replace hX := hX.later b9 hX.2.2.1
        replace hY := hY.later b9 hY.2.2.1
        replace hZ := hZ.later b9 hZ.2.2.1
        replace hG := hG.later b9 hG.2.2.1
        clear b9
        go_wp2_with fail
        refine (Ow.copied _ _ _ os _ ((hs.later BB (Nat.le_refl _)).more BB.size) hl).mono ?_
        rintro e x10 ⟨⟨ghE, rfl, hE⟩, b10⟩
        have s10 := b10.size
        (try simp at s10)
        replace BB := BB.trans (b10.mono BB.size)
        replace hW := hW.later b10 hW.2.2.1
        replace hX := hX.later b10 hX.2.2.1
        replace hY := hY.later b10 hY.2.2.1
        replace hZ := hZ.later b10 hZ.2.2.1
        replace hG := hG.later b10 hG.2.2.1
        clear b10
        have lohE := hE.2.1
        have hihE := hE.2.2.1
        (try simp at lohE hihE)
        go_wp2_with fail
        refine (Ls.eqInt64S _ _ _ _ _ os _ hX.row hE.row hl).mono ?_
        rintro e x11 ⟨rfl, b11⟩
        have s11 := b11.size
        (try simp at s11)
        replace BB := BB.trans (b11.mono BB.size)
        replace hW := hW.later b11 hW.2.2.1
        replace hX := hX.later b11 hX.2.2.1
        replace hY := hY.later b11 hY.2.2.1
        replace hZ := hZ.later b11 hZ.2.2.1
        replace hG := hG.later b11 hG.2.2.1
        replace hE := hE.later b11 hE.2.2.1
        clear b11
        clear hE
        go_wp2_with fail
        refine (Sb.toSealS _ _ _ ss _ ((hS.later BB (Nat.le_refl _)).more BB.size) hn).mono ?_
        rintro e x12 ⟨⟨ghF, rfl, hF⟩, b12⟩
        have s12 := b12.size
        (try simp at s12)
        replace BB := BB.trans (b12.mono BB.size)
        replace hW := hW.later b12 hW.2.2.1
        replace hX := hX.later b12 hX.2.2.1
        replace hY := hY.later b12 hY.2.2.1
        replace hZ := hZ.later b12 hZ.2.2.1
        replace hG := hG.later b12 hG.2.2.1
        clear b12
        have lohF := hF.2.1
        have hihF := hF.2.2.1
        (try simp at lohF hihF)
        go_wp2_with fail
        refine (Sb.eqSealS _ _ _ _ _ ss _ hY.row hF.row hn).mono ?_
        rintro e x13 ⟨rfl, b13⟩
        have s13 := b13.size
        (try simp at s13)
        replace BB := BB.trans (b13.mono BB.size)
        replace hW := hW.later b13 hW.2.2.1
        replace hX := hX.later b13 hX.2.2.1
        replace hY := hY.later b13 hY.2.2.1
        replace hZ := hZ.later b13 hZ.2.2.1
        replace hG := hG.later b13 hG.2.2.1
        replace hF := hF.later b13 hF.2.2.1
        clear b13
        clear hF
        go_wp2_with fail
        refine (Sb.toSealS _ _ _ ss1 _ ((hS1.later BB (Nat.le_refl _)).more BB.size) hn1).mono ?_
        rintro e x14 ⟨⟨ghP, rfl, hP⟩, b14⟩
        have s14 := b14.size
        (try simp at s14)
        replace BB := BB.trans (b14.mono BB.size)
        replace hW := hW.later b14 hW.2.2.1
        replace hX := hX.later b14 hX.2.2.1
        replace hY := hY.later b14 hY.2.2.1
        replace hZ := hZ.later b14 hZ.2.2.1
        replace hG := hG.later b14 hG.2.2.1
        clear b14
        have lohP := hP.2.1
        have hihP := hP.2.2.1
        (try simp at lohP hihP)
        go_wp2_with fail
        refine (Sb.eqSealS _ _ _ _ _ ss1 _ hZ.row hP.row hn1).mono ?_
        rintro e x15 ⟨rfl, b15⟩
        have s15 := b15.size
        (try simp at s15)
        replace BB := BB.trans (b15.mono BB.size)
        replace hW := hW.later b15 hW.2.2.1
        replace hX := hX.later b15 hX.2.2.1
        replace hY := hY.later b15 hY.2.2.1
        replace hZ := hZ.later b15 hZ.2.2.1
        replace hG := hG.later b15 hG.2.2.1
        replace hP := hP.later b15 hP.2.2.1
        clear b15
        clear hP
        go_wp2_with fail
        refine (Ow.mark 1 _ ghX 0 m m os _ hX hl (by omega) (by omega)).mono ?_
        rintro e x16 ⟨rfl, hXm, b16⟩
        have s16 := b16.size
        (try simp at s16)
        replace BB := BB.grown b16 (by have := BB.size; omega) (fun k hk => by cases hk; omega)
        replace hW := hW.kept b16 (by omega)
        replace hY := hY.kept b16 (by omega)
        replace hZ := hZ.kept b16 (by omega)
        replace hG := hG.kept b16 (by omega)
        clear hX
        have hX := hXm
        clear hXm b16
        clear hX
        have w1 : IntKind.i64.wrap ((1 : Int) + (m : Int)) = 1 + (m : Int) := by rw [IntKind.wrap_i64]; omega
        go_wp2_with fail
        refine (Sb.markSealS (1 + (m : Int)) _ ghY 0 nS nS ss _ hY hn (by omega) (by omega)).mono ?_
        rintro e x17 ⟨rfl, hYm, b17⟩
        have s17 := b17.size
        (try simp at s17)
        replace BB := BB.grown b17 (by have := BB.size; omega) (fun k hk => by cases hk; omega)
        replace hW := hW.kept b17 (by omega)
        replace hZ := hZ.kept b17 (by omega)
        replace hG := hG.kept b17 (by omega)
        clear hY
        have hY := hYm
        clear hYm b17
        clear hY
        go_wp2_with fail
        refine (Sb.markSealS (1 + (m : Int) + 3 * (nS : Int)) _ ghZ 0 nS1 nS1 ss1 _ hZ hn1 (by omega) (by omega)).mono ?_
        rintro e x18 ⟨rfl, hZm, b18⟩
        have s18 := b18.size
        (try simp at s18)
        replace BB := BB.grown b18 (by have := BB.size; omega) (fun k hk => by cases hk; omega)
        replace hW := hW.kept b18 (by omega)
        replace hG := hG.kept b18 (by omega)
        clear hZ
        have hZ := hZm
        clear hZm b18
        clear hZ
        have dq : decide ((1 : Int) + (m : Int) + 3 * (nS : Int) + 3 * (nS1 : Int) < 0) = false := decide_eq_false (by omega)
        go_wp2_with fail
        refine (Sb.eqSealS _ _ _ _ _ L _ hG.row hW.row hL0).mono ?_
        rintro e x19 ⟨rfl, b19⟩
        have s19 := b19.size
        (try simp at s19)
        replace BB := BB.trans (b19.mono BB.size)
        replace hW := hW.later b19 hW.2.2.1
        replace hG := hG.later b19 hG.2.2.1
        clear b19
        have dp : decide ((1 : Int) + 3 * (L.length : Int) < 0) = false := decide_eq_false (by omega)
        go_wp2_with fail
        refine (Sb.markSealS 1 _ ghG 0 L.length chG L _ hG hL0 (by omega) (by omega)).mono ?_
        rintro e x20 ⟨rfl, hGm, b20⟩
        have s20 := b20.size
        (try simp at s20)
        replace BB := BB.grown b20 (by have := BB.size; omega) (fun k hk => by cases hk; omega)
        replace hW := hW.kept b20 (by omega)
        clear hG
        have hG := hGm
        clear hGm b20
        go_wp2_with fail
        refine (Sb.heldSealS 1 _ ghG 0 L.length chG _ hG hL0 (by omega) (by omega)).mono ?_
        rintro e x21 ⟨rfl, rfl⟩
        go_wp2_with fail
        refine (Ow.copied _ _ _ os _ ((hs.later BB (Nat.le_refl _)).more BB.size) hl).mono ?_
        rintro e x22 ⟨⟨ghQ, rfl, hQ⟩, b22⟩
        have s22 := b22.size
        (try simp at s22)
        replace BB := BB.trans (b22.mono BB.size)
        replace hW := hW.later b22 hW.2.2.1
        replace hG := hG.later b22 hG.2.2.1
        clear b22
        have lohQ := hQ.2.1
        have hihQ := hQ.2.2.1
        (try simp at lohQ hihQ)
        go_wp2_with fail
        refine (Sb.toSealS _ _ _ ss _ ((hS.later BB (Nat.le_refl _)).more BB.size) hn).mono ?_
        rintro e x23 ⟨⟨ghR, rfl, hR⟩, b23⟩
        have s23 := b23.size
        (try simp at s23)
        replace BB := BB.trans (b23.mono BB.size)
        replace hW := hW.later b23 hW.2.2.1
        replace hG := hG.later b23 hG.2.2.1
        replace hQ := hQ.later b23 hQ.2.2.1
        clear b23
        have lohR := hR.2.1
        have hihR := hR.2.2.1
        (try simp at lohR hihR)
        go_wp2_with fail
        refine (Sb.toSealS _ _ _ ss1 _ ((hS1.later BB (Nat.le_refl _)).more BB.size) hn1).mono ?_
        rintro e x24 ⟨⟨ghT, rfl, hT⟩, b24⟩
        have s24 := b24.size
        (try simp at s24)
        replace BB := BB.trans (b24.mono BB.size)
        replace hW := hW.later b24 hW.2.2.1
        replace hG := hG.later b24 hG.2.2.1
        replace hQ := hQ.later b24 hQ.2.2.1
        replace hR := hR.later b24 hR.2.2.1
        clear b24
        have lohT := hT.2.1
        have hihT := hT.2.2.1
        (try simp at lohT hihT)
        go_wp2_with fail
        refine (Mi.i_MergedSeals _ _ _ os _ _ _ ss _ _ _ ss1 _ hQ.row hl hR.row hn hT.row hn1).mono ?_
        rintro e x25 ⟨⟨ghH, chH, rfl, OhH⟩, b25⟩
        have s25 := b25.size
        (try simp at s25)
        replace BB := BB.trans (b25.mono BB.size)
        replace hW := hW.later b25 hW.2.2.1
        replace hG := hG.later b25 hG.2.2.1
        replace hQ := hQ.later b25 hQ.2.2.1
        replace hR := hR.later b25 hR.2.2.1
        replace hT := hT.later b25 hT.2.2.1
        clear b25
        have hH := Og.OwnS.has OhH
        clear OhH
        try rw [HV.out]
        try rw [HV.out] at hH
        have lohH := hH.2.1
        have hihH := hH.2.2.1
        (try simp at lohH hihH)
        clear hQ
        clear hR
        clear hT
        go_wp2_with fail
        refine (Sb.eqSealS _ _ _ _ _ L _ hH.row hW.row hL0).mono ?_
        rintro e x26 ⟨rfl, b26⟩
        have s26 := b26.size
        (try simp at s26)
        replace BB := BB.trans (b26.mono BB.size)
        replace hW := hW.later b26 hW.2.2.1
        replace hG := hG.later b26 hG.2.2.1
        replace hH := hH.later b26 hH.2.2.1
        clear b26
        clear hH
        go_wp2_with fail
        refine (Sb.heldSealS 1 _ ghG 0 L.length chG _ hG hL0 (by omega) (by omega)).mono ?_
        rintro e x27 ⟨rfl, rfl⟩
        go_wp2
        go_ret
        exact ⟨rfl, BB⟩

/-! The row. -/
set_option maxRecDepth 100000 in
theorem lifted (os : Os) (started : os.Started) (H : Type) (enc : TypeId × Value → H) :
    ReturnsInHanded {} Try.checked os 5 .any (Rows.fnExactMergedSealsSpec.pre6 enc Try.prog Try.f5 Rows.fnExactMergedSealsRow.domain false) (Rows.fnExactMergedSealsSpec.post enc Try.prog Try.f5 false true false false) := by
  refine returnsInHanded_of_change (C := Try.checked) own started (by kernel_rfl) Try.func5
    (ChangeSpec.witness6 (enc := enc) (C := Try.checked) false ⟨#[], #[.slice none 0 0, .slice none 0 0, .slice none 0 0], []⟩ 8 (by kernel_rfl) (by kernel_rfl) (by kernel_rfl) (by kernel_rfl)) ?_
  intro W base args ds gs before hval0 hW hcnd _
  have hval : ∀ (j : Nat) t v, Try.f5.params[j]? = some t → args[j]? = some v → Value.okWide Try.prog W .any base t v := hval0
  have hW' := hW
  obtain ⟨p, q, hA0, hV, rfl, hfz, hnd⟩ := hW
  have hA : DataW.TrodAll enc Try.prog W 0 (fun _ => true) true Try.f5.params.toList args.toList ds p := hA0
  rw [Try.params5] at hA hval
  obtain ⟨v0, vs0, d0, ds0, p0, q0, hargs, rfl, rfl, h0, r0⟩ := trodAll_cons hA
  obtain ⟨v1, vs1, d1, ds1, p1, q1, rfl, rfl, rfl, h1, r1⟩ := trodAll_cons r0
  obtain ⟨v2, vs2, d2, ds2, p2, q2, rfl, rfl, rfl, h2, r2⟩ := trodAll_cons r1
  obtain ⟨rfl, rfl, rfl⟩ := trodAll_nil r2
  obtain rfl : args = #[v0, v1, v2] := by cases args; simp_all
  obtain ⟨rfl, rfl⟩ := trodVars_none hV
  have k0' := h0
  have lt0' : ∀ x ∈ p0, x.block < W.heap.size := by obtain ⟨m, hm⟩ := k0'; exact DataW.trod_lt m _ _ _ hm
  have rd0 := Rd.Reads.of h0
  obtain ⟨b, m, mb, rfl⟩ := okWide_slice Try.underlying24 (hval 0 24 v0 rfl rfl)
  obtain ⟨b_0, m_0, mb_0, os, e0, hs, lm, _⟩ := rd0.ints Try.underlying24 Try.underlying2 Rd.cells_int
  simp [Value.cells] at e0
  obtain ⟨rfl, rfl, rfl⟩ := e0
  have k1' := h1
  have lt1' : ∀ x ∈ p1, x.block < W.heap.size := by obtain ⟨m, hm⟩ := k1'; exact DataW.trod_lt m _ _ _ hm
  have rd1 := Rd.Reads.of h1
  obtain ⟨aS, nS, cS, rfl⟩ := okWide_slice Try.underlying38 (hval 1 38 v1 rfl rfl)
  obtain ⟨b_1, m_1, mb_1, ss, e1, hS, mS⟩ := Rd.seals rd1
  simp [Value.cells] at e1
  obtain ⟨rfl, rfl, rfl⟩ := e1
  have k2' := h2
  have lt2' : ∀ x ∈ p2, x.block < W.heap.size := by obtain ⟨m, hm⟩ := k2'; exact DataW.trod_lt m _ _ _ hm
  have rd2 := Rd.Reads.of h2
  obtain ⟨aS1, nS1, cS1, rfl⟩ := okWide_slice Try.underlying38 (hval 2 38 v2 rfl rfl)
  obtain ⟨b_2, m_2, mb_2, ss1, e2, hS1, mS1⟩ := Rd.seals rd2
  simp [Value.cells] at e2
  obtain ⟨rfl, rfl, rfl⟩ := e2
  clear hA0 hval0
  refine (walk b m mb os aS nS cS ss aS1 nS1 cS1 ss1 W hs lm hS mS hS1 mS1).mono fun e W' ⟨he, bel⟩ => ?_
  subst he
  exact ⟨_, rfl, _, _, _, [], _, [], hW', trodAll_mk1 (shut_bool Try.underlying4 _), (trodAll_cons_mk (Below.trod laidOut (by kernel_rfl) (of_decide_eq_true (by kernel_rfl)) k0' bel lt0') (trodAll_cons_mk (Below.trod laidOut (by kernel_rfl) (of_decide_eq_true (by kernel_rfl)) k1' bel lt1') (trodAll_cons_mk (Below.trod laidOut (by kernel_rfl) (of_decide_eq_true (by kernel_rfl)) k2' bel lt2') trodAll_mk0))), rfl, bel.frame _, fun h => by cases h⟩

theorem over : Rows.fnExactMergedSealsRow.holds Try.pinned (OpenSpec.ofChange Rows.fnExactMergedSealsSpec) :=
  OpenClaim.holds_of_wide 5 Try.f5 rfl rfl rfl rfl rfl rfl rfl ⟨rfl, rfl, rfl, rfl, rfl⟩ rfl rfl rfl rfl rfl (by kernel_rfl) Try.func5 (by kernel_rfl)
    (of_decide_eq_true (by kernel_rfl)) (by unfold Func.isWrapper; first | (rw [if_pos (by decide +kernel)]; kernel_rfl) | (rw [if_neg (by decide +kernel)]; exact ⟨rfl, rfl⟩))
    (fun os started H enc _ => lifted os started H enc)

end Go.Proofs.Ytdjeffjjijkhbaa.fnExactMergedSeals

namespace Go.Proofs.Ytdjeffjjijkhbaa
/-- The given statement. -/
theorem fnExactMergedSeals_holds : Rows.FnExactMergedSealsSaid := fnExactMergedSeals.over
#print axioms fnExactMergedSeals_holds
end Go.Proofs.Ytdjeffjjijkhbaa
