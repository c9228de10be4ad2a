/-
  impl.CourtOk, ReadingOf, HonestIn at whatever court.
-/
import Derived.Test.YtimakfokgcnklaaGreatPq2
import Derived.Test.YtimakfokgcnklaaGreatPo
import Derived.Test.YtimakfokgcnklaaGreatCem
import Derived.Test.YtimakfokgcnklaaGreatOpD
import Derived.Test.YtimakfokgcnklaaGreatTk
namespace Go.Proofs.YtimakfokgcnklaaGreat.Mi
open Go.ChangeShapes Go.WideShapes Go.ChangeAt Go.RowKit
open Ls (el Row)
open Rm (Room)
open Rd (Flags)
open Ow (ints Own)
open Sb (S3 es es_ext fl sl Row3 SHas)
open Ns
open Ad (Tm)
open Sl (KO SR lk_yes lk_no)
open Sp (LK IN retb reti span)
open Cd
set_option linter.unusedVariables false
set_option linter.unusedSimpArgs false

theorem co_ro {c : CD} (h : RO c.n c.f c.p c.a c.l c.m = false) : CO c = false := co_no fun q => by have := q.1.1; rw [h] at this; cases this
theorem co_ps {c : CD} (h : PS c = false) : CO c = false := co_no fun q => by
  have : PS c = true := decide_eq_true ⟨q.1.2, q.2.2.1⟩
  rw [h] at this; cases this
theorem co_now {c : CD} (h : ¬ (0 ≤ c.now ∧ c.now ≤ 100000)) : CO c = false := co_no fun q => h q.2.1.2.1
theorem co_md {c : CD} (h : MD c.zs c.ms = false) : CO c = false := co_no fun q => by have := q.2.1.2.2.1; rw [h] at this; cases this
theorem co_pq {c : CD} (h : PQ c = false) : CO c = false := co_no fun q => by
  have : PQ c = true := decide_eq_true ⟨q.2.1.1, q.2.2.2.1⟩
  rw [h] at this; cases this
theorem co_all {c : CD} (h1 : RO c.n c.f c.p c.a c.l c.m = true) (h2 : PS c = true) (h3 : 0 ≤ c.now ∧ c.now ≤ 100000) (h4 : MD c.zs c.ms = true) (h5 : PQ c = true) : CO c = PF c := by
  have g2 := of_decide_eq_true h2
  have g5 := of_decide_eq_true h5
  cases h6 : PF c with
  | true =>
    have g6 := of_decide_eq_true h6
    exact decide_eq_true ⟨⟨h1, g2.1⟩, ⟨g5.1, h3, h4, g6.1⟩, g2.2, g5.2, g6.2⟩
  | false =>
    refine co_no fun q => ?_
    have e : PF c = true := decide_eq_true ⟨q.2.1.2.2.2, q.2.2.2.2⟩
    rw [h6] at e
    cases e

set_option maxHeartbeats 4000000 in
theorem i_CourtOk (c : CD) (aK aL aP aQ aM aF : Option Addr) (cK cL cP cQ cM cF : Nat) (w : World) (hA : c.At w aK aL aP aQ aM aF) (hz : c.Sm) :
    Calls Tryz.prog 17 #[.agg #[.int .i64 c.n, .int .i64 c.f, .int .i64 c.p, .int .i64 c.a, .int .i64 c.l, .int .i64 c.m, .slice aK c.zs.length cK, .slice aL c.bs.length cL, .slice aP c.ps.length cP, .slice aQ c.qs.length cQ, .int .i64 c.now, .slice aM c.ms.length cM, .slice aF c.fs.length cF]] w fun e w' => e = .returned (.bool (CO c)) ∧ Below w.heap.size w w' := by
  have PX : Kb c aK aL aP aQ aM aF w (w.alloc (.cells #[.int .i64 c.n, .int .i64 c.f, .int .i64 c.p, .int .i64 c.a, .int .i64 c.l, .int .i64 c.m, .slice aK c.zs.length cK, .slice aL c.bs.length cL, .slice aP c.ps.length cP, .slice aQ c.qs.length cQ, .int .i64 c.now, .slice aM c.ms.length cM, .slice aF c.fs.length cF] 35)) [.int .i64 c.n, .int .i64 c.f, .int .i64 c.p, .int .i64 c.a, .int .i64 c.l, .int .i64 c.m, .slice aK c.zs.length cK, .slice aL c.bs.length cL, .slice aP c.ps.length cP, .slice aQ c.qs.length cQ, .int .i64 c.now, .slice aM c.ms.length cM, .slice aF c.fs.length cF] := ⟨(Below.refl _ _).alloc (Nat.le_refl _) _, Room.new w [.int .i64 c.n, .int .i64 c.f, .int .i64 c.p, .int .i64 c.a, .int .i64 c.l, .int .i64 c.m, .slice aK c.zs.length cK, .slice aL c.bs.length cL, .slice aP c.ps.length cP, .slice aQ c.qs.length cQ, .int .i64 c.now, .slice aM c.ms.length cM, .slice aF c.fs.length cF] 35, hA.below ((Below.refl _ _).alloc (Nat.le_refl _) _)⟩
  have k0 := PX.X.cell 0 rfl
  have k1 := PX.X.cell 1 rfl
  have k2 := PX.X.cell 2 rfl
  have k3 := PX.X.cell 3 rfl
  have k4 := PX.X.cell 4 rfl
  have k5 := PX.X.cell 5 rfl
  go_enter Tryz.func17, Tryz.ntmps17
  go_wp2_with fail
  generalize w.alloc (.cells #[.int .i64 c.n, .int .i64 c.f, .int .i64 c.p, .int .i64 c.a, .int .i64 c.l, .int .i64 c.m, .slice aK c.zs.length cK, .slice aL c.bs.length cL, .slice aP c.ps.length cP, .slice aQ c.qs.length cQ, .int .i64 c.now, .slice aM c.ms.length cM, .slice aF c.fs.length cF] 35) = w1 at PX ⊢
  clear k0 k1 k2 k3 k4 k5
  refine (i_RuleOk c.n c.f c.p c.a c.l c.m _).mono ?_
  rintro e w2 ⟨rfl, b2⟩
  replace PX := PX.below b2
  clear b2
  cases hr : RO c.n c.f c.p c.a c.l c.m with
  | false =>
    have HV : Hid (CO c = false) := co_ro hr
    clear hr
    go_wp2
    go_ret
    exact ⟨retb HV.out.symm, PX.B⟩
  | true =>
    have HR := hid hr
    clear hr
    have k0 := PX.X.cell 0 rfl
    have k1 := PX.X.cell 1 rfl
    have k2 := PX.X.cell 2 rfl
    have k3 := PX.X.cell 3 rfl
    have k4 := PX.X.cell 4 rfl
    have k5 := PX.X.cell 5 rfl
    have k6 := PX.X.cell 6 rfl
    have k7 := PX.X.cell 7 rfl
    have k8 := PX.X.cell 8 rfl
    have k9 := PX.X.cell 9 rfl
    have k10 := PX.X.cell 10 rfl
    have k11 := PX.X.cell 11 rfl
    have k12 := PX.X.cell 12 rfl
    go_wp2_with fail
    clear k0 k1 k2 k3 k4 k5 k6 k7 k8 k9 k10 k11 k12
    refine (i_peersOk c _ _ _ _ _ _ _ _ _ _ _ _ _ PX.A hz HR.out).mono ?_
    rintro e w3 ⟨rfl, b3⟩
    replace PX := PX.below b3
    clear b3
    cases hp : PS c with
    | false =>
      have HV : Hid (CO c = false) := co_ps hp
      clear hp
      go_wp2
      go_ret
      exact ⟨retb HV.out.symm, PX.B⟩
    | true =>
      have HP := hid hp
      clear hp
      have k10 := PX.X.cell 10 rfl
      go_wp2_with fail
      clear k10
      by_cases hn : 0 ≤ c.now ∧ c.now ≤ 100000
      case neg =>
        have HV : Hid (CO c = false) := co_now hn
        have e0 : Hid (IN 0 100000 c.now = false) := in_no hn
        clear hn
        refine (Sp.i_InSpan 0 100000 c.now _).mono ?_
        rintro e w4 ⟨rfl, b4⟩
        replace PX := PX.below b4
        rw [e0.out]
        clear b4
        go_wp2
        go_ret
        exact ⟨retb HV.out.symm, PX.B⟩
      case pos =>
        have HN := hid hn
        have e0 : Hid (IN 0 100000 c.now = true) := in_yes (by unfold Tm; omega) (by unfold Tm; omega) hn
        clear hn
        refine (Sp.i_InSpan 0 100000 c.now _).mono ?_
        rintro e w4 ⟨rfl, b4⟩
        replace PX := PX.below b4
        rw [e0.out]
        clear b4
        have k6 := PX.X.cell 6 rfl
        have k11 := PX.X.cell 11 rfl
        go_wp2_with fail
        clear k6 k11
        refine (i_isMerged aK cK c.zs aM c.ms.length cM c.ms _ PX.A.K hz.K PX.A.M hz.M).mono ?_
        rintro e w5 ⟨rfl, b5⟩
        replace PX := PX.below b5
        clear b5
        cases hm : MD c.zs c.ms with
        | false =>
          have HV : Hid (CO c = false) := co_md hm
          clear hm
          go_wp2
          go_ret
          exact ⟨retb HV.out.symm, PX.B⟩
        | true =>
          have HM := hid hm
          clear hm
          have HPL : Hid (c.ps.length = c.bs.length) := by show _ = _; have q := (of_decide_eq_true HP.out).1; rw [q.2.2.2.1, q.2.2.1]
          have HMM : Hid (1 ≤ c.m ∧ c.m ≤ 1000) := by show _ ∧ _; have q := of_decide_eq_true HR.out; unfold RK at q; omega
          have k0 := PX.X.cell 0 rfl
          have k1 := PX.X.cell 1 rfl
          have k2 := PX.X.cell 2 rfl
          have k3 := PX.X.cell 3 rfl
          have k4 := PX.X.cell 4 rfl
          have k5 := PX.X.cell 5 rfl
          have k6 := PX.X.cell 6 rfl
          have k7 := PX.X.cell 7 rfl
          have k8 := PX.X.cell 8 rfl
          have k9 := PX.X.cell 9 rfl
          have k10 := PX.X.cell 10 rfl
          have k11 := PX.X.cell 11 rfl
          have k12 := PX.X.cell 12 rfl
          go_wp2_with fail
          clear k0 k1 k2 k3 k4 k5 k6 k7 k8 k9 k10 k11 k12
          refine (i_parcelsOk c _ _ _ _ _ _ _ _ _ _ _ _ _ PX.A hz HPL.out HN.out HMM.out).mono ?_
          rintro e w6 ⟨rfl, b6⟩
          replace PX := PX.below b6
          clear b6
          cases hq : PQ c with
          | false =>
            have HV : Hid (CO c = false) := co_pq hq
            clear hq
            go_wp2
            go_ret
            exact ⟨retb HV.out.symm, PX.B⟩
          | true =>
            have HV : Hid (CO c = PF c) := co_all HR.out HP.out HN.out HM.out hq
            clear hq
            have k0 := PX.X.cell 0 rfl
            have k1 := PX.X.cell 1 rfl
            have k2 := PX.X.cell 2 rfl
            have k3 := PX.X.cell 3 rfl
            have k4 := PX.X.cell 4 rfl
            have k5 := PX.X.cell 5 rfl
            have k6 := PX.X.cell 6 rfl
            have k7 := PX.X.cell 7 rfl
            have k8 := PX.X.cell 8 rfl
            have k9 := PX.X.cell 9 rfl
            have k10 := PX.X.cell 10 rfl
            have k11 := PX.X.cell 11 rfl
            have k12 := PX.X.cell 12 rfl
            go_wp2_with fail
            clear k0 k1 k2 k3 k4 k5 k6 k7 k8 k9 k10 k11 k12
            refine (i_factsOk c _ _ _ _ _ _ _ _ _ _ _ _ _ PX.A hz HPL.out).mono ?_
            rintro e w7 ⟨rfl, b7⟩
            replace PX := PX.below b7
            go_wp2
            go_ret
            exact ⟨retb HV.out.symm, PX.B⟩

set_option maxHeartbeats 4000000 in
theorem i_HonestIn (c : CD) (aK aL aP aQ aM aF : Option Addr) (cK cL cP cQ cM cF : Nat) (w : World) (hA : c.At w aK aL aP aQ aM aF) (hz : c.Sm) :
    Calls Tryz.prog 14 #[.agg #[.int .i64 c.n, .int .i64 c.f, .int .i64 c.p, .int .i64 c.a, .int .i64 c.l, .int .i64 c.m, .slice aK c.zs.length cK, .slice aL c.bs.length cL, .slice aP c.ps.length cP, .slice aQ c.qs.length cQ, .int .i64 c.now, .slice aM c.ms.length cM, .slice aF c.fs.length cF]] w fun e w' => (∃ g cap, e = .returned (.slice (some ⟨g, 0, none⟩) (HI c).length cap) ∧ Own w' w.heap.size g (HI c).length cap (HI c)) ∧ Below w.heap.size w w' := by
  have PX : Kb c aK aL aP aQ aM aF w (w.alloc (.cells #[.int .i64 c.n, .int .i64 c.f, .int .i64 c.p, .int .i64 c.a, .int .i64 c.l, .int .i64 c.m, .slice aK c.zs.length cK, .slice aL c.bs.length cL, .slice aP c.ps.length cP, .slice aQ c.qs.length cQ, .int .i64 c.now, .slice aM c.ms.length cM, .slice aF c.fs.length cF] 35)) [.int .i64 c.n, .int .i64 c.f, .int .i64 c.p, .int .i64 c.a, .int .i64 c.l, .int .i64 c.m, .slice aK c.zs.length cK, .slice aL c.bs.length cL, .slice aP c.ps.length cP, .slice aQ c.qs.length cQ, .int .i64 c.now, .slice aM c.ms.length cM, .slice aF c.fs.length cF] := ⟨(Below.refl _ _).alloc (Nat.le_refl _) _, Room.new w [.int .i64 c.n, .int .i64 c.f, .int .i64 c.p, .int .i64 c.a, .int .i64 c.l, .int .i64 c.m, .slice aK c.zs.length cK, .slice aL c.bs.length cL, .slice aP c.ps.length cP, .slice aQ c.qs.length cQ, .int .i64 c.now, .slice aM c.ms.length cM, .slice aF c.fs.length cF] 35, hA.below ((Below.refl _ _).alloc (Nat.le_refl _) _)⟩
  have k0 := PX.X.cell 0 rfl
  have k1 := PX.X.cell 1 rfl
  have k2 := PX.X.cell 2 rfl
  have k3 := PX.X.cell 3 rfl
  have k4 := PX.X.cell 4 rfl
  have k5 := PX.X.cell 5 rfl
  have k6 := PX.X.cell 6 rfl
  have k7 := PX.X.cell 7 rfl
  have k8 := PX.X.cell 8 rfl
  have k9 := PX.X.cell 9 rfl
  have k10 := PX.X.cell 10 rfl
  have k11 := PX.X.cell 11 rfl
  have k12 := PX.X.cell 12 rfl
  go_enter Tryz.func14, Tryz.ntmps14
  go_wp2_with fail
  generalize w.alloc (.cells #[.int .i64 c.n, .int .i64 c.f, .int .i64 c.p, .int .i64 c.a, .int .i64 c.l, .int .i64 c.m, .slice aK c.zs.length cK, .slice aL c.bs.length cL, .slice aP c.ps.length cP, .slice aQ c.qs.length cQ, .int .i64 c.now, .slice aM c.ms.length cM, .slice aF c.fs.length cF] 35) = w1 at PX ⊢
  clear k0 k1 k2 k3 k4 k5 k6 k7 k8 k9 k10 k11 k12
  refine (i_CourtOk c _ _ _ _ _ _ _ _ _ _ _ _ _ PX.A hz).mono ?_
  rintro e w2 ⟨rfl, b2⟩
  replace PX := PX.below b2
  clear b2
  cases hc : CO c with
  | false =>
    have HV : Hid (HI c = []) := by show HI c = []; unfold HI; rw [hc]; rfl
    clear hc
    have O0 := World.ownsRow_made (base := w.heap.size) (e := 2) (size := 1) w2 #[] 0 PX.B.size (by unfold maxLen; omega) rfl
    have BZ := PX.B.alloc PX.B.size (.cells #[] 2)
    go_wp2
    go_ret
    rw [HV.out]
    exact ⟨⟨_, 0, rfl, O0⟩, BZ⟩
  | true =>
    have HV : Hid (HI c = HN c.bs c.bs.length) := by show HI c = _; unfold HI; rw [hc]; rfl
    have HPL : Hid (c.ps.length = c.bs.length) := by show _ = _; have q := (co_of hc).1; rw [q.2.2.2.2.1, q.2.2.2.1]
    clear hc
    have k0 := PX.X.cell 0 rfl
    have k1 := PX.X.cell 1 rfl
    have k2 := PX.X.cell 2 rfl
    have k3 := PX.X.cell 3 rfl
    have k4 := PX.X.cell 4 rfl
    have k5 := PX.X.cell 5 rfl
    have k6 := PX.X.cell 6 rfl
    have k7 := PX.X.cell 7 rfl
    have k8 := PX.X.cell 8 rfl
    have k9 := PX.X.cell 9 rfl
    have k10 := PX.X.cell 10 rfl
    have k11 := PX.X.cell 11 rfl
    have k12 := PX.X.cell 12 rfl
    go_wp2_with fail
    clear k0 k1 k2 k3 k4 k5 k6 k7 k8 k9 k10 k11 k12
    refine (i_bareHonest c _ _ _ _ _ _ _ _ _ _ _ _ _ PX.A hz.L HPL.out).mono ?_
    rintro e w3 ⟨⟨g, cap, rfl, O3⟩, b3⟩
    have szp := PX.B.size
    have O4 := O3.mono szp
    replace PX := PX.below b3
    go_wp2
    go_ret
    rw [HV.out]
    exact ⟨⟨g, cap, rfl, O4⟩, PX.B⟩

theorem i_shows (x y : Int) (z : Bool) (s : Value) (now v : Int) (hw : IntKind.i64.wrap (now + x) = v) (aS : Option Addr) (nS cS : Nat) (w : World) :
    Calls Tryz.prog 180 #[.agg #[.int .i64 x, .int .i64 y, .bool z, .slice aS nS cS], .int .i64 now] w fun e w' => e = .returned (.int .i64 v) ∧ Below w.heap.size w w' := by
  have R := Room.new w [.int .i64 x, .int .i64 y, .bool z, .slice aS nS cS] 44
  have c0 := R.cell 0 rfl
  have B := (Below.refl w.heap.size w).alloc (Nat.le_refl _) (.cells #[.int .i64 x, .int .i64 y, .bool z, .slice aS nS cS] 44)
  go_enter Tryz.func180, Tryz.ntmps180
  go_wp2
  go_ret
  exact ⟨rfl, B⟩

set_option maxHeartbeats 4000000 in
set_option maxRecDepth 100000 in
theorem i_ReadingOf (c : CD) (aK aL aP aQ aM aF : Option Addr) (cK cL cP cQ cM cF : Nat) (x : Int) (w : World) (hA : c.At w aK aL aP aQ aM aF) (hz : c.Sm) :
    Calls Tryz.prog 15 #[.agg #[.int .i64 c.n, .int .i64 c.f, .int .i64 c.p, .int .i64 c.a, .int .i64 c.l, .int .i64 c.m, .slice aK c.zs.length cK, .slice aL c.bs.length cL, .slice aP c.ps.length cP, .slice aQ c.qs.length cQ, .int .i64 c.now, .slice aM c.ms.length cM, .slice aF c.fs.length cF], .int .i64 x] w fun e w' => e = .returned (.tuple #[.int .i64 (RW c x), .bool (RG c x)]) ∧ Below w.heap.size w w' := by
  have PX : Kb c aK aL aP aQ aM aF w (w.alloc (.cells #[.int .i64 c.n, .int .i64 c.f, .int .i64 c.p, .int .i64 c.a, .int .i64 c.l, .int .i64 c.m, .slice aK c.zs.length cK, .slice aL c.bs.length cL, .slice aP c.ps.length cP, .slice aQ c.qs.length cQ, .int .i64 c.now, .slice aM c.ms.length cM, .slice aF c.fs.length cF] 35)) [.int .i64 c.n, .int .i64 c.f, .int .i64 c.p, .int .i64 c.a, .int .i64 c.l, .int .i64 c.m, .slice aK c.zs.length cK, .slice aL c.bs.length cL, .slice aP c.ps.length cP, .slice aQ c.qs.length cQ, .int .i64 c.now, .slice aM c.ms.length cM, .slice aF c.fs.length cF] := ⟨(Below.refl _ _).alloc (Nat.le_refl _) _, Room.new w [.int .i64 c.n, .int .i64 c.f, .int .i64 c.p, .int .i64 c.a, .int .i64 c.l, .int .i64 c.m, .slice aK c.zs.length cK, .slice aL c.bs.length cL, .slice aP c.ps.length cP, .slice aQ c.qs.length cQ, .int .i64 c.now, .slice aM c.ms.length cM, .slice aF c.fs.length cF] 35, hA.below ((Below.refl _ _).alloc (Nat.le_refl _) _)⟩
  have k0 := PX.X.cell 0 rfl
  have k1 := PX.X.cell 1 rfl
  have k2 := PX.X.cell 2 rfl
  have k3 := PX.X.cell 3 rfl
  have k4 := PX.X.cell 4 rfl
  have k5 := PX.X.cell 5 rfl
  have k6 := PX.X.cell 6 rfl
  have k7 := PX.X.cell 7 rfl
  have k8 := PX.X.cell 8 rfl
  have k9 := PX.X.cell 9 rfl
  have k10 := PX.X.cell 10 rfl
  have k11 := PX.X.cell 11 rfl
  have k12 := PX.X.cell 12 rfl
  go_enter Tryz.func15, Tryz.ntmps15
  go_wp2_with fail
  generalize w.alloc (.cells #[.int .i64 c.n, .int .i64 c.f, .int .i64 c.p, .int .i64 c.a, .int .i64 c.l, .int .i64 c.m, .slice aK c.zs.length cK, .slice aL c.bs.length cL, .slice aP c.ps.length cP, .slice aQ c.qs.length cQ, .int .i64 c.now, .slice aM c.ms.length cM, .slice aF c.fs.length cF] 35) = w1 at PX ⊢
  clear k0 k1 k2 k3 k4 k5 k6 k7 k8 k9 k10 k11 k12
  refine (i_CourtOk c _ _ _ _ _ _ _ _ _ _ _ _ _ PX.A hz).mono ?_
  rintro e w2 ⟨rfl, b2⟩
  replace PX := PX.below b2
  clear b2
  cases hc : CO c with
  | false =>
    have HV : Hid (RG c x = false) := by show RG c x = false; unfold RG; rw [hc]; rfl
    clear hc
    go_wp2
    go_ret2
    exact ⟨Cd.rg_no HV.out, PX.B⟩
  | true =>
    have HCO : Hid (CO c = true) := hc
    clear hc
    have hnl : (c.ps.length : Int) = c.n ∧ c.ps.length ≤ 16 := by have q := (co_of HCO.out).1; have := (Sl.ko_of q.2.1).1; have := q.2.2.2.2.1; have := q.2.2.1; omega
    have HPL : Hid (c.ps.length = c.bs.length) := by show _ = _; have q := (co_of HCO.out).1; rw [q.2.2.2.2.1, q.2.2.2.1]
    have hw1 : IntKind.i64.wrap (c.n - 1) = c.n - 1 := by rw [IntKind.wrap_i64]; omega
    have HNL := hid hnl
    clear hnl
    have k0 := PX.X.cell 0 rfl
    go_wp2_with fail
    clear k0 hw1
    by_cases hx : 0 ≤ x ∧ x ≤ c.n - 1
    case neg =>
      have HV : Hid (RG c x = false) := by show RG c x = false; have := HNL.out; unfold RG; rw [decide_eq_false (by omega)]; simp
      have e0 : Hid (IN 0 (c.n - 1) x = false) := in_no hx
      clear hx
      refine (Sp.i_InSpan 0 (c.n - 1) x _).mono ?_
      rintro e w3 ⟨rfl, b3⟩
      replace PX := PX.below b3
      clear b3
      rw [e0.out]
      go_wp2
      go_ret2
      exact ⟨Cd.rg_no HV.out, PX.B⟩
    case pos =>
      have e0 : Hid (IN 0 (c.n - 1) x = true) := in_yes (by unfold Tm; omega) (by have := HNL.out; unfold Tm; omega) hx
      obtain ⟨j, rfl⟩ : ∃ j : Nat, x = (j : Int) := ⟨x.toNat, by omega⟩
      have hj : j < c.ps.length := by have := HNL.out; omega
      have HY : Hid (RG c (j : Int) = true ∧ RW c (j : Int) = c.now + (pd c.ps j).1) := Cd.rg_yes HCO.out hj
      have HJ : Hid (j < c.bs.length) := by show _ < _; rw [← HPL.out]; exact hj
      have HW : Hid (IntKind.i64.wrap (c.now + (pd c.ps j).1) = c.now + (pd c.ps j).1) := by show _ = _; have hbd := (pk_bd ((co_of HCO.out).2.2.1 j hj)).1; have hnw := (co_of HCO.out).2.1.2.1; rw [IntKind.wrap_i64]; omega
      have hi : (j : Int) < (c.bs.length : Int) := by have := HJ.out; omega
      clear hx hj
      refine (Sp.i_InSpan 0 (c.n - 1) (j : Int) _).mono ?_
      rintro e w3 ⟨rfl, b3⟩
      replace PX := PX.below b3
      clear b3
      rw [e0.out]
      go_wp2_with fail
      cases hb : c.bs.getD j false with
      | true =>
        have HB := hid hb
        clear hb
        refine wp_region_noPanic ?_
        refine wp_region_held_drew (S := (fun w' => (w'.cell? ⟨w.heap.size, 0, none⟩ = some (.int .i64 c.n) ∧ w'.cell? ⟨w.heap.size, 1, none⟩ = some (.int .i64 c.f) ∧ w'.cell? ⟨w.heap.size, 2, none⟩ = some (.int .i64 c.p) ∧ w'.cell? ⟨w.heap.size, 3, none⟩ = some (.int .i64 c.a) ∧ w'.cell? ⟨w.heap.size, 4, none⟩ = some (.int .i64 c.l) ∧ w'.cell? ⟨w.heap.size, 5, none⟩ = some (.int .i64 c.m) ∧ w'.cell? ⟨w.heap.size, 6, none⟩ = some (.slice aK c.zs.length cK) ∧ w'.cell? ⟨w.heap.size, 7, none⟩ = some (.slice aL c.bs.length cL) ∧ w'.cell? ⟨w.heap.size, 8, none⟩ = some (.slice aP c.ps.length cP) ∧ w'.cell? ⟨w.heap.size, 9, none⟩ = some (.slice aQ c.qs.length cQ) ∧ w'.cell? ⟨w.heap.size, 10, none⟩ = some (.int .i64 c.now) ∧ w'.cell? ⟨w.heap.size, 11, none⟩ = some (.slice aM c.ms.length cM) ∧ w'.cell? ⟨w.heap.size, 12, none⟩ = some (.slice aF c.fs.length cF)) ∧ Hid (Kb c aK aL aP aQ aM aF w w' [.int .i64 c.n, .int .i64 c.f, .int .i64 c.p, .int .i64 c.a, .int .i64 c.l, .int .i64 c.m, .slice aK c.zs.length cK, .slice aL c.bs.length cL, .slice aP c.ps.length cP, .slice aQ c.qs.length cQ, .int .i64 c.now, .slice aM c.ms.length cM, .slice aF c.fs.length cF]))) (by kernel_rfl) ⟨⟨(PX.below (Below.refl _ _).drew).X.cell 0 rfl, (PX.below (Below.refl _ _).drew).X.cell 1 rfl, (PX.below (Below.refl _ _).drew).X.cell 2 rfl, (PX.below (Below.refl _ _).drew).X.cell 3 rfl, (PX.below (Below.refl _ _).drew).X.cell 4 rfl, (PX.below (Below.refl _ _).drew).X.cell 5 rfl, (PX.below (Below.refl _ _).drew).X.cell 6 rfl, (PX.below (Below.refl _ _).drew).X.cell 7 rfl, (PX.below (Below.refl _ _).drew).X.cell 8 rfl, (PX.below (Below.refl _ _).drew).X.cell 9 rfl, (PX.below (Below.refl _ _).drew).X.cell 10 rfl, (PX.below (Below.refl _ _).drew).X.cell 11 rfl, (PX.below (Below.refl _ _).drew).X.cell 12 rfl⟩, (PX.below (Below.refl _ _).drew)⟩ (fun hHeld => ?_)
        refine Tk.W 0 (some 19) (.load 35 (.tmp 2)) 35 none ?_
        refine Tk.W 2 (some 21) (.move (.tmp 1)) 2 none ?_
        refine Tk.W 5 (some 24) (.fieldAddr 35 (.tmp 2) 5) 0 none ?_
        refine Tk.W 6 (some 25) (.load 2 (.tmp 24)) 2 none ?_
        refine Tk.R 1 (some 20) (.call ⟨.value (.func 50), #[.tmp 19], #[35]⟩) 83 none (fun K hK => ?_)
        go_simp
        refine (i_peersIn c _ _ _ _ _ _ _ _ _ _ _ _ _ hHeld.2.out.A hz.L HPL.out).mono ?_
        rintro e wv ⟨⟨g, rfl, hI, _⟩, brl5⟩
        have Prl5 := hHeld.2.out.below brl5
        obtain ⟨aS, cS, e0, _⟩ := hI.2 j HJ.out
        rw [HB.out] at e0
        replace e0 : wv.cell? ⟨g, j, none⟩ = some (.iface 121 (pag (pd c.ps j) aS cS)) := e0
        clear hI brl5
        have m1 := meth_shows_l (pd c.ps j).1 (pd c.ps j).2.1 (pd c.ps j).2.2.1 aS (pd c.ps j).2.2.2.length cS
        try dsimp only
        refine hK.out _ _ ⟨⟨Prl5.X.cell 0 rfl, Prl5.X.cell 1 rfl, Prl5.X.cell 2 rfl, Prl5.X.cell 3 rfl, Prl5.X.cell 4 rfl, Prl5.X.cell 5 rfl, Prl5.X.cell 6 rfl, Prl5.X.cell 7 rfl, Prl5.X.cell 8 rfl, Prl5.X.cell 9 rfl, Prl5.X.cell 10 rfl, Prl5.X.cell 11 rfl, Prl5.X.cell 12 rfl⟩, Prl5⟩ ?_; clear hK K hHeld; intro hHeld; try simp only [Act.put, List.setIfInBounds_toArray, List.set_cons_zero, List.set_cons_succ]
        refine Tk.W 3 (some 22) (.indexAddr 83 (.tmp 20) (.tmp 21)) 0 none ?_
        refine Tk.R 4 (some 23) (.load 82 (.tmp 22)) 82 none (fun K hK => ?_)
        go_simp
        try dsimp only
        refine hK.out _ _ hHeld ?_; clear hK K hHeld; intro hHeld; try simp only [Act.put, List.setIfInBounds_toArray, List.set_cons_zero, List.set_cons_succ]
        refine Tk.R 7 (some 26) (.call ⟨.invoke (.tmp 23) "loop.example/g00708/impl.shows", #[.tmp 25], #[2]⟩) 2 none (fun K hK => ?_)
        go_simp
        refine (i_shows (pd c.ps j).1 (pd c.ps j).2.1 (pd c.ps j).2.2.1 (.bool true) c.now (c.now + (pd c.ps j).1) HW.out aS (pd c.ps j).2.2.2.length cS _).mono ?_
        rintro e wv ⟨rfl, brl8⟩
        have Prl8 := hHeld.2.out.below brl8
        try dsimp only
        refine hK.out _ _ ⟨⟨Prl8.X.cell 0 rfl, Prl8.X.cell 1 rfl, Prl8.X.cell 2 rfl, Prl8.X.cell 3 rfl, Prl8.X.cell 4 rfl, Prl8.X.cell 5 rfl, Prl8.X.cell 6 rfl, Prl8.X.cell 7 rfl, Prl8.X.cell 8 rfl, Prl8.X.cell 9 rfl, Prl8.X.cell 10 rfl, Prl8.X.cell 11 rfl, Prl8.X.cell 12 rfl⟩, Prl8⟩ ?_; clear hK K hHeld; intro hHeld; try simp only [Act.put, List.setIfInBounds_toArray, List.set_cons_zero, List.set_cons_succ]
        refine Tk.W 8 (some 4) (.assign (.tmp 26)) 2 none ?_
        refine Tk.W 9 (some 5) (.assign (.const (.bool true))) 4 none ?_
        refine wpAnyH_done (by kernel_rfl) ?_ _
        refine NoPanic.normal ?_
        have PY := hHeld.2.out
        clear hHeld
        go_wp2
        go_ret2
        exact ⟨by rw [HY.out.1, HY.out.2]; rfl, PY.B⟩
      | false =>
        have HB := hid hb
        clear hb
        refine wp_region_noPanic ?_
        refine wp_region_held_drew (S := (fun w' => (w'.cell? ⟨w.heap.size, 0, none⟩ = some (.int .i64 c.n) ∧ w'.cell? ⟨w.heap.size, 1, none⟩ = some (.int .i64 c.f) ∧ w'.cell? ⟨w.heap.size, 2, none⟩ = some (.int .i64 c.p) ∧ w'.cell? ⟨w.heap.size, 3, none⟩ = some (.int .i64 c.a) ∧ w'.cell? ⟨w.heap.size, 4, none⟩ = some (.int .i64 c.l) ∧ w'.cell? ⟨w.heap.size, 5, none⟩ = some (.int .i64 c.m) ∧ w'.cell? ⟨w.heap.size, 6, none⟩ = some (.slice aK c.zs.length cK) ∧ w'.cell? ⟨w.heap.size, 7, none⟩ = some (.slice aL c.bs.length cL) ∧ w'.cell? ⟨w.heap.size, 8, none⟩ = some (.slice aP c.ps.length cP) ∧ w'.cell? ⟨w.heap.size, 9, none⟩ = some (.slice aQ c.qs.length cQ) ∧ w'.cell? ⟨w.heap.size, 10, none⟩ = some (.int .i64 c.now) ∧ w'.cell? ⟨w.heap.size, 11, none⟩ = some (.slice aM c.ms.length cM) ∧ w'.cell? ⟨w.heap.size, 12, none⟩ = some (.slice aF c.fs.length cF)) ∧ Hid (Kb c aK aL aP aQ aM aF w w' [.int .i64 c.n, .int .i64 c.f, .int .i64 c.p, .int .i64 c.a, .int .i64 c.l, .int .i64 c.m, .slice aK c.zs.length cK, .slice aL c.bs.length cL, .slice aP c.ps.length cP, .slice aQ c.qs.length cQ, .int .i64 c.now, .slice aM c.ms.length cM, .slice aF c.fs.length cF]))) (by kernel_rfl) ⟨⟨(PX.below (Below.refl _ _).drew).X.cell 0 rfl, (PX.below (Below.refl _ _).drew).X.cell 1 rfl, (PX.below (Below.refl _ _).drew).X.cell 2 rfl, (PX.below (Below.refl _ _).drew).X.cell 3 rfl, (PX.below (Below.refl _ _).drew).X.cell 4 rfl, (PX.below (Below.refl _ _).drew).X.cell 5 rfl, (PX.below (Below.refl _ _).drew).X.cell 6 rfl, (PX.below (Below.refl _ _).drew).X.cell 7 rfl, (PX.below (Below.refl _ _).drew).X.cell 8 rfl, (PX.below (Below.refl _ _).drew).X.cell 9 rfl, (PX.below (Below.refl _ _).drew).X.cell 10 rfl, (PX.below (Below.refl _ _).drew).X.cell 11 rfl, (PX.below (Below.refl _ _).drew).X.cell 12 rfl⟩, (PX.below (Below.refl _ _).drew)⟩ (fun hHeld => ?_)
        refine Tk.W 0 (some 19) (.load 35 (.tmp 2)) 35 none ?_
        refine Tk.W 2 (some 21) (.move (.tmp 1)) 2 none ?_
        refine Tk.W 5 (some 24) (.fieldAddr 35 (.tmp 2) 5) 0 none ?_
        refine Tk.W 6 (some 25) (.load 2 (.tmp 24)) 2 none ?_
        refine Tk.R 1 (some 20) (.call ⟨.value (.func 50), #[.tmp 19], #[35]⟩) 83 none (fun K hK => ?_)
        go_simp
        refine (i_peersIn c _ _ _ _ _ _ _ _ _ _ _ _ _ hHeld.2.out.A hz.L HPL.out).mono ?_
        rintro e wv ⟨⟨g, rfl, hI, _⟩, brh5⟩
        have Prh5 := hHeld.2.out.below brh5
        obtain ⟨aS, cS, e0, _⟩ := hI.2 j HJ.out
        rw [HB.out] at e0
        replace e0 : wv.cell? ⟨g, j, none⟩ = some (.iface 120 (pag (pd c.ps j) aS cS)) := e0
        clear hI brh5
        have m1 := meth_shows_h (pd c.ps j).1 (pd c.ps j).2.1 (pd c.ps j).2.2.1 aS (pd c.ps j).2.2.2.length cS
        try dsimp only
        refine hK.out _ _ ⟨⟨Prh5.X.cell 0 rfl, Prh5.X.cell 1 rfl, Prh5.X.cell 2 rfl, Prh5.X.cell 3 rfl, Prh5.X.cell 4 rfl, Prh5.X.cell 5 rfl, Prh5.X.cell 6 rfl, Prh5.X.cell 7 rfl, Prh5.X.cell 8 rfl, Prh5.X.cell 9 rfl, Prh5.X.cell 10 rfl, Prh5.X.cell 11 rfl, Prh5.X.cell 12 rfl⟩, Prh5⟩ ?_; clear hK K hHeld; intro hHeld; try simp only [Act.put, List.setIfInBounds_toArray, List.set_cons_zero, List.set_cons_succ]
        refine Tk.W 3 (some 22) (.indexAddr 83 (.tmp 20) (.tmp 21)) 0 none ?_
        refine Tk.R 4 (some 23) (.load 82 (.tmp 22)) 82 none (fun K hK => ?_)
        go_simp
        try dsimp only
        refine hK.out _ _ hHeld ?_; clear hK K hHeld; intro hHeld; try simp only [Act.put, List.setIfInBounds_toArray, List.set_cons_zero, List.set_cons_succ]
        refine Tk.R 7 (some 26) (.call ⟨.invoke (.tmp 23) "loop.example/g00708/impl.shows", #[.tmp 25], #[2]⟩) 2 none (fun K hK => ?_)
        go_simp
        refine (i_shows (pd c.ps j).1 (pd c.ps j).2.1 (pd c.ps j).2.2.1 (.bool true) c.now (c.now + (pd c.ps j).1) HW.out aS (pd c.ps j).2.2.2.length cS _).mono ?_
        rintro e wv ⟨rfl, brh8⟩
        have Prh8 := hHeld.2.out.below brh8
        try dsimp only
        refine hK.out _ _ ⟨⟨Prh8.X.cell 0 rfl, Prh8.X.cell 1 rfl, Prh8.X.cell 2 rfl, Prh8.X.cell 3 rfl, Prh8.X.cell 4 rfl, Prh8.X.cell 5 rfl, Prh8.X.cell 6 rfl, Prh8.X.cell 7 rfl, Prh8.X.cell 8 rfl, Prh8.X.cell 9 rfl, Prh8.X.cell 10 rfl, Prh8.X.cell 11 rfl, Prh8.X.cell 12 rfl⟩, Prh8⟩ ?_; clear hK K hHeld; intro hHeld; try simp only [Act.put, List.setIfInBounds_toArray, List.set_cons_zero, List.set_cons_succ]
        refine Tk.W 8 (some 4) (.assign (.tmp 26)) 2 none ?_
        refine Tk.W 9 (some 5) (.assign (.const (.bool true))) 4 none ?_
        refine wpAnyH_done (by kernel_rfl) ?_ _
        refine NoPanic.normal ?_
        have PY := hHeld.2.out
        clear hHeld
        go_wp2
        go_ret2
        exact ⟨by rw [HY.out.1, HY.out.2]; rfl, PY.B⟩

end Go.Proofs.YtimakfokgcnklaaGreat.Mi
