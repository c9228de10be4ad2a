/-
  A new court is as the model says, and its memory its own
-/
import Derived.Test.YtimakfokgcnklaaGreatRows
import Derived.WalkKit
import Derived.ProofKit
import Derived.OpenShut
import Derived.ChangeOld
import Derived.Below
import Derived.Lib.SmallJoins
import Derived.Test.YtimakfokgcnklaaGreatOpW
import Derived.Test.YtimakfokgcnklaaGreatNk
import Derived.Test.YtimakfokgcnklaaGreatOpD
import Derived.Test.YtimakfokgcnklaaGreatOpC
namespace Go.Proofs.YtimakfokgcnklaaGreat.fnExactNewCourt
open Go.ChangeShapes Go.WideShapes Go.ChangeAt Go.RowKit Go.Joins
set_option linter.unusedVariables false
set_option linter.unusedSimpArgs false

theorem own : ownKnob Tryz.prog.godebug = none := by kernel_rfl
theorem laidOut : laidOutB Tryz.prog = true := by kernel_rfl

theorem toRuleN (n f p a l m : Int) (w : World) : Calls Tryz.prog 22 #[.agg #[.int .i64 n, .int .i64 f, .int .i64 p, .int .i64 a, .int .i64 l, .int .i64 m]] w fun e w' => e = .returned (.agg #[.int .i64 n, .int .i64 f, .int .i64 p, .int .i64 a, .int .i64 l, .int .i64 m]) ∧ Below w.heap.size w w' :=
  Cd.toRule (Nw.nc n f p a l m [] [] []) w
theorem hasB_grown {w w2 : World} {A g n b : Nat} {bs : List Bool} (h : Bo.HasB w A g 0 n bs) (hg : w.grownBy w2 (some b)) (hne : g ≠ b) : Bo.HasB w2 A g 0 n bs :=
  (Ns.Mid.of_grown (B := b) (C := b + 1) hg (Nat.le_refl _) (Nat.lt_succ_self _)).hasB h (by omega)
theorem _root_.Go.Proofs.YtimakfokgcnklaaGreat.Nw.Nm.grown {w w2 : World} {lo gK gL gP b : Nat} {zs os : List Int} {bs : List Bool} (h : Nw.Nm w lo gK gL gP zs bs os) (hg : w.grownBy w2 (some b)) (h1 : gK ≠ b) (h2 : gL ≠ b) (h3 : gP ≠ b) : Nw.Nm w2 lo gK gL gP zs bs os :=
  ⟨h.K.keep (hg.block _ h.K.lt (by simpa using h1)) hg.size, h.L.keep (hg.block _ h.L.lt (by simpa using h2)) hg.size, h.P.keep (hg.block _ h.P.lt (by simpa using h3)) hg.size, h.n1, h.n2, h.n3⟩
theorem _root_.Go.Proofs.YtimakfokgcnklaaGreat.Nw.Nm.gr {w w2 : World} {lo gK gL gP a b c : Nat} {zs os : List Int} {bs : List Bool} (h : Nw.Nm w lo gK gL gP zs bs os) (hg : Nw.Gr w w2 a b c) (x1 : gK ≠ a) (x2 : gK ≠ b) (x3 : gK ≠ c) (y1 : gL ≠ a) (y2 : gL ≠ b) (y3 : gL ≠ c) (z1 : gP ≠ a) (z2 : gP ≠ b) (z3 : gP ≠ c) : Nw.Nm w2 lo gK gL gP zs bs os :=
  ⟨h.K.keep (hg.block _ h.K.lt x1 x2 x3) hg.size, h.L.keep (hg.block _ h.L.lt y1 y2 y3) hg.size, h.P.keep (hg.block _ h.P.lt z1 z2 z3) hg.size, h.n1, h.n2, h.n3⟩
theorem hasK {w : World} {lo g : Nat} {zs : List Int} (h : Nw.Pk w lo g (Ow.ints zs)) : Ow.Has w g g 0 zs.length zs :=
  ⟨rfl, Nat.le_refl _, h.lt, fun k hk => by rw [Nat.zero_add]; exact h.R.cell k (by simp [Ow.ints, Ls.el, List.getElem?_eq_getElem hk]), fun k hk => by rw [Nat.zero_add]; exact h.R.froz k (v := .int .i64 (Ls.el zs k)) (by simp [Ow.ints, Ls.el, List.getElem?_eq_getElem hk])⟩

/-! The walk. -/
set_option maxHeartbeats 20000000 in
set_option maxRecDepth 100000 in
theorem walk (rn rf rp ra rl rm : Int) (b : Option Addr) (m mb : Nat) (os : List Int) (b1 : Option Addr) (m1 mb1 : Nat) (os1 : List Int) (a : Option Addr) (k ka : Nat) (bs : List Bool) (w : World) (hs : Ls.Row w w.heap.size b m os) (lm : m ≤ maxLen) (hs1 : Ls.Row w w.heap.size b1 m1 os1) (lm1 : m1 ≤ maxLen) (hr : Rd.Flags w w.heap.size a k bs) (lk : k ≤ maxLen) :
    Calls Tryz.prog 5 #[.agg #[.int .i64 rn, .int .i64 rf, .int .i64 rp, .int .i64 ra, .int .i64 rl, .int .i64 rm], .slice b m mb, .slice b1 m1 mb1, .slice a k ka] w fun e w' => e = .returned (.bool true) ∧ Below w.heap.size w w' := by
  have e1 := hs.1
  subst e1
  have e2 := hs1.1
  subst e2
  have e3 := hr.1
  subst e3
  by_cases q1 : os.length ≤ 1048576
  case neg =>
    have d1 : decide ((os.length : Int) > 1048576) = true := decide_eq_true (by omega)
    have BZ := (Below.refl w.heap.size w).alloc (Nat.le_refl _) (.cells #[.int .i64 rn, .int .i64 rf, .int .i64 rp, .int .i64 ra, .int .i64 rl, .int .i64 rm] 46)
    go_enter Tryz.func5, Tryz.ntmps5
    go_wp2
    go_ret
    exact ⟨rfl, BZ⟩
  case pos =>
    have d1 : decide ((os.length : Int) > 1048576) = false := decide_eq_false (by omega)
    by_cases q2 : os1.length ≤ 1048576
    case neg =>
      have d2 : decide ((os1.length : Int) > 1048576) = true := decide_eq_true (by omega)
      have BZ := (Below.refl w.heap.size w).alloc (Nat.le_refl _) (.cells #[.int .i64 rn, .int .i64 rf, .int .i64 rp, .int .i64 ra, .int .i64 rl, .int .i64 rm] 46)
      go_enter Tryz.func5, Tryz.ntmps5
      go_wp2
      go_ret
      exact ⟨rfl, BZ⟩
    case pos =>
      have d2 : decide ((os1.length : Int) > 1048576) = false := decide_eq_false (by omega)
      by_cases q3 : bs.length ≤ 1048576
      case neg =>
        have d3 : decide ((bs.length : Int) > 1048576) = true := decide_eq_true (by omega)
        have BZ := (Below.refl w.heap.size w).alloc (Nat.le_refl _) (.cells #[.int .i64 rn, .int .i64 rf, .int .i64 rp, .int .i64 ra, .int .i64 rl, .int .i64 rm] 46)
        go_enter Tryz.func5, Tryz.ntmps5
        go_wp2
        go_ret
        exact ⟨rfl, BZ⟩
      case pos =>
        have d3 : decide ((bs.length : Int) > 1048576) = false := decide_eq_false (by omega)
        cases hN : Nw.NO rn rf rp ra rl rm os bs os1 with
        | true =>
          have HN := Mi.hid hN
          clear hN
          have R := Rm.Room.new w [.int .i64 rn, .int .i64 rf, .int .i64 rp, .int .i64 ra, .int .i64 rl, .int .i64 rm] 46
          have BZ := (Below.refl w.heap.size w).alloc (Nat.le_refl _) (.cells #[.int .i64 rn, .int .i64 rf, .int .i64 rp, .int .i64 ra, .int .i64 rl, .int .i64 rm] 46)
          have z_R : w.heap.size < (w.alloc (.cells #[.int .i64 rn, .int .i64 rf, .int .i64 rp, .int .i64 ra, .int .i64 rl, .int .i64 rm] 46)).heap.size := by simp
          go_enter Tryz.func5, Tryz.ntmps5
          have r0 := R.cell 0 rfl
          have r1 := R.cell 1 rfl
          have r2 := R.cell 2 rfl
          have r3 := R.cell 3 rfl
          have r4 := R.cell 4 rfl
          have r5 := R.cell 5 rfl
          go_wp2_with fail
          clear r0 r1 r2 r3 r4 r5
          generalize w.alloc (.cells #[.int .i64 rn, .int .i64 rf, .int .i64 rp, .int .i64 ra, .int .i64 rl, .int .i64 rm] 46) = u1 at R BZ z_R ⊢
          refine (toRuleN rn rf rp ra rl rm _).mono ?_
          rintro e u2 ⟨rfl, bq⟩
          replace z_R := Nat.lt_of_lt_of_le z_R bq.size
          replace R := R.below bq
          replace BZ := BZ.trans (bq.mono BZ.size)
          clear bq
          go_wp2_with fail
          refine (Ow.copied b os.length mb os _ ((hs.later BZ (Nat.le_refl _)).more BZ.size) q1).mono ?_
          rintro e u3 ⟨⟨gKa, rfl, cKa⟩, bq⟩
          replace z_R := Nat.lt_of_lt_of_le z_R bq.size
          replace R := R.below bq
          replace BZ := BZ.trans (bq.mono BZ.size)
          clear bq
          go_wp2_with fail
          refine (Ow.copied b1 os1.length mb1 os1 _ ((hs1.later BZ (Nat.le_refl _)).more BZ.size) q2).mono ?_
          rintro e u4 ⟨⟨gOa, rfl, cOa⟩, bq⟩
          replace z_R := Nat.lt_of_lt_of_le z_R bq.size
          replace R := R.below bq
          replace BZ := BZ.trans (bq.mono BZ.size)
          replace cKa := cKa.later bq cKa.2.2.1
          clear bq
          go_wp2_with fail
          refine (Bo.copied a bs.length ka bs _ ((hr.later BZ (Nat.le_refl _)).more BZ.size) q3).mono ?_
          rintro e u5 ⟨⟨gLa, rfl, cLa⟩, bq⟩
          replace z_R := Nat.lt_of_lt_of_le z_R bq.size
          replace R := R.below bq
          replace BZ := BZ.trans (bq.mono BZ.size)
          replace cKa := cKa.later bq cKa.2.2.1
          replace cOa := cOa.later bq cOa.2.2.1
          clear bq
          go_wp2_with fail
          refine (Nw.s_NewCourt rn rf rp ra rl rm os os1 bs _ _ _ _ _ _ _ cKa.row cOa.row cLa.row q1 q3 q2).mono ?_
          rintro e u6 ⟨hq, bq⟩
          obtain ⟨_, K1, k1, L1, l1, P1, p1, rfl, NW⟩ := hq.resolve_right (fun q => by have q1 := q.1; rw [HN.out] at q1; cases q1)
          have ob1 := Mi.hid NW.K.lo
          have ob2 := Mi.hid NW.L.lo
          have ob3 := Mi.hid NW.P.lo
          have oz := Mi.hid (z_R)
          have o1 := Mi.hid (Nat.lt_of_lt_of_le z_R NW.K.lo)
          have o2 := Mi.hid (Nat.lt_of_lt_of_le z_R NW.L.lo)
          have o3 := Mi.hid (Nat.lt_of_lt_of_le z_R NW.P.lo)
          clear ob1 ob2 ob3 oz
          replace z_R := Nat.lt_of_lt_of_le z_R bq.size
          replace R := R.below bq
          replace BZ := BZ.trans (bq.mono BZ.size)
          replace cKa := cKa.later bq cKa.2.2.1
          replace cOa := cOa.later bq cOa.2.2.1
          replace cLa := cLa.later bq cLa.2.2.1
          clear bq
          clear cKa cOa cLa
          have W := Rm.Room.new u6 [.int .i64 rn, .int .i64 rf, .int .i64 rp, .int .i64 ra, .int .i64 rl, .int .i64 rm, .slice (some ⟨K1, 0, none⟩) os.length k1, .slice (some ⟨L1, 0, none⟩) bs.length l1, .slice (some ⟨P1, 0, none⟩) os1.length p1, .slice none 0 0, .int .i64 0, .slice none 0 0, .slice none 0 0] 35
          have bq := (Below.refl u6.heap.size u6).alloc (Nat.le_refl _) (.cells #[.int .i64 rn, .int .i64 rf, .int .i64 rp, .int .i64 ra, .int .i64 rl, .int .i64 rm, .slice (some ⟨K1, 0, none⟩) os.length k1, .slice (some ⟨L1, 0, none⟩) bs.length l1, .slice (some ⟨P1, 0, none⟩) os1.length p1, .slice none 0 0, .int .i64 0, .slice none 0 0, .slice none 0 0] 35)
          obtain ⟨gW, h_gW⟩ : ∃ x, x = u6.heap.size := ⟨_, rfl⟩
          have z_W : gW < (u6.alloc (.cells #[.int .i64 rn, .int .i64 rf, .int .i64 rp, .int .i64 ra, .int .i64 rl, .int .i64 rm, .slice (some ⟨K1, 0, none⟩) os.length k1, .slice (some ⟨L1, 0, none⟩) bs.length l1, .slice (some ⟨P1, 0, none⟩) os1.length p1, .slice none 0 0, .int .i64 0, .slice none 0 0, .slice none 0 0] 35)).heap.size := by rw [h_gW]; simp
          have o4 := Mi.hid (show _ < gW by rw [h_gW]; exact NW.K.lt)
          have o5 := Mi.hid (show _ < gW by rw [h_gW]; exact NW.L.lt)
          have o6 := Mi.hid (show _ < gW by rw [h_gW]; exact NW.P.lt)
          go_wp2_with fail
          rw [← h_gW]
          replace z_R := Nat.lt_of_lt_of_le z_R bq.size
          replace R := R.below bq
          replace BZ := BZ.trans (bq.mono BZ.size)
          replace NW := NW.below bq
          generalize u6.alloc (.cells #[.int .i64 rn, .int .i64 rf, .int .i64 rp, .int .i64 ra, .int .i64 rl, .int .i64 rm, .slice (some ⟨K1, 0, none⟩) os.length k1, .slice (some ⟨L1, 0, none⟩) bs.length l1, .slice (some ⟨P1, 0, none⟩) os1.length p1, .slice none 0 0, .int .i64 0, .slice none 0 0, .slice none 0 0] 35) = vgW at W z_W bq R BZ NW z_R ⊢
          clear bq
          rw [← h_gW] at W
          clear h_gW
          refine (Ow.copied b os.length mb os _ ((hs.later BZ (Nat.le_refl _)).more BZ.size) q1).mono ?_
          rintro e u7 ⟨⟨g1, rfl, x1⟩, bq⟩
          have o7 := Mi.hid (Nat.lt_of_lt_of_le z_W x1.2.1)
          replace z_R := Nat.lt_of_lt_of_le z_R bq.size
          replace R := R.below bq
          replace BZ := BZ.trans (bq.mono BZ.size)
          replace NW := NW.below bq
          replace z_W := Nat.lt_of_lt_of_le z_W bq.size
          replace W := W.below bq
          clear bq
          go_wp2_with fail
          refine (Ow.copied b1 os1.length mb1 os1 _ ((hs1.later BZ (Nat.le_refl _)).more BZ.size) q2).mono ?_
          rintro e u8 ⟨⟨g2, rfl, x2⟩, bq⟩
          have o8 := Mi.hid (Nat.lt_of_lt_of_le x1.2.2.1 x2.2.1)
          replace z_R := Nat.lt_of_lt_of_le z_R bq.size
          replace R := R.below bq
          replace BZ := BZ.trans (bq.mono BZ.size)
          replace NW := NW.below bq
          replace z_W := Nat.lt_of_lt_of_le z_W bq.size
          replace W := W.below bq
          replace x1 := x1.later bq x1.2.2.1
          clear bq
          go_wp2_with fail
          refine (Bo.copied a bs.length ka bs _ ((hr.later BZ (Nat.le_refl _)).more BZ.size) q3).mono ?_
          rintro e u9 ⟨⟨g3, rfl, x3⟩, bq⟩
          have o9 := Mi.hid (Nat.lt_of_lt_of_le x2.2.2.1 x3.2.1)
          replace z_R := Nat.lt_of_lt_of_le z_R bq.size
          replace R := R.below bq
          replace BZ := BZ.trans (bq.mono BZ.size)
          replace NW := NW.below bq
          replace z_W := Nat.lt_of_lt_of_le z_W bq.size
          replace W := W.below bq
          replace x1 := x1.later bq x1.2.2.1
          replace x2 := x2.later bq x2.2.2.1
          clear bq
          have r0 := R.cell 0 rfl
          have r1 := R.cell 1 rfl
          have r2 := R.cell 2 rfl
          have r3 := R.cell 3 rfl
          have r4 := R.cell 4 rfl
          have r5 := R.cell 5 rfl
          go_wp2_with fail
          clear r0 r1 r2 r3 r4 r5
          refine (toRuleN rn rf rp ra rl rm _).mono ?_
          rintro e u10 ⟨rfl, bq⟩
          replace z_R := Nat.lt_of_lt_of_le z_R bq.size
          replace R := R.below bq
          replace BZ := BZ.trans (bq.mono BZ.size)
          replace NW := NW.below bq
          replace z_W := Nat.lt_of_lt_of_le z_W bq.size
          replace W := W.below bq
          replace x1 := x1.later bq x1.2.2.1
          replace x2 := x2.later bq x2.2.2.1
          replace x3 := x3.later bq x3.2.2.1
          clear bq
          go_wp2_with fail
          refine (Nw.i_NewCourt rn rf rp ra rl rm os os1 bs _ _ _ _ _ _ _ x1.row x2.row x3.row q1 q3 q2).mono ?_
          rintro e u11 ⟨hq, bq⟩
          obtain ⟨_, K2, k2, L2, l2, P2, p2, rfl, NG⟩ := hq.resolve_right (fun q => by have q1 := q.1; rw [HN.out] at q1; cases q1)
          have o10 := Mi.hid (Nat.lt_of_lt_of_le x3.2.2.1 NG.K.lo)
          have o11 := Mi.hid (Nat.lt_of_lt_of_le x3.2.2.1 NG.L.lo)
          have o12 := Mi.hid (Nat.lt_of_lt_of_le x3.2.2.1 NG.P.lo)
          replace z_R := Nat.lt_of_lt_of_le z_R bq.size
          replace R := R.below bq
          replace BZ := BZ.trans (bq.mono BZ.size)
          replace NW := NW.below bq
          replace z_W := Nat.lt_of_lt_of_le z_W bq.size
          replace W := W.below bq
          replace x1 := x1.later bq x1.2.2.1
          replace x2 := x2.later bq x2.2.2.1
          replace x3 := x3.later bq x3.2.2.1
          clear bq
          have G := Rm.Room.new u11 [.int .i64 rn, .int .i64 rf, .int .i64 rp, .int .i64 ra, .int .i64 rl, .int .i64 rm, .slice (some ⟨K2, 0, none⟩) os.length k2, .slice (some ⟨L2, 0, none⟩) bs.length l2, .slice (some ⟨P2, 0, none⟩) os1.length p2, .slice none 0 0, .int .i64 0, .slice none 0 0, .slice none 0 0] 35
          have bq := (Below.refl u11.heap.size u11).alloc (Nat.le_refl _) (.cells #[.int .i64 rn, .int .i64 rf, .int .i64 rp, .int .i64 ra, .int .i64 rl, .int .i64 rm, .slice (some ⟨K2, 0, none⟩) os.length k2, .slice (some ⟨L2, 0, none⟩) bs.length l2, .slice (some ⟨P2, 0, none⟩) os1.length p2, .slice none 0 0, .int .i64 0, .slice none 0 0, .slice none 0 0] 35)
          obtain ⟨gG, h_gG⟩ : ∃ x, x = u11.heap.size := ⟨_, rfl⟩
          have z_G : gG < (u11.alloc (.cells #[.int .i64 rn, .int .i64 rf, .int .i64 rp, .int .i64 ra, .int .i64 rl, .int .i64 rm, .slice (some ⟨K2, 0, none⟩) os.length k2, .slice (some ⟨L2, 0, none⟩) bs.length l2, .slice (some ⟨P2, 0, none⟩) os1.length p2, .slice none 0 0, .int .i64 0, .slice none 0 0, .slice none 0 0] 35)).heap.size := by rw [h_gG]; simp
          have o13 := Mi.hid (show _ < gG by rw [h_gG]; exact NG.K.lt)
          have o14 := Mi.hid (show _ < gG by rw [h_gG]; exact NG.L.lt)
          have o15 := Mi.hid (show _ < gG by rw [h_gG]; exact NG.P.lt)
          have hwg : gW < u11.heap.size := z_W
          have a0 := W.cell 0 rfl
          have a1 := W.cell 1 rfl
          have a2 := W.cell 2 rfl
          have a3 := W.cell 3 rfl
          have a4 := W.cell 4 rfl
          have a5 := W.cell 5 rfl
          have a6 := W.cell 6 rfl
          have a7 := W.cell 7 rfl
          have a8 := W.cell 8 rfl
          have a9 := W.cell 9 rfl
          have a10 := W.cell 10 rfl
          have a11 := W.cell 11 rfl
          have a12 := W.cell 12 rfl
          go_wp2_with fail
          clear hwg a0 a1 a2 a3 a4 a5 a6 a7 a8 a9 a10 a11 a12
          try rw [← h_gG]
          replace z_R := Nat.lt_of_lt_of_le z_R bq.size
          replace R := R.below bq
          replace BZ := BZ.trans (bq.mono BZ.size)
          replace NW := NW.below bq
          replace z_W := Nat.lt_of_lt_of_le z_W bq.size
          replace W := W.below bq
          replace x1 := x1.later bq x1.2.2.1
          replace x2 := x2.later bq x2.2.2.1
          replace x3 := x3.later bq x3.2.2.1
          replace NG := NG.below bq
          generalize u11.alloc (.cells #[.int .i64 rn, .int .i64 rf, .int .i64 rp, .int .i64 ra, .int .i64 rl, .int .i64 rm, .slice (some ⟨K2, 0, none⟩) os.length k2, .slice (some ⟨L2, 0, none⟩) bs.length l2, .slice (some ⟨P2, 0, none⟩) os1.length p2, .slice none 0 0, .int .i64 0, .slice none 0 0, .slice none 0 0] 35) = vgG at G z_G bq R BZ NW W x1 x2 x3 NG z_R z_W ⊢
          clear bq
          rw [← h_gG] at G
          clear h_gG
          refine (Nw.eqN rn rf rp ra rl rm os os1 bs _ _ _ _ _ _ _ _ _ _ _ _ _ NG.row NG.flags NG.peers NW.row NW.flags NW.peers HN.out).mono ?_
          rintro e u12 ⟨rfl, bq⟩
          replace z_R := Nat.lt_of_lt_of_le z_R bq.size
          replace R := R.below bq
          replace BZ := BZ.trans (bq.mono BZ.size)
          replace NW := NW.below bq
          replace z_W := Nat.lt_of_lt_of_le z_W bq.size
          replace W := W.below bq
          replace x1 := x1.later bq x1.2.2.1
          replace x2 := x2.later bq x2.2.2.1
          replace x3 := x3.later bq x3.2.2.1
          replace NG := NG.below bq
          replace z_G := Nat.lt_of_lt_of_le z_G bq.size
          replace G := G.below bq
          clear bq
          go_wp2_with fail
          refine (Ow.copied b os.length mb os _ ((hs.later BZ (Nat.le_refl _)).more BZ.size) q1).mono ?_
          rintro e u13 ⟨⟨t1, rfl, y1⟩, bq⟩
          replace z_R := Nat.lt_of_lt_of_le z_R bq.size
          replace R := R.below bq
          replace BZ := BZ.trans (bq.mono BZ.size)
          replace NW := NW.below bq
          replace z_W := Nat.lt_of_lt_of_le z_W bq.size
          replace W := W.below bq
          replace x1 := x1.later bq x1.2.2.1
          replace x2 := x2.later bq x2.2.2.1
          replace x3 := x3.later bq x3.2.2.1
          replace NG := NG.below bq
          replace z_G := Nat.lt_of_lt_of_le z_G bq.size
          replace G := G.below bq
          clear bq
          go_wp2_with fail
          refine (Ls.eqInt64S _ _ os.length _ _ os _ x1.row y1.row q1).mono ?_
          rintro e u14 ⟨rfl, bq⟩
          replace z_R := Nat.lt_of_lt_of_le z_R bq.size
          replace R := R.below bq
          replace BZ := BZ.trans (bq.mono BZ.size)
          replace NW := NW.below bq
          replace z_W := Nat.lt_of_lt_of_le z_W bq.size
          replace W := W.below bq
          replace x1 := x1.later bq x1.2.2.1
          replace x2 := x2.later bq x2.2.2.1
          replace x3 := x3.later bq x3.2.2.1
          replace NG := NG.below bq
          replace z_G := Nat.lt_of_lt_of_le z_G bq.size
          replace G := G.below bq
          replace y1 := y1.later bq y1.2.2.1
          clear bq
          clear y1
          go_wp2_with fail
          refine (Ow.copied b1 os1.length mb1 os1 _ ((hs1.later BZ (Nat.le_refl _)).more BZ.size) q2).mono ?_
          rintro e u15 ⟨⟨t2, rfl, y2⟩, bq⟩
          replace z_R := Nat.lt_of_lt_of_le z_R bq.size
          replace R := R.below bq
          replace BZ := BZ.trans (bq.mono BZ.size)
          replace NW := NW.below bq
          replace z_W := Nat.lt_of_lt_of_le z_W bq.size
          replace W := W.below bq
          replace x1 := x1.later bq x1.2.2.1
          replace x2 := x2.later bq x2.2.2.1
          replace x3 := x3.later bq x3.2.2.1
          replace NG := NG.below bq
          replace z_G := Nat.lt_of_lt_of_le z_G bq.size
          replace G := G.below bq
          clear bq
          go_wp2_with fail
          refine (Ls.eqInt64S _ _ os1.length _ _ os1 _ x2.row y2.row q2).mono ?_
          rintro e u16 ⟨rfl, bq⟩
          replace z_R := Nat.lt_of_lt_of_le z_R bq.size
          replace R := R.below bq
          replace BZ := BZ.trans (bq.mono BZ.size)
          replace NW := NW.below bq
          replace z_W := Nat.lt_of_lt_of_le z_W bq.size
          replace W := W.below bq
          replace x1 := x1.later bq x1.2.2.1
          replace x2 := x2.later bq x2.2.2.1
          replace x3 := x3.later bq x3.2.2.1
          replace NG := NG.below bq
          replace z_G := Nat.lt_of_lt_of_le z_G bq.size
          replace G := G.below bq
          replace y2 := y2.later bq y2.2.2.1
          clear bq
          clear y2
          go_wp2_with fail
          refine (Bo.copied a bs.length ka bs _ ((hr.later BZ (Nat.le_refl _)).more BZ.size) q3).mono ?_
          rintro e u17 ⟨⟨t3, rfl, y3⟩, bq⟩
          replace z_R := Nat.lt_of_lt_of_le z_R bq.size
          replace R := R.below bq
          replace BZ := BZ.trans (bq.mono BZ.size)
          replace NW := NW.below bq
          replace z_W := Nat.lt_of_lt_of_le z_W bq.size
          replace W := W.below bq
          replace x1 := x1.later bq x1.2.2.1
          replace x2 := x2.later bq x2.2.2.1
          replace x3 := x3.later bq x3.2.2.1
          replace NG := NG.below bq
          replace z_G := Nat.lt_of_lt_of_le z_G bq.size
          replace G := G.below bq
          clear bq
          go_wp2_with fail
          refine (Bo.eqBoolS _ _ bs.length _ _ bs _ x3.row y3.row q3).mono ?_
          rintro e u18 ⟨rfl, bq⟩
          replace z_R := Nat.lt_of_lt_of_le z_R bq.size
          replace R := R.below bq
          replace BZ := BZ.trans (bq.mono BZ.size)
          replace NW := NW.below bq
          replace z_W := Nat.lt_of_lt_of_le z_W bq.size
          replace W := W.below bq
          replace x1 := x1.later bq x1.2.2.1
          replace x2 := x2.later bq x2.2.2.1
          replace x3 := x3.later bq x3.2.2.1
          replace NG := NG.below bq
          replace z_G := Nat.lt_of_lt_of_le z_G bq.size
          replace G := G.below bq
          replace y3 := y3.later bq y3.2.2.1
          clear bq
          clear y3
          go_wp2_with fail
          refine (Ow.mark 1 _ g1 0 os.length _ os _ x1 q1 (by omega) (by omega)).mono ?_
          rintro e u19 ⟨rfl, _, gr⟩
          replace z_R := Nat.lt_of_lt_of_le z_R gr.size
          replace R := R.other gr (by have p0 := o1.out; have p1 := o2.out; have p2 := o3.out; have p3 := o4.out; have p4 := o5.out; have p5 := o6.out; have p6 := o7.out; have p7 := o8.out; have p8 := o9.out; have p9 := o10.out; have p10 := o11.out; have p11 := o12.out; have p12 := o13.out; have p13 := o14.out; have p14 := o15.out; omega)
          replace BZ := BZ.grown gr BZ.size (fun j e => by cases e; have p0 := o1.out; have p1 := o2.out; have p2 := o3.out; have p3 := o4.out; have p4 := o5.out; have p5 := o6.out; have p6 := o7.out; have p7 := o8.out; have p8 := o9.out; have p9 := o10.out; have p10 := o11.out; have p11 := o12.out; have p12 := o13.out; have p13 := o14.out; have p14 := o15.out; omega)
          replace NW := NW.grown gr (by have p0 := o1.out; have p1 := o2.out; have p2 := o3.out; have p3 := o4.out; have p4 := o5.out; have p5 := o6.out; have p6 := o7.out; have p7 := o8.out; have p8 := o9.out; have p9 := o10.out; have p10 := o11.out; have p11 := o12.out; have p12 := o13.out; have p13 := o14.out; have p14 := o15.out; omega) (by have p0 := o1.out; have p1 := o2.out; have p2 := o3.out; have p3 := o4.out; have p4 := o5.out; have p5 := o6.out; have p6 := o7.out; have p7 := o8.out; have p8 := o9.out; have p9 := o10.out; have p10 := o11.out; have p11 := o12.out; have p12 := o13.out; have p13 := o14.out; have p14 := o15.out; omega) (by have p0 := o1.out; have p1 := o2.out; have p2 := o3.out; have p3 := o4.out; have p4 := o5.out; have p5 := o6.out; have p6 := o7.out; have p7 := o8.out; have p8 := o9.out; have p9 := o10.out; have p10 := o11.out; have p11 := o12.out; have p12 := o13.out; have p13 := o14.out; have p14 := o15.out; omega)
          replace z_W := Nat.lt_of_lt_of_le z_W gr.size
          replace W := W.other gr (by have p0 := o1.out; have p1 := o2.out; have p2 := o3.out; have p3 := o4.out; have p4 := o5.out; have p5 := o6.out; have p6 := o7.out; have p7 := o8.out; have p8 := o9.out; have p9 := o10.out; have p10 := o11.out; have p11 := o12.out; have p12 := o13.out; have p13 := o14.out; have p14 := o15.out; omega)
          replace x2 := Nw.has_grown x2 gr (by have p0 := o1.out; have p1 := o2.out; have p2 := o3.out; have p3 := o4.out; have p4 := o5.out; have p5 := o6.out; have p6 := o7.out; have p7 := o8.out; have p8 := o9.out; have p9 := o10.out; have p10 := o11.out; have p11 := o12.out; have p12 := o13.out; have p13 := o14.out; have p14 := o15.out; omega)
          replace x3 := hasB_grown x3 gr (by have p0 := o1.out; have p1 := o2.out; have p2 := o3.out; have p3 := o4.out; have p4 := o5.out; have p5 := o6.out; have p6 := o7.out; have p7 := o8.out; have p8 := o9.out; have p9 := o10.out; have p10 := o11.out; have p11 := o12.out; have p12 := o13.out; have p13 := o14.out; have p14 := o15.out; omega)
          replace NG := NG.grown gr (by have p0 := o1.out; have p1 := o2.out; have p2 := o3.out; have p3 := o4.out; have p4 := o5.out; have p5 := o6.out; have p6 := o7.out; have p7 := o8.out; have p8 := o9.out; have p9 := o10.out; have p10 := o11.out; have p11 := o12.out; have p12 := o13.out; have p13 := o14.out; have p14 := o15.out; omega) (by have p0 := o1.out; have p1 := o2.out; have p2 := o3.out; have p3 := o4.out; have p4 := o5.out; have p5 := o6.out; have p6 := o7.out; have p7 := o8.out; have p8 := o9.out; have p9 := o10.out; have p10 := o11.out; have p11 := o12.out; have p12 := o13.out; have p13 := o14.out; have p14 := o15.out; omega) (by have p0 := o1.out; have p1 := o2.out; have p2 := o3.out; have p3 := o4.out; have p4 := o5.out; have p5 := o6.out; have p6 := o7.out; have p7 := o8.out; have p8 := o9.out; have p9 := o10.out; have p10 := o11.out; have p11 := o12.out; have p12 := o13.out; have p13 := o14.out; have p14 := o15.out; omega)
          replace z_G := Nat.lt_of_lt_of_le z_G gr.size
          replace G := G.other gr (by have p0 := o1.out; have p1 := o2.out; have p2 := o3.out; have p3 := o4.out; have p4 := o5.out; have p5 := o6.out; have p6 := o7.out; have p7 := o8.out; have p8 := o9.out; have p9 := o10.out; have p10 := o11.out; have p11 := o12.out; have p12 := o13.out; have p13 := o14.out; have p14 := o15.out; omega)
          clear x1 gr
          go_wp2_with fail
          refine (Ow.mark (1 + (os.length : Int)) _ g2 0 os1.length _ os1 _ x2 q2 (by omega) (by omega)).mono ?_
          rintro e u20 ⟨rfl, _, gr⟩
          replace z_R := Nat.lt_of_lt_of_le z_R gr.size
          replace R := R.other gr (by have p0 := o1.out; have p1 := o2.out; have p2 := o3.out; have p3 := o4.out; have p4 := o5.out; have p5 := o6.out; have p6 := o7.out; have p7 := o8.out; have p8 := o9.out; have p9 := o10.out; have p10 := o11.out; have p11 := o12.out; have p12 := o13.out; have p13 := o14.out; have p14 := o15.out; omega)
          replace BZ := BZ.grown gr BZ.size (fun j e => by cases e; have p0 := o1.out; have p1 := o2.out; have p2 := o3.out; have p3 := o4.out; have p4 := o5.out; have p5 := o6.out; have p6 := o7.out; have p7 := o8.out; have p8 := o9.out; have p9 := o10.out; have p10 := o11.out; have p11 := o12.out; have p12 := o13.out; have p13 := o14.out; have p14 := o15.out; omega)
          replace NW := NW.grown gr (by have p0 := o1.out; have p1 := o2.out; have p2 := o3.out; have p3 := o4.out; have p4 := o5.out; have p5 := o6.out; have p6 := o7.out; have p7 := o8.out; have p8 := o9.out; have p9 := o10.out; have p10 := o11.out; have p11 := o12.out; have p12 := o13.out; have p13 := o14.out; have p14 := o15.out; omega) (by have p0 := o1.out; have p1 := o2.out; have p2 := o3.out; have p3 := o4.out; have p4 := o5.out; have p5 := o6.out; have p6 := o7.out; have p7 := o8.out; have p8 := o9.out; have p9 := o10.out; have p10 := o11.out; have p11 := o12.out; have p12 := o13.out; have p13 := o14.out; have p14 := o15.out; omega) (by have p0 := o1.out; have p1 := o2.out; have p2 := o3.out; have p3 := o4.out; have p4 := o5.out; have p5 := o6.out; have p6 := o7.out; have p7 := o8.out; have p8 := o9.out; have p9 := o10.out; have p10 := o11.out; have p11 := o12.out; have p12 := o13.out; have p13 := o14.out; have p14 := o15.out; omega)
          replace z_W := Nat.lt_of_lt_of_le z_W gr.size
          replace W := W.other gr (by have p0 := o1.out; have p1 := o2.out; have p2 := o3.out; have p3 := o4.out; have p4 := o5.out; have p5 := o6.out; have p6 := o7.out; have p7 := o8.out; have p8 := o9.out; have p9 := o10.out; have p10 := o11.out; have p11 := o12.out; have p12 := o13.out; have p13 := o14.out; have p14 := o15.out; omega)
          replace x3 := hasB_grown x3 gr (by have p0 := o1.out; have p1 := o2.out; have p2 := o3.out; have p3 := o4.out; have p4 := o5.out; have p5 := o6.out; have p6 := o7.out; have p7 := o8.out; have p8 := o9.out; have p9 := o10.out; have p10 := o11.out; have p11 := o12.out; have p12 := o13.out; have p13 := o14.out; have p14 := o15.out; omega)
          replace NG := NG.grown gr (by have p0 := o1.out; have p1 := o2.out; have p2 := o3.out; have p3 := o4.out; have p4 := o5.out; have p5 := o6.out; have p6 := o7.out; have p7 := o8.out; have p8 := o9.out; have p9 := o10.out; have p10 := o11.out; have p11 := o12.out; have p12 := o13.out; have p13 := o14.out; have p14 := o15.out; omega) (by have p0 := o1.out; have p1 := o2.out; have p2 := o3.out; have p3 := o4.out; have p4 := o5.out; have p5 := o6.out; have p6 := o7.out; have p7 := o8.out; have p8 := o9.out; have p9 := o10.out; have p10 := o11.out; have p11 := o12.out; have p12 := o13.out; have p13 := o14.out; have p14 := o15.out; omega) (by have p0 := o1.out; have p1 := o2.out; have p2 := o3.out; have p3 := o4.out; have p4 := o5.out; have p5 := o6.out; have p6 := o7.out; have p7 := o8.out; have p8 := o9.out; have p9 := o10.out; have p10 := o11.out; have p11 := o12.out; have p12 := o13.out; have p13 := o14.out; have p14 := o15.out; omega)
          replace z_G := Nat.lt_of_lt_of_le z_G gr.size
          replace G := G.other gr (by have p0 := o1.out; have p1 := o2.out; have p2 := o3.out; have p3 := o4.out; have p4 := o5.out; have p5 := o6.out; have p6 := o7.out; have p7 := o8.out; have p8 := o9.out; have p9 := o10.out; have p10 := o11.out; have p11 := o12.out; have p12 := o13.out; have p13 := o14.out; have p14 := o15.out; omega)
          clear x2 gr
          go_wp2_with fail
          refine (Bo.mark (1 + (os.length : Int) + (os1.length : Int)) _ g3 0 bs.length _ bs _ x3 q3 (by omega) (by omega)).mono ?_
          rintro e u21 ⟨rfl, gr⟩
          replace z_R := Nat.lt_of_lt_of_le z_R gr.size
          replace R := R.other gr (by have p0 := o1.out; have p1 := o2.out; have p2 := o3.out; have p3 := o4.out; have p4 := o5.out; have p5 := o6.out; have p6 := o7.out; have p7 := o8.out; have p8 := o9.out; have p9 := o10.out; have p10 := o11.out; have p11 := o12.out; have p12 := o13.out; have p13 := o14.out; have p14 := o15.out; omega)
          replace BZ := BZ.grown gr BZ.size (fun j e => by cases e; have p0 := o1.out; have p1 := o2.out; have p2 := o3.out; have p3 := o4.out; have p4 := o5.out; have p5 := o6.out; have p6 := o7.out; have p7 := o8.out; have p8 := o9.out; have p9 := o10.out; have p10 := o11.out; have p11 := o12.out; have p12 := o13.out; have p13 := o14.out; have p14 := o15.out; omega)
          replace NW := NW.grown gr (by have p0 := o1.out; have p1 := o2.out; have p2 := o3.out; have p3 := o4.out; have p4 := o5.out; have p5 := o6.out; have p6 := o7.out; have p7 := o8.out; have p8 := o9.out; have p9 := o10.out; have p10 := o11.out; have p11 := o12.out; have p12 := o13.out; have p13 := o14.out; have p14 := o15.out; omega) (by have p0 := o1.out; have p1 := o2.out; have p2 := o3.out; have p3 := o4.out; have p4 := o5.out; have p5 := o6.out; have p6 := o7.out; have p7 := o8.out; have p8 := o9.out; have p9 := o10.out; have p10 := o11.out; have p11 := o12.out; have p12 := o13.out; have p13 := o14.out; have p14 := o15.out; omega) (by have p0 := o1.out; have p1 := o2.out; have p2 := o3.out; have p3 := o4.out; have p4 := o5.out; have p5 := o6.out; have p6 := o7.out; have p7 := o8.out; have p8 := o9.out; have p9 := o10.out; have p10 := o11.out; have p11 := o12.out; have p12 := o13.out; have p13 := o14.out; have p14 := o15.out; omega)
          replace z_W := Nat.lt_of_lt_of_le z_W gr.size
          replace W := W.other gr (by have p0 := o1.out; have p1 := o2.out; have p2 := o3.out; have p3 := o4.out; have p4 := o5.out; have p5 := o6.out; have p6 := o7.out; have p7 := o8.out; have p8 := o9.out; have p9 := o10.out; have p10 := o11.out; have p11 := o12.out; have p12 := o13.out; have p13 := o14.out; have p14 := o15.out; omega)
          replace NG := NG.grown gr (by have p0 := o1.out; have p1 := o2.out; have p2 := o3.out; have p3 := o4.out; have p4 := o5.out; have p5 := o6.out; have p6 := o7.out; have p7 := o8.out; have p8 := o9.out; have p9 := o10.out; have p10 := o11.out; have p11 := o12.out; have p12 := o13.out; have p13 := o14.out; have p14 := o15.out; omega) (by have p0 := o1.out; have p1 := o2.out; have p2 := o3.out; have p3 := o4.out; have p4 := o5.out; have p5 := o6.out; have p6 := o7.out; have p7 := o8.out; have p8 := o9.out; have p9 := o10.out; have p10 := o11.out; have p11 := o12.out; have p12 := o13.out; have p13 := o14.out; have p14 := o15.out; omega) (by have p0 := o1.out; have p1 := o2.out; have p2 := o3.out; have p3 := o4.out; have p4 := o5.out; have p5 := o6.out; have p6 := o7.out; have p7 := o8.out; have p8 := o9.out; have p9 := o10.out; have p10 := o11.out; have p11 := o12.out; have p12 := o13.out; have p13 := o14.out; have p14 := o15.out; omega)
          replace z_G := Nat.lt_of_lt_of_le z_G gr.size
          replace G := G.other gr (by have p0 := o1.out; have p1 := o2.out; have p2 := o3.out; have p3 := o4.out; have p4 := o5.out; have p5 := o6.out; have p6 := o7.out; have p7 := o8.out; have p8 := o9.out; have p9 := o10.out; have p10 := o11.out; have p11 := o12.out; have p12 := o13.out; have p13 := o14.out; have p14 := o15.out; omega)
          clear x3 gr
          have d4 : decide (1 + (os.length : Int) + (os1.length : Int) + (bs.length : Int) < 0) = false := decide_eq_false (by omega)
          have a0 := G.cell 0 rfl
          have a1 := G.cell 1 rfl
          have a2 := G.cell 2 rfl
          have a3 := G.cell 3 rfl
          have a4 := G.cell 4 rfl
          have a5 := G.cell 5 rfl
          have a6 := G.cell 6 rfl
          have a7 := G.cell 7 rfl
          have a8 := G.cell 8 rfl
          have a9 := G.cell 9 rfl
          have a10 := G.cell 10 rfl
          have a11 := G.cell 11 rfl
          have a12 := G.cell 12 rfl
          have c0 := W.cell 0 rfl
          have c1 := W.cell 1 rfl
          have c2 := W.cell 2 rfl
          have c3 := W.cell 3 rfl
          have c4 := W.cell 4 rfl
          have c5 := W.cell 5 rfl
          have c6 := W.cell 6 rfl
          have c7 := W.cell 7 rfl
          have c8 := W.cell 8 rfl
          have c9 := W.cell 9 rfl
          have c10 := W.cell 10 rfl
          have c11 := W.cell 11 rfl
          have c12 := W.cell 12 rfl
          go_wp2_with fail
          clear a0 a1 a2 a3 a4 a5 a6 a7 a8 a9 a10 a11 a12 c0 c1 c2 c3 c4 c5 c6 c7 c8 c9 c10 c11 c12
          refine (Nw.eqN rn rf rp ra rl rm os os1 bs _ _ _ _ _ _ _ _ _ _ _ _ _ NG.row NG.flags NG.peers NW.row NW.flags NW.peers HN.out).mono ?_
          rintro e u22 ⟨rfl, bq⟩
          replace z_R := Nat.lt_of_lt_of_le z_R bq.size
          replace R := R.below bq
          replace BZ := BZ.trans (bq.mono BZ.size)
          replace NW := NW.below bq
          replace z_W := Nat.lt_of_lt_of_le z_W bq.size
          replace W := W.below bq
          replace NG := NG.below bq
          replace z_G := Nat.lt_of_lt_of_le z_G bq.size
          replace G := G.below bq
          clear bq
          have HL := Nw.no_of HN.out
          have w1 : os.length ≤ 16 := by have := HL.1.1; have := HL.2.2.1; omega
          have w2 : bs.length ≤ 16 := by have := HL.2.2.2.1; omega
          have w3 : os1.length ≤ 16 := by have := HL.2.2.2.2.1; omega
          clear HL
          have a0 := G.cell 0 rfl
          have a1 := G.cell 1 rfl
          have a2 := G.cell 2 rfl
          have a3 := G.cell 3 rfl
          have a4 := G.cell 4 rfl
          have a5 := G.cell 5 rfl
          have a6 := G.cell 6 rfl
          have a7 := G.cell 7 rfl
          have a8 := G.cell 8 rfl
          have a9 := G.cell 9 rfl
          have a10 := G.cell 10 rfl
          have a11 := G.cell 11 rfl
          have a12 := G.cell 12 rfl
          go_wp2_with fail
          clear a0 a1 a2 a3 a4 a5 a6 a7 a8 a9 a10 a11 a12
          refine (Nw.markN rn rf rp ra rl rm K2 L2 P2 os.length bs.length os1.length k2 l2 p2 os (Ct.bools bs) (Ct.pcs os1) _ (hasK NG.K) NG.L.R (Ct.bools_len bs) NG.L.lt NG.P.R (Ct.pcs_len os1) (fun j hj => (Ct.pcs_at os1 j hj).2.2.2) NG.P.lt NG.n1 NG.n2 NG.n3 1 (by omega) (by omega) w1 w2 w3).mono ?_
          rintro e u23 ⟨rfl, MK, gr⟩
          replace BZ := gr.below BZ BZ.size (by have p0 := o1.out; have p1 := o2.out; have p2 := o3.out; have p3 := o4.out; have p4 := o5.out; have p5 := o6.out; have p6 := o7.out; have p7 := o8.out; have p8 := o9.out; have p9 := o10.out; have p10 := o11.out; have p11 := o12.out; have p12 := o13.out; have p13 := o14.out; have p14 := o15.out; omega) (by have p0 := o1.out; have p1 := o2.out; have p2 := o3.out; have p3 := o4.out; have p4 := o5.out; have p5 := o6.out; have p6 := o7.out; have p7 := o8.out; have p8 := o9.out; have p9 := o10.out; have p10 := o11.out; have p11 := o12.out; have p12 := o13.out; have p13 := o14.out; have p14 := o15.out; omega) (by have p0 := o1.out; have p1 := o2.out; have p2 := o3.out; have p3 := o4.out; have p4 := o5.out; have p5 := o6.out; have p6 := o7.out; have p7 := o8.out; have p8 := o9.out; have p9 := o10.out; have p10 := o11.out; have p11 := o12.out; have p12 := o13.out; have p13 := o14.out; have p14 := o15.out; omega)
          replace R := gr.room R z_R (by have p0 := o1.out; have p1 := o2.out; have p2 := o3.out; have p3 := o4.out; have p4 := o5.out; have p5 := o6.out; have p6 := o7.out; have p7 := o8.out; have p8 := o9.out; have p9 := o10.out; have p10 := o11.out; have p11 := o12.out; have p12 := o13.out; have p13 := o14.out; have p14 := o15.out; omega) (by have p0 := o1.out; have p1 := o2.out; have p2 := o3.out; have p3 := o4.out; have p4 := o5.out; have p5 := o6.out; have p6 := o7.out; have p7 := o8.out; have p8 := o9.out; have p9 := o10.out; have p10 := o11.out; have p11 := o12.out; have p12 := o13.out; have p13 := o14.out; have p14 := o15.out; omega) (by have p0 := o1.out; have p1 := o2.out; have p2 := o3.out; have p3 := o4.out; have p4 := o5.out; have p5 := o6.out; have p6 := o7.out; have p7 := o8.out; have p8 := o9.out; have p9 := o10.out; have p10 := o11.out; have p11 := o12.out; have p12 := o13.out; have p13 := o14.out; have p14 := o15.out; omega)
          replace z_R := Nat.lt_of_lt_of_le z_R gr.size
          replace W := gr.room W z_W (by have p0 := o1.out; have p1 := o2.out; have p2 := o3.out; have p3 := o4.out; have p4 := o5.out; have p5 := o6.out; have p6 := o7.out; have p7 := o8.out; have p8 := o9.out; have p9 := o10.out; have p10 := o11.out; have p11 := o12.out; have p12 := o13.out; have p13 := o14.out; have p14 := o15.out; omega) (by have p0 := o1.out; have p1 := o2.out; have p2 := o3.out; have p3 := o4.out; have p4 := o5.out; have p5 := o6.out; have p6 := o7.out; have p7 := o8.out; have p8 := o9.out; have p9 := o10.out; have p10 := o11.out; have p11 := o12.out; have p12 := o13.out; have p13 := o14.out; have p14 := o15.out; omega) (by have p0 := o1.out; have p1 := o2.out; have p2 := o3.out; have p3 := o4.out; have p4 := o5.out; have p5 := o6.out; have p6 := o7.out; have p7 := o8.out; have p8 := o9.out; have p9 := o10.out; have p10 := o11.out; have p11 := o12.out; have p12 := o13.out; have p13 := o14.out; have p14 := o15.out; omega)
          replace z_W := Nat.lt_of_lt_of_le z_W gr.size
          replace G := gr.room G z_G (by have p0 := o1.out; have p1 := o2.out; have p2 := o3.out; have p3 := o4.out; have p4 := o5.out; have p5 := o6.out; have p6 := o7.out; have p7 := o8.out; have p8 := o9.out; have p9 := o10.out; have p10 := o11.out; have p11 := o12.out; have p12 := o13.out; have p13 := o14.out; have p14 := o15.out; omega) (by have p0 := o1.out; have p1 := o2.out; have p2 := o3.out; have p3 := o4.out; have p4 := o5.out; have p5 := o6.out; have p6 := o7.out; have p7 := o8.out; have p8 := o9.out; have p9 := o10.out; have p10 := o11.out; have p11 := o12.out; have p12 := o13.out; have p13 := o14.out; have p14 := o15.out; omega) (by have p0 := o1.out; have p1 := o2.out; have p2 := o3.out; have p3 := o4.out; have p4 := o5.out; have p5 := o6.out; have p6 := o7.out; have p7 := o8.out; have p8 := o9.out; have p9 := o10.out; have p10 := o11.out; have p11 := o12.out; have p12 := o13.out; have p13 := o14.out; have p14 := o15.out; omega)
          replace z_G := Nat.lt_of_lt_of_le z_G gr.size
          replace NW := NW.gr gr (by have p0 := o1.out; have p1 := o2.out; have p2 := o3.out; have p3 := o4.out; have p4 := o5.out; have p5 := o6.out; have p6 := o7.out; have p7 := o8.out; have p8 := o9.out; have p9 := o10.out; have p10 := o11.out; have p11 := o12.out; have p12 := o13.out; have p13 := o14.out; have p14 := o15.out; omega) (by have p0 := o1.out; have p1 := o2.out; have p2 := o3.out; have p3 := o4.out; have p4 := o5.out; have p5 := o6.out; have p6 := o7.out; have p7 := o8.out; have p8 := o9.out; have p9 := o10.out; have p10 := o11.out; have p11 := o12.out; have p12 := o13.out; have p13 := o14.out; have p14 := o15.out; omega) (by have p0 := o1.out; have p1 := o2.out; have p2 := o3.out; have p3 := o4.out; have p4 := o5.out; have p5 := o6.out; have p6 := o7.out; have p7 := o8.out; have p8 := o9.out; have p9 := o10.out; have p10 := o11.out; have p11 := o12.out; have p12 := o13.out; have p13 := o14.out; have p14 := o15.out; omega) (by have p0 := o1.out; have p1 := o2.out; have p2 := o3.out; have p3 := o4.out; have p4 := o5.out; have p5 := o6.out; have p6 := o7.out; have p7 := o8.out; have p8 := o9.out; have p9 := o10.out; have p10 := o11.out; have p11 := o12.out; have p12 := o13.out; have p13 := o14.out; have p14 := o15.out; omega) (by have p0 := o1.out; have p1 := o2.out; have p2 := o3.out; have p3 := o4.out; have p4 := o5.out; have p5 := o6.out; have p6 := o7.out; have p7 := o8.out; have p8 := o9.out; have p9 := o10.out; have p10 := o11.out; have p11 := o12.out; have p12 := o13.out; have p13 := o14.out; have p14 := o15.out; omega) (by have p0 := o1.out; have p1 := o2.out; have p2 := o3.out; have p3 := o4.out; have p4 := o5.out; have p5 := o6.out; have p6 := o7.out; have p7 := o8.out; have p8 := o9.out; have p9 := o10.out; have p10 := o11.out; have p11 := o12.out; have p12 := o13.out; have p13 := o14.out; have p14 := o15.out; omega) (by have p0 := o1.out; have p1 := o2.out; have p2 := o3.out; have p3 := o4.out; have p4 := o5.out; have p5 := o6.out; have p6 := o7.out; have p7 := o8.out; have p8 := o9.out; have p9 := o10.out; have p10 := o11.out; have p11 := o12.out; have p12 := o13.out; have p13 := o14.out; have p14 := o15.out; omega) (by have p0 := o1.out; have p1 := o2.out; have p2 := o3.out; have p3 := o4.out; have p4 := o5.out; have p5 := o6.out; have p6 := o7.out; have p7 := o8.out; have p8 := o9.out; have p9 := o10.out; have p10 := o11.out; have p11 := o12.out; have p12 := o13.out; have p13 := o14.out; have p14 := o15.out; omega) (by have p0 := o1.out; have p1 := o2.out; have p2 := o3.out; have p3 := o4.out; have p4 := o5.out; have p5 := o6.out; have p6 := o7.out; have p7 := o8.out; have p8 := o9.out; have p9 := o10.out; have p10 := o11.out; have p11 := o12.out; have p12 := o13.out; have p13 := o14.out; have p14 := o15.out; omega)
          clear gr NG
          obtain ⟨M, hM⟩ : ∃ M, M = (1 : Int) + (os.length : Int) + (bs.length : Int) + 3 * (os1.length : Int) := ⟨_, rfl⟩
          have HM := Mi.hid hM
          have d5 : decide (M < 0) = false := decide_eq_false (by omega)
          have d6 : (M != M) = false := by simp
          rw [← hM]
          clear hM
          have a0 := G.cell 0 rfl
          have a1 := G.cell 1 rfl
          have a2 := G.cell 2 rfl
          have a3 := G.cell 3 rfl
          have a4 := G.cell 4 rfl
          have a5 := G.cell 5 rfl
          have a6 := G.cell 6 rfl
          have a7 := G.cell 7 rfl
          have a8 := G.cell 8 rfl
          have a9 := G.cell 9 rfl
          have a10 := G.cell 10 rfl
          have a11 := G.cell 11 rfl
          have a12 := G.cell 12 rfl
          go_wp2_with fail
          clear a0 a1 a2 a3 a4 a5 a6 a7 a8 a9 a10 a11 a12
          refine (Nw.heldN rn rf rp ra rl rm K2 L2 P2 os.length bs.length os1.length k2 l2 p2 _ 1 MK (by omega) (by omega) w1 w2 w3).mono ?_
          rintro e u24 ⟨rfl, bq⟩
          rw [← HM.out]
          replace z_R := Nat.lt_of_lt_of_le z_R bq.size
          replace R := R.below bq
          replace BZ := BZ.trans (bq.mono BZ.size)
          replace NW := NW.below bq
          replace z_W := Nat.lt_of_lt_of_le z_W bq.size
          replace W := W.below bq
          replace z_G := Nat.lt_of_lt_of_le z_G bq.size
          replace G := G.below bq
          replace MK := MK.below bq
          clear bq
          have r0 := R.cell 0 rfl
          have r1 := R.cell 1 rfl
          have r2 := R.cell 2 rfl
          have r3 := R.cell 3 rfl
          have r4 := R.cell 4 rfl
          have r5 := R.cell 5 rfl
          go_wp2_with fail
          clear r0 r1 r2 r3 r4 r5
          refine (toRuleN rn rf rp ra rl rm _).mono ?_
          rintro e u25 ⟨rfl, bq⟩
          replace z_R := Nat.lt_of_lt_of_le z_R bq.size
          replace R := R.below bq
          replace BZ := BZ.trans (bq.mono BZ.size)
          replace NW := NW.below bq
          replace z_W := Nat.lt_of_lt_of_le z_W bq.size
          replace W := W.below bq
          replace z_G := Nat.lt_of_lt_of_le z_G bq.size
          replace G := G.below bq
          replace MK := MK.below bq
          clear bq
          go_wp2_with fail
          refine (Ow.copied b os.length mb os _ ((hs.later BZ (Nat.le_refl _)).more BZ.size) q1).mono ?_
          rintro e u26 ⟨⟨gKh, rfl, cKh⟩, bq⟩
          replace z_R := Nat.lt_of_lt_of_le z_R bq.size
          replace R := R.below bq
          replace BZ := BZ.trans (bq.mono BZ.size)
          replace NW := NW.below bq
          replace z_W := Nat.lt_of_lt_of_le z_W bq.size
          replace W := W.below bq
          replace z_G := Nat.lt_of_lt_of_le z_G bq.size
          replace G := G.below bq
          replace MK := MK.below bq
          clear bq
          go_wp2_with fail
          refine (Ow.copied b1 os1.length mb1 os1 _ ((hs1.later BZ (Nat.le_refl _)).more BZ.size) q2).mono ?_
          rintro e u27 ⟨⟨gOh, rfl, cOh⟩, bq⟩
          replace z_R := Nat.lt_of_lt_of_le z_R bq.size
          replace R := R.below bq
          replace BZ := BZ.trans (bq.mono BZ.size)
          replace NW := NW.below bq
          replace z_W := Nat.lt_of_lt_of_le z_W bq.size
          replace W := W.below bq
          replace z_G := Nat.lt_of_lt_of_le z_G bq.size
          replace G := G.below bq
          replace MK := MK.below bq
          replace cKh := cKh.later bq cKh.2.2.1
          clear bq
          go_wp2_with fail
          refine (Bo.copied a bs.length ka bs _ ((hr.later BZ (Nat.le_refl _)).more BZ.size) q3).mono ?_
          rintro e u28 ⟨⟨gLh, rfl, cLh⟩, bq⟩
          replace z_R := Nat.lt_of_lt_of_le z_R bq.size
          replace R := R.below bq
          replace BZ := BZ.trans (bq.mono BZ.size)
          replace NW := NW.below bq
          replace z_W := Nat.lt_of_lt_of_le z_W bq.size
          replace W := W.below bq
          replace z_G := Nat.lt_of_lt_of_le z_G bq.size
          replace G := G.below bq
          replace MK := MK.below bq
          replace cKh := cKh.later bq cKh.2.2.1
          replace cOh := cOh.later bq cOh.2.2.1
          clear bq
          go_wp2_with fail
          refine (Nw.i_NewCourt rn rf rp ra rl rm os os1 bs _ _ _ _ _ _ _ cKh.row cOh.row cLh.row q1 q3 q2).mono ?_
          rintro e u29 ⟨hq, bq⟩
          obtain ⟨_, K3, k3, L3, l3, P3, p3, rfl, NH⟩ := hq.resolve_right (fun q => by have q1 := q.1; rw [HN.out] at q1; cases q1)
          replace z_R := Nat.lt_of_lt_of_le z_R bq.size
          replace R := R.below bq
          replace BZ := BZ.trans (bq.mono BZ.size)
          replace NW := NW.below bq
          replace z_W := Nat.lt_of_lt_of_le z_W bq.size
          replace W := W.below bq
          replace z_G := Nat.lt_of_lt_of_le z_G bq.size
          replace G := G.below bq
          replace MK := MK.below bq
          replace cKh := cKh.later bq cKh.2.2.1
          replace cOh := cOh.later bq cOh.2.2.1
          replace cLh := cLh.later bq cLh.2.2.1
          clear bq
          clear cKh cOh cLh
          have H := Rm.Room.new u29 [.int .i64 rn, .int .i64 rf, .int .i64 rp, .int .i64 ra, .int .i64 rl, .int .i64 rm, .slice (some ⟨K3, 0, none⟩) os.length k3, .slice (some ⟨L3, 0, none⟩) bs.length l3, .slice (some ⟨P3, 0, none⟩) os1.length p3, .slice none 0 0, .int .i64 0, .slice none 0 0, .slice none 0 0] 35
          have bq := (Below.refl u29.heap.size u29).alloc (Nat.le_refl _) (.cells #[.int .i64 rn, .int .i64 rf, .int .i64 rp, .int .i64 ra, .int .i64 rl, .int .i64 rm, .slice (some ⟨K3, 0, none⟩) os.length k3, .slice (some ⟨L3, 0, none⟩) bs.length l3, .slice (some ⟨P3, 0, none⟩) os1.length p3, .slice none 0 0, .int .i64 0, .slice none 0 0, .slice none 0 0] 35)
          obtain ⟨gH, h_gH⟩ : ∃ x, x = u29.heap.size := ⟨_, rfl⟩
          have z_H : gH < (u29.alloc (.cells #[.int .i64 rn, .int .i64 rf, .int .i64 rp, .int .i64 ra, .int .i64 rl, .int .i64 rm, .slice (some ⟨K3, 0, none⟩) os.length k3, .slice (some ⟨L3, 0, none⟩) bs.length l3, .slice (some ⟨P3, 0, none⟩) os1.length p3, .slice none 0 0, .int .i64 0, .slice none 0 0, .slice none 0 0] 35)).heap.size := by rw [h_gH]; simp
          have hwg : gW < u29.heap.size := z_W
          have a0 := W.cell 0 rfl
          have a1 := W.cell 1 rfl
          have a2 := W.cell 2 rfl
          have a3 := W.cell 3 rfl
          have a4 := W.cell 4 rfl
          have a5 := W.cell 5 rfl
          have a6 := W.cell 6 rfl
          have a7 := W.cell 7 rfl
          have a8 := W.cell 8 rfl
          have a9 := W.cell 9 rfl
          have a10 := W.cell 10 rfl
          have a11 := W.cell 11 rfl
          have a12 := W.cell 12 rfl
          go_wp2_with fail
          clear hwg a0 a1 a2 a3 a4 a5 a6 a7 a8 a9 a10 a11 a12
          try rw [← h_gH]
          replace z_R := Nat.lt_of_lt_of_le z_R bq.size
          replace R := R.below bq
          replace BZ := BZ.trans (bq.mono BZ.size)
          replace NW := NW.below bq
          replace z_W := Nat.lt_of_lt_of_le z_W bq.size
          replace W := W.below bq
          replace z_G := Nat.lt_of_lt_of_le z_G bq.size
          replace G := G.below bq
          replace MK := MK.below bq
          replace NH := NH.below bq
          generalize u29.alloc (.cells #[.int .i64 rn, .int .i64 rf, .int .i64 rp, .int .i64 ra, .int .i64 rl, .int .i64 rm, .slice (some ⟨K3, 0, none⟩) os.length k3, .slice (some ⟨L3, 0, none⟩) bs.length l3, .slice (some ⟨P3, 0, none⟩) os1.length p3, .slice none 0 0, .int .i64 0, .slice none 0 0, .slice none 0 0] 35) = vgH at H z_H bq R BZ NW W G MK NH z_R z_W z_G ⊢
          clear bq
          rw [← h_gH] at H
          clear h_gH
          refine (Nw.eqN rn rf rp ra rl rm os os1 bs _ _ _ _ _ _ _ _ _ _ _ _ _ NH.row NH.flags NH.peers NW.row NW.flags NW.peers HN.out).mono ?_
          rintro e u30 ⟨rfl, bq⟩
          replace z_R := Nat.lt_of_lt_of_le z_R bq.size
          replace R := R.below bq
          replace BZ := BZ.trans (bq.mono BZ.size)
          replace NW := NW.below bq
          replace z_W := Nat.lt_of_lt_of_le z_W bq.size
          replace W := W.below bq
          replace z_G := Nat.lt_of_lt_of_le z_G bq.size
          replace G := G.below bq
          replace MK := MK.below bq
          replace NH := NH.below bq
          replace z_H := Nat.lt_of_lt_of_le z_H bq.size
          replace H := H.below bq
          clear bq
          have a0 := G.cell 0 rfl
          have a1 := G.cell 1 rfl
          have a2 := G.cell 2 rfl
          have a3 := G.cell 3 rfl
          have a4 := G.cell 4 rfl
          have a5 := G.cell 5 rfl
          have a6 := G.cell 6 rfl
          have a7 := G.cell 7 rfl
          have a8 := G.cell 8 rfl
          have a9 := G.cell 9 rfl
          have a10 := G.cell 10 rfl
          have a11 := G.cell 11 rfl
          have a12 := G.cell 12 rfl
          go_wp2_with fail
          clear a0 a1 a2 a3 a4 a5 a6 a7 a8 a9 a10 a11 a12
          refine (Nw.heldN rn rf rp ra rl rm K2 L2 P2 os.length bs.length os1.length k2 l2 p2 _ 1 MK (by omega) (by omega) w1 w2 w3).mono ?_
          rintro e u31 ⟨rfl, bq⟩
          rw [← HM.out]
          replace z_R := Nat.lt_of_lt_of_le z_R bq.size
          replace R := R.below bq
          replace BZ := BZ.trans (bq.mono BZ.size)
          replace NW := NW.below bq
          replace z_W := Nat.lt_of_lt_of_le z_W bq.size
          replace W := W.below bq
          replace z_G := Nat.lt_of_lt_of_le z_G bq.size
          replace G := G.below bq
          replace MK := MK.below bq
          replace NH := NH.below bq
          replace z_H := Nat.lt_of_lt_of_le z_H bq.size
          replace H := H.below bq
          clear bq
          go_wp2
          go_ret
          exact ⟨rfl, BZ⟩
        | false =>
          have HN := Mi.hid hN
          clear hN
          have R := Rm.Room.new w [.int .i64 rn, .int .i64 rf, .int .i64 rp, .int .i64 ra, .int .i64 rl, .int .i64 rm] 46
          have BZ := (Below.refl w.heap.size w).alloc (Nat.le_refl _) (.cells #[.int .i64 rn, .int .i64 rf, .int .i64 rp, .int .i64 ra, .int .i64 rl, .int .i64 rm] 46)
          have z_R : w.heap.size < (w.alloc (.cells #[.int .i64 rn, .int .i64 rf, .int .i64 rp, .int .i64 ra, .int .i64 rl, .int .i64 rm] 46)).heap.size := by simp
          go_enter Tryz.func5, Tryz.ntmps5
          have r0 := R.cell 0 rfl
          have r1 := R.cell 1 rfl
          have r2 := R.cell 2 rfl
          have r3 := R.cell 3 rfl
          have r4 := R.cell 4 rfl
          have r5 := R.cell 5 rfl
          go_wp2_with fail
          clear r0 r1 r2 r3 r4 r5
          generalize w.alloc (.cells #[.int .i64 rn, .int .i64 rf, .int .i64 rp, .int .i64 ra, .int .i64 rl, .int .i64 rm] 46) = u1 at R BZ z_R ⊢
          refine (toRuleN rn rf rp ra rl rm _).mono ?_
          rintro e u2 ⟨rfl, bq⟩
          replace z_R := Nat.lt_of_lt_of_le z_R bq.size
          replace R := R.below bq
          replace BZ := BZ.trans (bq.mono BZ.size)
          clear bq
          go_wp2_with fail
          refine (Ow.copied b os.length mb os _ ((hs.later BZ (Nat.le_refl _)).more BZ.size) q1).mono ?_
          rintro e u3 ⟨⟨gKa, rfl, cKa⟩, bq⟩
          replace z_R := Nat.lt_of_lt_of_le z_R bq.size
          replace R := R.below bq
          replace BZ := BZ.trans (bq.mono BZ.size)
          clear bq
          go_wp2_with fail
          refine (Ow.copied b1 os1.length mb1 os1 _ ((hs1.later BZ (Nat.le_refl _)).more BZ.size) q2).mono ?_
          rintro e u4 ⟨⟨gOa, rfl, cOa⟩, bq⟩
          replace z_R := Nat.lt_of_lt_of_le z_R bq.size
          replace R := R.below bq
          replace BZ := BZ.trans (bq.mono BZ.size)
          replace cKa := cKa.later bq cKa.2.2.1
          clear bq
          go_wp2_with fail
          refine (Bo.copied a bs.length ka bs _ ((hr.later BZ (Nat.le_refl _)).more BZ.size) q3).mono ?_
          rintro e u5 ⟨⟨gLa, rfl, cLa⟩, bq⟩
          replace z_R := Nat.lt_of_lt_of_le z_R bq.size
          replace R := R.below bq
          replace BZ := BZ.trans (bq.mono BZ.size)
          replace cKa := cKa.later bq cKa.2.2.1
          replace cOa := cOa.later bq cOa.2.2.1
          clear bq
          go_wp2_with fail
          refine (Nw.s_NewCourt rn rf rp ra rl rm os os1 bs _ _ _ _ _ _ _ cKa.row cOa.row cLa.row q1 q3 q2).mono ?_
          rintro e u6 ⟨hq, bq⟩
          obtain ⟨_, rfl⟩ := hq.resolve_left (fun q => by have q1 := q.1; rw [HN.out] at q1; cases q1)
          replace z_R := Nat.lt_of_lt_of_le z_R bq.size
          replace R := R.below bq
          replace BZ := BZ.trans (bq.mono BZ.size)
          replace cKa := cKa.later bq cKa.2.2.1
          replace cOa := cOa.later bq cOa.2.2.1
          replace cLa := cLa.later bq cLa.2.2.1
          clear bq
          clear cKa cOa cLa
          have W := Rm.Room.new u6 [.int .i64 0, .int .i64 0, .int .i64 0, .int .i64 0, .int .i64 0, .int .i64 0, .slice none 0 0, .slice none 0 0, .slice none 0 0, .slice none 0 0, .int .i64 0, .slice none 0 0, .slice none 0 0] 35
          have bq := (Below.refl u6.heap.size u6).alloc (Nat.le_refl _) (.cells #[.int .i64 0, .int .i64 0, .int .i64 0, .int .i64 0, .int .i64 0, .int .i64 0, .slice none 0 0, .slice none 0 0, .slice none 0 0, .slice none 0 0, .int .i64 0, .slice none 0 0, .slice none 0 0] 35)
          obtain ⟨gW, h_gW⟩ : ∃ x, x = u6.heap.size := ⟨_, rfl⟩
          have z_W : gW < (u6.alloc (.cells #[.int .i64 0, .int .i64 0, .int .i64 0, .int .i64 0, .int .i64 0, .int .i64 0, .slice none 0 0, .slice none 0 0, .slice none 0 0, .slice none 0 0, .int .i64 0, .slice none 0 0, .slice none 0 0] 35)).heap.size := by rw [h_gW]; simp
          have o0 := Mi.hid (show w.heap.size < gW by rw [h_gW]; exact z_R)
          go_wp2_with fail
          rw [← h_gW]
          replace z_R := Nat.lt_of_lt_of_le z_R bq.size
          replace R := R.below bq
          replace BZ := BZ.trans (bq.mono BZ.size)
          generalize u6.alloc (.cells #[.int .i64 0, .int .i64 0, .int .i64 0, .int .i64 0, .int .i64 0, .int .i64 0, .slice none 0 0, .slice none 0 0, .slice none 0 0, .slice none 0 0, .int .i64 0, .slice none 0 0, .slice none 0 0] 35) = vgW at W z_W bq R BZ z_R ⊢
          clear bq
          rw [← h_gW] at W
          clear h_gW
          refine (Ow.copied b os.length mb os _ ((hs.later BZ (Nat.le_refl _)).more BZ.size) q1).mono ?_
          rintro e u7 ⟨⟨g1, rfl, x1⟩, bq⟩
          have o7 := Mi.hid (Nat.lt_of_lt_of_le z_W x1.2.1)
          replace z_R := Nat.lt_of_lt_of_le z_R bq.size
          replace R := R.below bq
          replace BZ := BZ.trans (bq.mono BZ.size)
          replace z_W := Nat.lt_of_lt_of_le z_W bq.size
          replace W := W.below bq
          clear bq
          go_wp2_with fail
          refine (Ow.copied b1 os1.length mb1 os1 _ ((hs1.later BZ (Nat.le_refl _)).more BZ.size) q2).mono ?_
          rintro e u8 ⟨⟨g2, rfl, x2⟩, bq⟩
          have o8 := Mi.hid (Nat.lt_of_lt_of_le x1.2.2.1 x2.2.1)
          replace z_R := Nat.lt_of_lt_of_le z_R bq.size
          replace R := R.below bq
          replace BZ := BZ.trans (bq.mono BZ.size)
          replace z_W := Nat.lt_of_lt_of_le z_W bq.size
          replace W := W.below bq
          replace x1 := x1.later bq x1.2.2.1
          clear bq
          go_wp2_with fail
          refine (Bo.copied a bs.length ka bs _ ((hr.later BZ (Nat.le_refl _)).more BZ.size) q3).mono ?_
          rintro e u9 ⟨⟨g3, rfl, x3⟩, bq⟩
          have o9 := Mi.hid (Nat.lt_of_lt_of_le x2.2.2.1 x3.2.1)
          replace z_R := Nat.lt_of_lt_of_le z_R bq.size
          replace R := R.below bq
          replace BZ := BZ.trans (bq.mono BZ.size)
          replace z_W := Nat.lt_of_lt_of_le z_W bq.size
          replace W := W.below bq
          replace x1 := x1.later bq x1.2.2.1
          replace x2 := x2.later bq x2.2.2.1
          clear bq
          have r0 := R.cell 0 rfl
          have r1 := R.cell 1 rfl
          have r2 := R.cell 2 rfl
          have r3 := R.cell 3 rfl
          have r4 := R.cell 4 rfl
          have r5 := R.cell 5 rfl
          go_wp2_with fail
          clear r0 r1 r2 r3 r4 r5
          refine (toRuleN rn rf rp ra rl rm _).mono ?_
          rintro e u10 ⟨rfl, bq⟩
          replace z_R := Nat.lt_of_lt_of_le z_R bq.size
          replace R := R.below bq
          replace BZ := BZ.trans (bq.mono BZ.size)
          replace z_W := Nat.lt_of_lt_of_le z_W bq.size
          replace W := W.below bq
          replace x1 := x1.later bq x1.2.2.1
          replace x2 := x2.later bq x2.2.2.1
          replace x3 := x3.later bq x3.2.2.1
          clear bq
          go_wp2_with fail
          refine (Nw.i_NewCourt rn rf rp ra rl rm os os1 bs _ _ _ _ _ _ _ x1.row x2.row x3.row q1 q3 q2).mono ?_
          rintro e u11 ⟨hq, bq⟩
          obtain ⟨_, rfl⟩ := hq.resolve_left (fun q => by have q1 := q.1; rw [HN.out] at q1; cases q1)
          replace z_R := Nat.lt_of_lt_of_le z_R bq.size
          replace R := R.below bq
          replace BZ := BZ.trans (bq.mono BZ.size)
          replace z_W := Nat.lt_of_lt_of_le z_W bq.size
          replace W := W.below bq
          replace x1 := x1.later bq x1.2.2.1
          replace x2 := x2.later bq x2.2.2.1
          replace x3 := x3.later bq x3.2.2.1
          clear bq
          have G := Rm.Room.new u11 [.int .i64 0, .int .i64 0, .int .i64 0, .int .i64 0, .int .i64 0, .int .i64 0, .slice none 0 0, .slice none 0 0, .slice none 0 0, .slice none 0 0, .int .i64 0, .slice none 0 0, .slice none 0 0] 35
          have bq := (Below.refl u11.heap.size u11).alloc (Nat.le_refl _) (.cells #[.int .i64 0, .int .i64 0, .int .i64 0, .int .i64 0, .int .i64 0, .int .i64 0, .slice none 0 0, .slice none 0 0, .slice none 0 0, .slice none 0 0, .int .i64 0, .slice none 0 0, .slice none 0 0] 35)
          obtain ⟨gG, h_gG⟩ : ∃ x, x = u11.heap.size := ⟨_, rfl⟩
          have z_G : gG < (u11.alloc (.cells #[.int .i64 0, .int .i64 0, .int .i64 0, .int .i64 0, .int .i64 0, .int .i64 0, .slice none 0 0, .slice none 0 0, .slice none 0 0, .slice none 0 0, .int .i64 0, .slice none 0 0, .slice none 0 0] 35)).heap.size := by rw [h_gG]; simp
          have o13 := Mi.hid (show g3 < gG by rw [h_gG]; exact x3.2.2.1)
          have hwg : gW < u11.heap.size := z_W
          have a0 := W.cell 0 rfl
          have a1 := W.cell 1 rfl
          have a2 := W.cell 2 rfl
          have a3 := W.cell 3 rfl
          have a4 := W.cell 4 rfl
          have a5 := W.cell 5 rfl
          have a6 := W.cell 6 rfl
          have a7 := W.cell 7 rfl
          have a8 := W.cell 8 rfl
          have a9 := W.cell 9 rfl
          have a10 := W.cell 10 rfl
          have a11 := W.cell 11 rfl
          have a12 := W.cell 12 rfl
          go_wp2_with fail
          clear hwg a0 a1 a2 a3 a4 a5 a6 a7 a8 a9 a10 a11 a12
          try rw [← h_gG]
          replace z_R := Nat.lt_of_lt_of_le z_R bq.size
          replace R := R.below bq
          replace BZ := BZ.trans (bq.mono BZ.size)
          replace z_W := Nat.lt_of_lt_of_le z_W bq.size
          replace W := W.below bq
          replace x1 := x1.later bq x1.2.2.1
          replace x2 := x2.later bq x2.2.2.1
          replace x3 := x3.later bq x3.2.2.1
          generalize u11.alloc (.cells #[.int .i64 0, .int .i64 0, .int .i64 0, .int .i64 0, .int .i64 0, .int .i64 0, .slice none 0 0, .slice none 0 0, .slice none 0 0, .slice none 0 0, .int .i64 0, .slice none 0 0, .slice none 0 0] 35) = vgG at G z_G bq R BZ W x1 x2 x3 z_R z_W ⊢
          clear bq
          rw [← h_gG] at G
          clear h_gG
          refine (Nw.eqZ _).mono ?_
          rintro e u12 ⟨rfl, bq⟩
          replace z_R := Nat.lt_of_lt_of_le z_R bq.size
          replace R := R.below bq
          replace BZ := BZ.trans (bq.mono BZ.size)
          replace z_W := Nat.lt_of_lt_of_le z_W bq.size
          replace W := W.below bq
          replace x1 := x1.later bq x1.2.2.1
          replace x2 := x2.later bq x2.2.2.1
          replace x3 := x3.later bq x3.2.2.1
          replace z_G := Nat.lt_of_lt_of_le z_G bq.size
          replace G := G.below bq
          clear bq
          go_wp2_with fail
          refine (Ow.copied b os.length mb os _ ((hs.later BZ (Nat.le_refl _)).more BZ.size) q1).mono ?_
          rintro e u13 ⟨⟨t1, rfl, y1⟩, bq⟩
          replace z_R := Nat.lt_of_lt_of_le z_R bq.size
          replace R := R.below bq
          replace BZ := BZ.trans (bq.mono BZ.size)
          replace z_W := Nat.lt_of_lt_of_le z_W bq.size
          replace W := W.below bq
          replace x1 := x1.later bq x1.2.2.1
          replace x2 := x2.later bq x2.2.2.1
          replace x3 := x3.later bq x3.2.2.1
          replace z_G := Nat.lt_of_lt_of_le z_G bq.size
          replace G := G.below bq
          clear bq
          go_wp2_with fail
          refine (Ls.eqInt64S _ _ os.length _ _ os _ x1.row y1.row q1).mono ?_
          rintro e u14 ⟨rfl, bq⟩
          replace z_R := Nat.lt_of_lt_of_le z_R bq.size
          replace R := R.below bq
          replace BZ := BZ.trans (bq.mono BZ.size)
          replace z_W := Nat.lt_of_lt_of_le z_W bq.size
          replace W := W.below bq
          replace x1 := x1.later bq x1.2.2.1
          replace x2 := x2.later bq x2.2.2.1
          replace x3 := x3.later bq x3.2.2.1
          replace z_G := Nat.lt_of_lt_of_le z_G bq.size
          replace G := G.below bq
          replace y1 := y1.later bq y1.2.2.1
          clear bq
          clear y1
          go_wp2_with fail
          refine (Ow.copied b1 os1.length mb1 os1 _ ((hs1.later BZ (Nat.le_refl _)).more BZ.size) q2).mono ?_
          rintro e u15 ⟨⟨t2, rfl, y2⟩, bq⟩
          replace z_R := Nat.lt_of_lt_of_le z_R bq.size
          replace R := R.below bq
          replace BZ := BZ.trans (bq.mono BZ.size)
          replace z_W := Nat.lt_of_lt_of_le z_W bq.size
          replace W := W.below bq
          replace x1 := x1.later bq x1.2.2.1
          replace x2 := x2.later bq x2.2.2.1
          replace x3 := x3.later bq x3.2.2.1
          replace z_G := Nat.lt_of_lt_of_le z_G bq.size
          replace G := G.below bq
          clear bq
          go_wp2_with fail
          refine (Ls.eqInt64S _ _ os1.length _ _ os1 _ x2.row y2.row q2).mono ?_
          rintro e u16 ⟨rfl, bq⟩
          replace z_R := Nat.lt_of_lt_of_le z_R bq.size
          replace R := R.below bq
          replace BZ := BZ.trans (bq.mono BZ.size)
          replace z_W := Nat.lt_of_lt_of_le z_W bq.size
          replace W := W.below bq
          replace x1 := x1.later bq x1.2.2.1
          replace x2 := x2.later bq x2.2.2.1
          replace x3 := x3.later bq x3.2.2.1
          replace z_G := Nat.lt_of_lt_of_le z_G bq.size
          replace G := G.below bq
          replace y2 := y2.later bq y2.2.2.1
          clear bq
          clear y2
          go_wp2_with fail
          refine (Bo.copied a bs.length ka bs _ ((hr.later BZ (Nat.le_refl _)).more BZ.size) q3).mono ?_
          rintro e u17 ⟨⟨t3, rfl, y3⟩, bq⟩
          replace z_R := Nat.lt_of_lt_of_le z_R bq.size
          replace R := R.below bq
          replace BZ := BZ.trans (bq.mono BZ.size)
          replace z_W := Nat.lt_of_lt_of_le z_W bq.size
          replace W := W.below bq
          replace x1 := x1.later bq x1.2.2.1
          replace x2 := x2.later bq x2.2.2.1
          replace x3 := x3.later bq x3.2.2.1
          replace z_G := Nat.lt_of_lt_of_le z_G bq.size
          replace G := G.below bq
          clear bq
          go_wp2_with fail
          refine (Bo.eqBoolS _ _ bs.length _ _ bs _ x3.row y3.row q3).mono ?_
          rintro e u18 ⟨rfl, bq⟩
          replace z_R := Nat.lt_of_lt_of_le z_R bq.size
          replace R := R.below bq
          replace BZ := BZ.trans (bq.mono BZ.size)
          replace z_W := Nat.lt_of_lt_of_le z_W bq.size
          replace W := W.below bq
          replace x1 := x1.later bq x1.2.2.1
          replace x2 := x2.later bq x2.2.2.1
          replace x3 := x3.later bq x3.2.2.1
          replace z_G := Nat.lt_of_lt_of_le z_G bq.size
          replace G := G.below bq
          replace y3 := y3.later bq y3.2.2.1
          clear bq
          clear y3
          go_wp2_with fail
          refine (Ow.mark 1 _ g1 0 os.length _ os _ x1 q1 (by omega) (by omega)).mono ?_
          rintro e u19 ⟨rfl, _, gr⟩
          replace z_R := Nat.lt_of_lt_of_le z_R gr.size
          replace R := R.other gr (by have p0 := o0.out; have p1 := o7.out; have p2 := o8.out; have p3 := o9.out; have p4 := o13.out; omega)
          replace BZ := BZ.grown gr BZ.size (fun j e => by cases e; have p0 := o0.out; have p1 := o7.out; have p2 := o8.out; have p3 := o9.out; have p4 := o13.out; omega)
          replace z_W := Nat.lt_of_lt_of_le z_W gr.size
          replace W := W.other gr (by have p0 := o0.out; have p1 := o7.out; have p2 := o8.out; have p3 := o9.out; have p4 := o13.out; omega)
          replace x2 := Nw.has_grown x2 gr (by have p0 := o0.out; have p1 := o7.out; have p2 := o8.out; have p3 := o9.out; have p4 := o13.out; omega)
          replace x3 := hasB_grown x3 gr (by have p0 := o0.out; have p1 := o7.out; have p2 := o8.out; have p3 := o9.out; have p4 := o13.out; omega)
          replace z_G := Nat.lt_of_lt_of_le z_G gr.size
          replace G := G.other gr (by have p0 := o0.out; have p1 := o7.out; have p2 := o8.out; have p3 := o9.out; have p4 := o13.out; omega)
          clear x1 gr
          go_wp2_with fail
          refine (Ow.mark (1 + (os.length : Int)) _ g2 0 os1.length _ os1 _ x2 q2 (by omega) (by omega)).mono ?_
          rintro e u20 ⟨rfl, _, gr⟩
          replace z_R := Nat.lt_of_lt_of_le z_R gr.size
          replace R := R.other gr (by have p0 := o0.out; have p1 := o7.out; have p2 := o8.out; have p3 := o9.out; have p4 := o13.out; omega)
          replace BZ := BZ.grown gr BZ.size (fun j e => by cases e; have p0 := o0.out; have p1 := o7.out; have p2 := o8.out; have p3 := o9.out; have p4 := o13.out; omega)
          replace z_W := Nat.lt_of_lt_of_le z_W gr.size
          replace W := W.other gr (by have p0 := o0.out; have p1 := o7.out; have p2 := o8.out; have p3 := o9.out; have p4 := o13.out; omega)
          replace x3 := hasB_grown x3 gr (by have p0 := o0.out; have p1 := o7.out; have p2 := o8.out; have p3 := o9.out; have p4 := o13.out; omega)
          replace z_G := Nat.lt_of_lt_of_le z_G gr.size
          replace G := G.other gr (by have p0 := o0.out; have p1 := o7.out; have p2 := o8.out; have p3 := o9.out; have p4 := o13.out; omega)
          clear x2 gr
          go_wp2_with fail
          refine (Bo.mark (1 + (os.length : Int) + (os1.length : Int)) _ g3 0 bs.length _ bs _ x3 q3 (by omega) (by omega)).mono ?_
          rintro e u21 ⟨rfl, gr⟩
          replace z_R := Nat.lt_of_lt_of_le z_R gr.size
          replace R := R.other gr (by have p0 := o0.out; have p1 := o7.out; have p2 := o8.out; have p3 := o9.out; have p4 := o13.out; omega)
          replace BZ := BZ.grown gr BZ.size (fun j e => by cases e; have p0 := o0.out; have p1 := o7.out; have p2 := o8.out; have p3 := o9.out; have p4 := o13.out; omega)
          replace z_W := Nat.lt_of_lt_of_le z_W gr.size
          replace W := W.other gr (by have p0 := o0.out; have p1 := o7.out; have p2 := o8.out; have p3 := o9.out; have p4 := o13.out; omega)
          replace z_G := Nat.lt_of_lt_of_le z_G gr.size
          replace G := G.other gr (by have p0 := o0.out; have p1 := o7.out; have p2 := o8.out; have p3 := o9.out; have p4 := o13.out; omega)
          clear x3 gr
          have d4 : decide (1 + (os.length : Int) + (os1.length : Int) + (bs.length : Int) < 0) = false := decide_eq_false (by omega)
          have a0 := G.cell 0 rfl
          have a1 := G.cell 1 rfl
          have a2 := G.cell 2 rfl
          have a3 := G.cell 3 rfl
          have a4 := G.cell 4 rfl
          have a5 := G.cell 5 rfl
          have a6 := G.cell 6 rfl
          have a7 := G.cell 7 rfl
          have a8 := G.cell 8 rfl
          have a9 := G.cell 9 rfl
          have a10 := G.cell 10 rfl
          have a11 := G.cell 11 rfl
          have a12 := G.cell 12 rfl
          have c0 := W.cell 0 rfl
          have c1 := W.cell 1 rfl
          have c2 := W.cell 2 rfl
          have c3 := W.cell 3 rfl
          have c4 := W.cell 4 rfl
          have c5 := W.cell 5 rfl
          have c6 := W.cell 6 rfl
          have c7 := W.cell 7 rfl
          have c8 := W.cell 8 rfl
          have c9 := W.cell 9 rfl
          have c10 := W.cell 10 rfl
          have c11 := W.cell 11 rfl
          have c12 := W.cell 12 rfl
          go_wp2_with fail
          clear a0 a1 a2 a3 a4 a5 a6 a7 a8 a9 a10 a11 a12 c0 c1 c2 c3 c4 c5 c6 c7 c8 c9 c10 c11 c12
          refine (Nw.eqZ _).mono ?_
          rintro e u22 ⟨rfl, bq⟩
          replace z_R := Nat.lt_of_lt_of_le z_R bq.size
          replace R := R.below bq
          replace BZ := BZ.trans (bq.mono BZ.size)
          replace z_W := Nat.lt_of_lt_of_le z_W bq.size
          replace W := W.below bq
          replace z_G := Nat.lt_of_lt_of_le z_G bq.size
          replace G := G.below bq
          clear bq
          have a0 := G.cell 0 rfl
          have a1 := G.cell 1 rfl
          have a2 := G.cell 2 rfl
          have a3 := G.cell 3 rfl
          have a4 := G.cell 4 rfl
          have a5 := G.cell 5 rfl
          have a6 := G.cell 6 rfl
          have a7 := G.cell 7 rfl
          have a8 := G.cell 8 rfl
          have a9 := G.cell 9 rfl
          have a10 := G.cell 10 rfl
          have a11 := G.cell 11 rfl
          have a12 := G.cell 12 rfl
          go_wp2_with fail
          clear a0 a1 a2 a3 a4 a5 a6 a7 a8 a9 a10 a11 a12
          refine (Nw.markZ 1 (by omega) _).mono ?_
          rintro e u23 ⟨rfl, bq⟩
          replace z_R := Nat.lt_of_lt_of_le z_R bq.size
          replace R := R.below bq
          replace BZ := BZ.trans (bq.mono BZ.size)
          replace z_W := Nat.lt_of_lt_of_le z_W bq.size
          replace W := W.below bq
          replace z_G := Nat.lt_of_lt_of_le z_G bq.size
          replace G := G.below bq
          clear bq
          have a0 := G.cell 0 rfl
          have a1 := G.cell 1 rfl
          have a2 := G.cell 2 rfl
          have a3 := G.cell 3 rfl
          have a4 := G.cell 4 rfl
          have a5 := G.cell 5 rfl
          have a6 := G.cell 6 rfl
          have a7 := G.cell 7 rfl
          have a8 := G.cell 8 rfl
          have a9 := G.cell 9 rfl
          have a10 := G.cell 10 rfl
          have a11 := G.cell 11 rfl
          have a12 := G.cell 12 rfl
          go_wp2_with fail
          clear a0 a1 a2 a3 a4 a5 a6 a7 a8 a9 a10 a11 a12
          refine (Nw.heldZ 1 (by omega) _).mono ?_
          rintro e u24 ⟨rfl, bq⟩
          replace z_R := Nat.lt_of_lt_of_le z_R bq.size
          replace R := R.below bq
          replace BZ := BZ.trans (bq.mono BZ.size)
          replace z_W := Nat.lt_of_lt_of_le z_W bq.size
          replace W := W.below bq
          replace z_G := Nat.lt_of_lt_of_le z_G bq.size
          replace G := G.below bq
          clear bq
          have r0 := R.cell 0 rfl
          have r1 := R.cell 1 rfl
          have r2 := R.cell 2 rfl
          have r3 := R.cell 3 rfl
          have r4 := R.cell 4 rfl
          have r5 := R.cell 5 rfl
          go_wp2_with fail
          clear r0 r1 r2 r3 r4 r5
          refine (toRuleN rn rf rp ra rl rm _).mono ?_
          rintro e u25 ⟨rfl, bq⟩
          replace z_R := Nat.lt_of_lt_of_le z_R bq.size
          replace R := R.below bq
          replace BZ := BZ.trans (bq.mono BZ.size)
          replace z_W := Nat.lt_of_lt_of_le z_W bq.size
          replace W := W.below bq
          replace z_G := Nat.lt_of_lt_of_le z_G bq.size
          replace G := G.below bq
          clear bq
          go_wp2_with fail
          refine (Ow.copied b os.length mb os _ ((hs.later BZ (Nat.le_refl _)).more BZ.size) q1).mono ?_
          rintro e u26 ⟨⟨gKh, rfl, cKh⟩, bq⟩
          replace z_R := Nat.lt_of_lt_of_le z_R bq.size
          replace R := R.below bq
          replace BZ := BZ.trans (bq.mono BZ.size)
          replace z_W := Nat.lt_of_lt_of_le z_W bq.size
          replace W := W.below bq
          replace z_G := Nat.lt_of_lt_of_le z_G bq.size
          replace G := G.below bq
          clear bq
          go_wp2_with fail
          refine (Ow.copied b1 os1.length mb1 os1 _ ((hs1.later BZ (Nat.le_refl _)).more BZ.size) q2).mono ?_
          rintro e u27 ⟨⟨gOh, rfl, cOh⟩, bq⟩
          replace z_R := Nat.lt_of_lt_of_le z_R bq.size
          replace R := R.below bq
          replace BZ := BZ.trans (bq.mono BZ.size)
          replace z_W := Nat.lt_of_lt_of_le z_W bq.size
          replace W := W.below bq
          replace z_G := Nat.lt_of_lt_of_le z_G bq.size
          replace G := G.below bq
          replace cKh := cKh.later bq cKh.2.2.1
          clear bq
          go_wp2_with fail
          refine (Bo.copied a bs.length ka bs _ ((hr.later BZ (Nat.le_refl _)).more BZ.size) q3).mono ?_
          rintro e u28 ⟨⟨gLh, rfl, cLh⟩, bq⟩
          replace z_R := Nat.lt_of_lt_of_le z_R bq.size
          replace R := R.below bq
          replace BZ := BZ.trans (bq.mono BZ.size)
          replace z_W := Nat.lt_of_lt_of_le z_W bq.size
          replace W := W.below bq
          replace z_G := Nat.lt_of_lt_of_le z_G bq.size
          replace G := G.below bq
          replace cKh := cKh.later bq cKh.2.2.1
          replace cOh := cOh.later bq cOh.2.2.1
          clear bq
          go_wp2_with fail
          refine (Nw.i_NewCourt rn rf rp ra rl rm os os1 bs _ _ _ _ _ _ _ cKh.row cOh.row cLh.row q1 q3 q2).mono ?_
          rintro e u29 ⟨hq, bq⟩
          obtain ⟨_, rfl⟩ := hq.resolve_left (fun q => by have q1 := q.1; rw [HN.out] at q1; cases q1)
          replace z_R := Nat.lt_of_lt_of_le z_R bq.size
          replace R := R.below bq
          replace BZ := BZ.trans (bq.mono BZ.size)
          replace z_W := Nat.lt_of_lt_of_le z_W bq.size
          replace W := W.below bq
          replace z_G := Nat.lt_of_lt_of_le z_G bq.size
          replace G := G.below bq
          replace cKh := cKh.later bq cKh.2.2.1
          replace cOh := cOh.later bq cOh.2.2.1
          replace cLh := cLh.later bq cLh.2.2.1
          clear bq
          clear cKh cOh cLh
          have H := Rm.Room.new u29 [.int .i64 0, .int .i64 0, .int .i64 0, .int .i64 0, .int .i64 0, .int .i64 0, .slice none 0 0, .slice none 0 0, .slice none 0 0, .slice none 0 0, .int .i64 0, .slice none 0 0, .slice none 0 0] 35
          have bq := (Below.refl u29.heap.size u29).alloc (Nat.le_refl _) (.cells #[.int .i64 0, .int .i64 0, .int .i64 0, .int .i64 0, .int .i64 0, .int .i64 0, .slice none 0 0, .slice none 0 0, .slice none 0 0, .slice none 0 0, .int .i64 0, .slice none 0 0, .slice none 0 0] 35)
          obtain ⟨gH, h_gH⟩ : ∃ x, x = u29.heap.size := ⟨_, rfl⟩
          have z_H : gH < (u29.alloc (.cells #[.int .i64 0, .int .i64 0, .int .i64 0, .int .i64 0, .int .i64 0, .int .i64 0, .slice none 0 0, .slice none 0 0, .slice none 0 0, .slice none 0 0, .int .i64 0, .slice none 0 0, .slice none 0 0] 35)).heap.size := by rw [h_gH]; simp
          have hwg : gW < u29.heap.size := z_W
          have a0 := W.cell 0 rfl
          have a1 := W.cell 1 rfl
          have a2 := W.cell 2 rfl
          have a3 := W.cell 3 rfl
          have a4 := W.cell 4 rfl
          have a5 := W.cell 5 rfl
          have a6 := W.cell 6 rfl
          have a7 := W.cell 7 rfl
          have a8 := W.cell 8 rfl
          have a9 := W.cell 9 rfl
          have a10 := W.cell 10 rfl
          have a11 := W.cell 11 rfl
          have a12 := W.cell 12 rfl
          go_wp2_with fail
          clear hwg a0 a1 a2 a3 a4 a5 a6 a7 a8 a9 a10 a11 a12
          try rw [← h_gH]
          replace z_R := Nat.lt_of_lt_of_le z_R bq.size
          replace R := R.below bq
          replace BZ := BZ.trans (bq.mono BZ.size)
          replace z_W := Nat.lt_of_lt_of_le z_W bq.size
          replace W := W.below bq
          replace z_G := Nat.lt_of_lt_of_le z_G bq.size
          replace G := G.below bq
          generalize u29.alloc (.cells #[.int .i64 0, .int .i64 0, .int .i64 0, .int .i64 0, .int .i64 0, .int .i64 0, .slice none 0 0, .slice none 0 0, .slice none 0 0, .slice none 0 0, .int .i64 0, .slice none 0 0, .slice none 0 0] 35) = vgH at H z_H bq R BZ W G z_R z_W z_G ⊢
          clear bq
          rw [← h_gH] at H
          clear h_gH
          refine (Nw.eqZ _).mono ?_
          rintro e u30 ⟨rfl, bq⟩
          replace z_R := Nat.lt_of_lt_of_le z_R bq.size
          replace R := R.below bq
          replace BZ := BZ.trans (bq.mono BZ.size)
          replace z_W := Nat.lt_of_lt_of_le z_W bq.size
          replace W := W.below bq
          replace z_G := Nat.lt_of_lt_of_le z_G bq.size
          replace G := G.below bq
          replace z_H := Nat.lt_of_lt_of_le z_H bq.size
          replace H := H.below bq
          clear bq
          have a0 := G.cell 0 rfl
          have a1 := G.cell 1 rfl
          have a2 := G.cell 2 rfl
          have a3 := G.cell 3 rfl
          have a4 := G.cell 4 rfl
          have a5 := G.cell 5 rfl
          have a6 := G.cell 6 rfl
          have a7 := G.cell 7 rfl
          have a8 := G.cell 8 rfl
          have a9 := G.cell 9 rfl
          have a10 := G.cell 10 rfl
          have a11 := G.cell 11 rfl
          have a12 := G.cell 12 rfl
          go_wp2_with fail
          clear a0 a1 a2 a3 a4 a5 a6 a7 a8 a9 a10 a11 a12
          refine (Nw.heldZ 1 (by omega) _).mono ?_
          rintro e u31 ⟨rfl, bq⟩
          replace z_R := Nat.lt_of_lt_of_le z_R bq.size
          replace R := R.below bq
          replace BZ := BZ.trans (bq.mono BZ.size)
          replace z_W := Nat.lt_of_lt_of_le z_W bq.size
          replace W := W.below bq
          replace z_G := Nat.lt_of_lt_of_le z_G bq.size
          replace G := G.below bq
          replace z_H := Nat.lt_of_lt_of_le z_H bq.size
          replace H := H.below bq
          clear bq
          go_wp2
          go_ret
          exact ⟨rfl, BZ⟩

/-! The row. -/
set_option maxRecDepth 100000 in
theorem lifted (os : Os) (started : os.Started) (H : Type) (enc : TypeId × Value → H) :
    ReturnsInHanded {} Tryz.checked os 5 .any (Rows.fnExactNewCourtSpec.pre6 enc Tryz.prog Tryz.f5 Rows.fnExactNewCourtRow.domain false) (Rows.fnExactNewCourtSpec.post enc Tryz.prog Tryz.f5 false true false false) := by
  refine returnsInHanded_of_change (C := Tryz.checked) own started (by kernel_rfl) Tryz.func5
    (ChangeSpec.witness6 (enc := enc) (C := Tryz.checked) false ⟨#[], #[.agg #[.int .i64 0, .int .i64 0, .int .i64 0, .int .i64 0, .int .i64 0, .int .i64 0], .slice none 0 0, .slice none 0 0, .slice none 0 0], []⟩ 8 (by kernel_rfl) (by kernel_rfl) (by kernel_rfl) (by kernel_rfl)) ?_
  intro W base args ds gs before hval0 hW hcnd _
  have hval : ∀ (j : Nat) t v, Tryz.f5.params[j]? = some t → args[j]? = some v → Value.okWide Tryz.prog W .any base t v := hval0
  have hW' := hW
  obtain ⟨p, q, hA0, hV, rfl, hfz, hnd⟩ := hW
  have hA : DataW.TrodAll enc Tryz.prog W 0 (fun _ => true) true Tryz.f5.params.toList args.toList ds p := hA0
  rw [Tryz.params5] at hA hval
  obtain ⟨v0, vs0, d0, ds0, p0, q0, hargs, rfl, rfl, h0, r0⟩ := trodAll_cons hA
  obtain ⟨v1, vs1, d1, ds1, p1, q1, rfl, rfl, rfl, h1, r1⟩ := trodAll_cons r0
  obtain ⟨v2, vs2, d2, ds2, p2, q2, rfl, rfl, rfl, h2, r2⟩ := trodAll_cons r1
  obtain ⟨v3, vs3, d3, ds3, p3, q3, rfl, rfl, rfl, h3, r3⟩ := trodAll_cons r2
  obtain ⟨rfl, rfl, rfl⟩ := trodAll_nil r3
  obtain rfl : args = #[v0, v1, v2, v3] := by cases args; simp_all
  obtain ⟨rfl, rfl⟩ := trodVars_none hV
  have k0' := h0
  have lt0' : ∀ x ∈ p0, x.block < W.heap.size := by obtain ⟨m, hm⟩ := k0'; exact DataW.trod_lt m _ _ _ hm
  have rd0 := Rd.Reads.of h0
  obtain ⟨cs0, rfl, _⟩ := okWide_struct Tryz.underlying46 (hval 0 46 v0 rfl rfl)
  obtain ⟨rn, rf, rp, ra, rl, rm, rfl⟩ := Rd.rule rd0
  have k1' := h1
  have lt1' : ∀ x ∈ p1, x.block < W.heap.size := by obtain ⟨m, hm⟩ := k1'; exact DataW.trod_lt m _ _ _ hm
  have rd1 := Rd.Reads.of h1
  obtain ⟨b, m, mb, rfl⟩ := okWide_slice Tryz.underlying26 (hval 1 26 v1 rfl rfl)
  obtain ⟨b_1, m_1, mb_1, os, e1, hs, lm, _⟩ := rd1.ints Tryz.underlying26 Tryz.underlying2 Rd.cells_int
  simp [Value.cells] at e1
  obtain ⟨rfl, rfl, rfl⟩ := e1
  have k2' := h2
  have lt2' : ∀ x ∈ p2, x.block < W.heap.size := by obtain ⟨m, hm⟩ := k2'; exact DataW.trod_lt m _ _ _ hm
  have rd2 := Rd.Reads.of h2
  obtain ⟨b1, m1, mb1, rfl⟩ := okWide_slice Tryz.underlying26 (hval 2 26 v2 rfl rfl)
  obtain ⟨b_2, m_2, mb_2, os1, e2, hs1, lm1, _⟩ := rd2.ints Tryz.underlying26 Tryz.underlying2 Rd.cells_int
  simp [Value.cells] at e2
  obtain ⟨rfl, rfl, rfl⟩ := e2
  have k3' := h3
  have lt3' : ∀ x ∈ p3, x.block < W.heap.size := by obtain ⟨m, hm⟩ := k3'; exact DataW.trod_lt m _ _ _ hm
  have rd3 := Rd.Reads.of h3
  obtain ⟨a, k, ka, rfl⟩ := okWide_slice Tryz.underlying27 (hval 3 27 v3 rfl rfl)
  obtain ⟨b_3, m_3, mb_3, bs, e3, hr, lk⟩ := rd3.bools Tryz.underlying27 Tryz.underlying4 Rd.cells_bool
  simp [Value.cells] at e3
  obtain ⟨rfl, rfl, rfl⟩ := e3
  clear hA0 hval0
  refine (walk rn rf rp ra rl rm b m mb os b1 m1 mb1 os1 a k ka bs W hs lm hs1 lm1 hr lk).mono fun e W' ⟨he, bel⟩ => ?_
  subst he
  exact ⟨_, rfl, _, _, _, [], _, [], hW', trodAll_mk1 (shut_bool Tryz.underlying4 _), (trodAll_cons_mk (Below.trod laidOut (by kernel_rfl) (of_decide_eq_true (by kernel_rfl)) k0' bel lt0') (trodAll_cons_mk (Below.trod laidOut (by kernel_rfl) (of_decide_eq_true (by kernel_rfl)) k1' bel lt1') (trodAll_cons_mk (Below.trod laidOut (by kernel_rfl) (of_decide_eq_true (by kernel_rfl)) k2' bel lt2') (trodAll_cons_mk (Below.trod laidOut (by kernel_rfl) (of_decide_eq_true (by kernel_rfl)) k3' bel lt3') trodAll_mk0)))), rfl, bel.frame _, fun h => by cases h⟩

theorem over : Rows.fnExactNewCourtRow.holds Tryz.pinned (OpenSpec.ofChange Rows.fnExactNewCourtSpec) :=
  OpenClaim.holds_of_wide 5 Tryz.f5 rfl rfl rfl rfl rfl rfl rfl ⟨rfl, rfl, rfl, rfl, rfl⟩ rfl rfl rfl rfl rfl (by kernel_rfl) Tryz.func5 (by kernel_rfl)
    (of_decide_eq_true (by kernel_rfl)) (by unfold Func.isWrapper; first | (rw [if_pos (by decide +kernel)]; kernel_rfl) | (rw [if_neg (by decide +kernel)]; exact ⟨rfl, rfl⟩))
    (fun os started H enc _ => lifted os started H enc)

end Go.Proofs.YtimakfokgcnklaaGreat.fnExactNewCourt

namespace Go.Proofs.YtimakfokgcnklaaGreat
/-- The given statement. -/
theorem fnExactNewCourt_holds : Rows.FnExactNewCourtSaid := fnExactNewCourt.over
#print axioms fnExactNewCourt_holds
end Go.Proofs.YtimakfokgcnklaaGreat
