/-
  Corrected of impl and of spec by one answer; the laws' copy of a clock, and whether two are alike.
-/
import Derived.Test.YtcgcmceobmpdiaaCk4
namespace Go.Proofs.Ytcgcmceobmpdiaa.Ck
open Go.ChangeShapes Go.WideShapes Go.ChangeAt Go.RowKit
open Sp (IN OK LK span retb reti)
open Ad (Tm)
open Rm (Room)
set_option linter.unusedVariables false
set_option linter.unusedSimpArgs false

/-- A clock can be put right; the clock that is there then. -/
def CB (h v o s a y : Int) : Bool := FR h v o s a && decide (-1000000000000000 ≤ y ∧ y ≤ 1000000000000000) && CK a (RV h v o s a) (OV h v o s a + y) s
def CH (h v o s a y : Int) : Int := if CK h v o s = true then (if CB h v o s a y = true then a else h) else 0
def CV (h v o s a y : Int) : Int := if CK h v o s = true then (if CB h v o s a y = true then RV h v o s a else v) else 0
def CO (h v o s a y : Int) : Int := if CK h v o s = true then (if CB h v o s a y = true then OV h v o s a + y else o) else 0
theorem c_none {h v o s a y : Int} (q : CK h v o s = false) : CB h v o s a y = false ∧ CH h v o s a y = 0 ∧ CV h v o s a y = 0 ∧ CO h v o s a y = 0 := by
  have e : ¬ CK h v o s = true := by rw [q]; simp
  refine ⟨?_, by unfold CH; rw [if_neg e], by unfold CV; rw [if_neg e], by unfold CO; rw [if_neg e]⟩
  unfold CB
  rw [fr_no1 q]
  rfl
theorem c_no {h v o s a y : Int} (q : CK h v o s = true) (r : CB h v o s a y = false) : CH h v o s a y = h ∧ CV h v o s a y = v ∧ CO h v o s a y = o := by
  have e : ¬ CB h v o s a y = true := by rw [r]; simp
  exact ⟨by unfold CH; rw [if_pos q, if_neg e], by unfold CV; rw [if_pos q, if_neg e], by unfold CO; rw [if_pos q, if_neg e]⟩
theorem c_yes {h v o s a y : Int} (q : CK h v o s = true) (r : CB h v o s a y = true) : CH h v o s a y = a ∧ CV h v o s a y = RV h v o s a ∧ CO h v o s a y = OV h v o s a + y :=
  ⟨by unfold CH; rw [if_pos q, if_pos r], by unfold CV; rw [if_pos q, if_pos r], by unfold CO; rw [if_pos q, if_pos r]⟩
theorem cb_1 {h v o s a y : Int} (q : FR h v o s a = false) : CB h v o s a y = false := by unfold CB; rw [q]; rfl
theorem cb_2 {h v o s a y : Int} (q : ¬ (-1000000000000000 ≤ y ∧ y ≤ 1000000000000000)) : CB h v o s a y = false := by unfold CB; rw [decide_eq_false q]; simp
theorem cb_3 {h v o s a y : Int} (q : FR h v o s a = true) (r : -1000000000000000 ≤ y ∧ y ≤ 1000000000000000) : CB h v o s a y = CK a (RV h v o s a) (OV h v o s a + y) s := by unfold CB; rw [q, decide_eq_true r]; rfl

set_option maxHeartbeats 8000000 in
theorem i_Corrected (h v o s a y : Int) (w : World) :
    Calls Try.prog 22 #[clk h v o, .int .i64 s, .int .i64 a, .int .i64 y] w fun e w' => e = .returned (.tuple #[clk (CH h v o s a y) (CV h v o s a y) (CO h v o s a y), .bool (CB h v o s a y)]) ∧ Below w.heap.size w w' := by
  have R : Room ((w.alloc (.cells #[.int .i64 h, .int .i64 v, .int .i64 o] 29)).alloc (.cells #[.int .i64 0, .int .i64 0, .int .i64 0] 29)) w.heap.size (c3 h v o) := (Room.new w (c3 h v o) 29).alloc _
  have Q : Room ((w.alloc (.cells #[.int .i64 h, .int .i64 v, .int .i64 o] 29)).alloc (.cells #[.int .i64 0, .int .i64 0, .int .i64 0] 29)) (w.heap.size + 1) (c3 0 0 0) := Room.at _ (c3 0 0 0) 29 _ (by simp)
  have B1 : Below w.heap.size w ((w.alloc (.cells #[.int .i64 h, .int .i64 v, .int .i64 o] 29)).alloc (.cells #[.int .i64 0, .int .i64 0, .int .i64 0] 29)) := ((Below.refl w.heap.size w).alloc (Nat.le_refl _) _).alloc (by simp) _
  cases hq : CK h v o s with
  | false =>
    obtain ⟨e1, e2, e3, e4⟩ := c_none (a := a) (y := y) hq
    rw [e1, e2, e3, e4]
    clear e1 e2 e3 e4
    go_enter Try.func22, Try.ntmps22
    go_wp2_with fail
    refine (i_ck w.heap.size h v o s _ R).mono ?_
    rintro e w2 ⟨rfl, b2⟩
    rw [hq]
    replace R := R.below b2
    replace Q := Q.below b2
    replace B1 := B1.trans (b2.mono B1.size)
    have X := over3 Q (.int .i64 0) (.int .i64 0) (.int .i64 0)
    have BX := below3 B1 (g := w.heap.size + 1) (by omega) (.int .i64 0) (.int .i64 0) (.int .i64 0)
    have q0 := Q.cell 0 rfl
    have q1 := Q.cell 1 rfl
    have q2 := Q.cell 2 rfl
    have g0 := Q.froz 0 rfl
    have g1 := Q.froz 1 rfl
    have g2 := Q.froz 2 rfl
    go_wp2_with fail
    refine bodyPost_ret (v := .tuple #[clk 0 0 0, .bool false]) (ret3 Try.results22 rfl rfl X) rfl ⟨rfl, BX⟩
  | true =>
    cases q : FR h v o s a with
    | false =>
      obtain ⟨e2, e3, e4⟩ := c_no hq (cb_1 (y := y) q)
      rw [cb_1 (y := y) q, e2, e3, e4]
      clear e2 e3 e4
      go_enter Try.func22, Try.ntmps22
      go_wp2_with fail
      refine (i_ck w.heap.size h v o s _ R).mono ?_
      rintro e w2 ⟨rfl, b2⟩
      rw [hq]
      replace R := R.below b2
      replace Q := Q.below b2
      replace B1 := B1.trans (b2.mono B1.size)
      go_wp2_with fail
      refine (i_from_no w.heap.size h v o s a _ R q).mono ?_
      rintro e w3 ⟨rfl, b3⟩
      replace R := R.below b3
      replace Q := Q.below b3
      replace B1 := B1.trans (b3.mono B1.size)
      have c0 := R.cell 0 rfl
      have c1 := R.cell 1 rfl
      have c2 := R.cell 2 rfl
      have X := over3 Q (.int .i64 h) (.int .i64 v) (.int .i64 o)
      have BX := below3 B1 (g := w.heap.size + 1) (by omega) (.int .i64 h) (.int .i64 v) (.int .i64 o)
      have q0 := Q.cell 0 rfl
      have q1 := Q.cell 1 rfl
      have q2 := Q.cell 2 rfl
      have g0 := Q.froz 0 rfl
      have g1 := Q.froz 1 rfl
      have g2 := Q.froz 2 rfl
      go_wp2_with fail
      refine bodyPost_ret (v := .tuple #[clk h v o, .bool false]) (ret3 Try.results22 rfl rfl X) rfl ⟨rfl, BX⟩
    | true =>
      obtain ⟨_, r1, r2⟩ := fr_of q
      obtain ⟨h1, h2, h3, h4⟩ := ck_of hq
      have hr := rest_bd (s := s) (e := a - h) h3 (by omega) h4.1
      rw [← ov_yes q] at hr
      have EV : Hid (v + (a - h) + PD o s (a - h) = RV h v o s a) := (rv_yes q).symm
      have EO : Hid (o - PD o s (a - h) = OV h v o s a) := (ov_yes q).symm
      by_cases hy : -1000000000000000 ≤ y ∧ y ≤ 1000000000000000
      · have hcb := cb_3 q hy
        obtain ⟨y1, y2⟩ := hy
        cases q2 : CK a (RV h v o s a) (OV h v o s a + y) s with
        | false =>
          rw [q2] at hcb
          obtain ⟨e2, e3, e4⟩ := c_no hq (hcb)
          rw [hcb, e2, e3, e4]
          clear e2 e3 e4
          go_enter Try.func22, Try.ntmps22
          go_wp2_with fail
          refine (i_ck w.heap.size h v o s _ R).mono ?_
          rintro e w2 ⟨rfl, b2⟩
          rw [hq]
          replace R := R.below b2
          replace Q := Q.below b2
          replace B1 := B1.trans (b2.mono B1.size)
          have zq := Q.lt (by simp)
          go_wp2_with fail
          refine (i_from_yes w.heap.size h v o s a _ R q).mono ?_
          rintro e w3 ⟨⟨g, rfl, G, hg⟩, b3⟩
          (try simp at hg)
          have lg := G.lt (by simp)
          replace R := R.below b3
          replace Q := Q.below b3
          replace B1 := B1.trans (b3.mono B1.size)
          rw [EV.out, EO.out] at G
          go_wp2_with fail
          refine (Sp.i_InSpan (-1000000000000000) 1000000000000000 y _).mono ?_
          rintro e w4 ⟨rfl, b4⟩
          rw [in_yes (by omega) (by omega) ⟨y1, y2⟩]
          replace R := R.below b4
          replace Q := Q.below b4
          replace B1 := B1.trans (b4.mono B1.size)
          replace G := G.below b4
          have x2 := G.cell 2 rfl
          have f2 := G.froz 2 rfl
          have wr : IntKind.i64.wrap (OV h v o s a + y) = OV h v o s a + y := by rw [IntKind.wrap_i64]; omega
          have HX : Hid (w.heap.size + 1 ≠ g ∧ w.heap.size ≠ g ∧ w.heap.size ≤ g ∧ g ≠ w.heap.size ∧ g ≠ w.heap.size + 1) := ⟨by omega, by omega, by omega, by omega, by omega⟩
          have G5 := G.set 2 (.int .i64 (OV h v o s a + y))
          have R5 := R.setOther (q := g) (by omega) 2 (.int .i64 (OV h v o s a + y))
          have Q5 := Q.setOther (q := g) (by omega) 2 (.int .i64 (OV h v o s a + y))
          have B5 := B1.setCell (p := ⟨g, 2, none⟩) (by simp; omega) (.int .i64 (OV h v o s a + y))
          clear R Q B1 hr HX
          go_wp2_with fail
          clear x2 f2 G
          refine (i_ck g a (RV h v o s a) (OV h v o s a + y) s _ G5).mono ?_
          rintro e w5 ⟨rfl, b5⟩
          rw [q2]
          have G := G5.below b5
          have R := R5.below b5
          have Q := Q5.below b5
          have B1 := B5.trans (b5.mono B5.size)
          clear G5 R5 Q5 B5 b5
          have c0 := R.cell 0 rfl
          have c1 := R.cell 1 rfl
          have c2 := R.cell 2 rfl
          have X := over3 Q (.int .i64 h) (.int .i64 v) (.int .i64 o)
          have BX := below3 B1 (g := w.heap.size + 1) (by omega) (.int .i64 h) (.int .i64 v) (.int .i64 o)
          have q0 := Q.cell 0 rfl
          have q1 := Q.cell 1 rfl
          have q2 := Q.cell 2 rfl
          have g0 := Q.froz 0 rfl
          have g1 := Q.froz 1 rfl
          have g2 := Q.froz 2 rfl
          go_wp2_with fail
          refine bodyPost_ret (v := .tuple #[clk h v o, .bool false]) (ret3 Try.results22 rfl rfl X) rfl ⟨rfl, BX⟩
        | true =>
          rw [q2] at hcb
          obtain ⟨e2, e3, e4⟩ := c_yes hq hcb
          rw [hcb, e2, e3, e4]
          clear e2 e3 e4
          go_enter Try.func22, Try.ntmps22
          go_wp2_with fail
          refine (i_ck w.heap.size h v o s _ R).mono ?_
          rintro e w2 ⟨rfl, b2⟩
          rw [hq]
          replace R := R.below b2
          replace Q := Q.below b2
          replace B1 := B1.trans (b2.mono B1.size)
          have zq := Q.lt (by simp)
          go_wp2_with fail
          refine (i_from_yes w.heap.size h v o s a _ R q).mono ?_
          rintro e w3 ⟨⟨g, rfl, G, hg⟩, b3⟩
          (try simp at hg)
          have lg := G.lt (by simp)
          replace R := R.below b3
          replace Q := Q.below b3
          replace B1 := B1.trans (b3.mono B1.size)
          rw [EV.out, EO.out] at G
          go_wp2_with fail
          refine (Sp.i_InSpan (-1000000000000000) 1000000000000000 y _).mono ?_
          rintro e w4 ⟨rfl, b4⟩
          rw [in_yes (by omega) (by omega) ⟨y1, y2⟩]
          replace R := R.below b4
          replace Q := Q.below b4
          replace B1 := B1.trans (b4.mono B1.size)
          replace G := G.below b4
          have x2 := G.cell 2 rfl
          have f2 := G.froz 2 rfl
          have wr : IntKind.i64.wrap (OV h v o s a + y) = OV h v o s a + y := by rw [IntKind.wrap_i64]; omega
          have HX : Hid (w.heap.size + 1 ≠ g ∧ w.heap.size ≠ g ∧ w.heap.size ≤ g ∧ g ≠ w.heap.size ∧ g ≠ w.heap.size + 1) := ⟨by omega, by omega, by omega, by omega, by omega⟩
          have G5 := G.set 2 (.int .i64 (OV h v o s a + y))
          have R5 := R.setOther (q := g) (by omega) 2 (.int .i64 (OV h v o s a + y))
          have Q5 := Q.setOther (q := g) (by omega) 2 (.int .i64 (OV h v o s a + y))
          have B5 := B1.setCell (p := ⟨g, 2, none⟩) (by simp; omega) (.int .i64 (OV h v o s a + y))
          clear R Q B1 hr HX
          go_wp2_with fail
          clear x2 f2 G
          refine (i_ck g a (RV h v o s a) (OV h v o s a + y) s _ G5).mono ?_
          rintro e w5 ⟨rfl, b5⟩
          rw [q2]
          have G := G5.below b5
          have R := R5.below b5
          have Q := Q5.below b5
          have B1 := B5.trans (b5.mono B5.size)
          clear G5 R5 Q5 B5 b5
          have c0 := G.cell 0 rfl
          have c1 := G.cell 1 rfl
          have c2 := G.cell 2 rfl
          have X := over3 Q (.int .i64 a) (.int .i64 (RV h v o s a)) (.int .i64 (OV h v o s a + y))
          have BX := below3 B1 (g := w.heap.size + 1) (by omega) (.int .i64 a) (.int .i64 (RV h v o s a)) (.int .i64 (OV h v o s a + y))
          have q0 := Q.cell 0 rfl
          have q1 := Q.cell 1 rfl
          have q2 := Q.cell 2 rfl
          have g0 := Q.froz 0 rfl
          have g1 := Q.froz 1 rfl
          have g2 := Q.froz 2 rfl
          go_wp2_with fail
          refine bodyPost_ret (v := .tuple #[clk a (RV h v o s a) (OV h v o s a + y), .bool true]) (ret3 Try.results22 rfl rfl X) rfl ⟨rfl, BX⟩
      · have HY : Hid (¬ (-1000000000000000 ≤ y ∧ y ≤ 1000000000000000)) := hy
        clear hy
        obtain ⟨e2, e3, e4⟩ := c_no hq (cb_2 HY.out)
        rw [cb_2 HY.out, e2, e3, e4]
        clear e2 e3 e4
        go_enter Try.func22, Try.ntmps22
        go_wp2_with fail
        refine (i_ck w.heap.size h v o s _ R).mono ?_
        rintro e w2 ⟨rfl, b2⟩
        rw [hq]
        replace R := R.below b2
        replace Q := Q.below b2
        replace B1 := B1.trans (b2.mono B1.size)
        have zq := Q.lt (by simp)
        go_wp2_with fail
        refine (i_from_yes w.heap.size h v o s a _ R q).mono ?_
        rintro e w3 ⟨⟨g, rfl, G, hg⟩, b3⟩
        (try simp at hg)
        have lg := G.lt (by simp)
        replace R := R.below b3
        replace Q := Q.below b3
        replace B1 := B1.trans (b3.mono B1.size)
        rw [EV.out, EO.out] at G
        go_wp2_with fail
        refine (Sp.i_InSpan (-1000000000000000) 1000000000000000 y _).mono ?_
        rintro e w4 ⟨rfl, b4⟩
        rw [in_no HY.out]
        replace R := R.below b4
        replace Q := Q.below b4
        replace B1 := B1.trans (b4.mono B1.size)
        replace G := G.below b4
        have c0 := R.cell 0 rfl
        have c1 := R.cell 1 rfl
        have c2 := R.cell 2 rfl
        have X := over3 Q (.int .i64 h) (.int .i64 v) (.int .i64 o)
        have BX := below3 B1 (g := w.heap.size + 1) (by omega) (.int .i64 h) (.int .i64 v) (.int .i64 o)
        have q0 := Q.cell 0 rfl
        have q1 := Q.cell 1 rfl
        have q2 := Q.cell 2 rfl
        have g0 := Q.froz 0 rfl
        have g1 := Q.froz 1 rfl
        have g2 := Q.froz 2 rfl
        go_wp2_with fail
        refine bodyPost_ret (v := .tuple #[clk h v o, .bool false]) (ret3 Try.results22 rfl rfl X) rfl ⟨rfl, BX⟩

set_option maxHeartbeats 8000000 in
theorem s_Corrected (h v o s a y : Int) (w : World) :
    Calls Try.prog 23 #[clk h v o, .int .i64 s, .int .i64 a, .int .i64 y] w fun e w' => e = .returned (.tuple #[clk (CH h v o s a y) (CV h v o s a y) (CO h v o s a y), .bool (CB h v o s a y)]) ∧ Below w.heap.size w w' := by
  have R : Room ((w.alloc (.cells #[.int .i64 h, .int .i64 v, .int .i64 o] 29)).alloc (.cells #[.int .i64 0, .int .i64 0, .int .i64 0] 29)) w.heap.size (c3 h v o) := (Room.new w (c3 h v o) 29).alloc _
  have Q : Room ((w.alloc (.cells #[.int .i64 h, .int .i64 v, .int .i64 o] 29)).alloc (.cells #[.int .i64 0, .int .i64 0, .int .i64 0] 29)) (w.heap.size + 1) (c3 0 0 0) := Room.at _ (c3 0 0 0) 29 _ (by simp)
  have B1 : Below w.heap.size w ((w.alloc (.cells #[.int .i64 h, .int .i64 v, .int .i64 o] 29)).alloc (.cells #[.int .i64 0, .int .i64 0, .int .i64 0] 29)) := ((Below.refl w.heap.size w).alloc (Nat.le_refl _) _).alloc (by simp) _
  cases hq : CK h v o s with
  | false =>
    obtain ⟨e1, e2, e3, e4⟩ := c_none (a := a) (y := y) hq
    rw [e1, e2, e3, e4]
    clear e1 e2 e3 e4
    go_enter Try.func23, Try.ntmps23
    have c0 := R.cell 0 rfl
    have c1 := R.cell 1 rfl
    have c2 := R.cell 2 rfl
    go_wp2_with fail
    refine (s_ClockOk h v o s _).mono ?_
    rintro e w2 ⟨rfl, b2⟩
    rw [hq]
    replace R := R.below b2
    replace Q := Q.below b2
    replace B1 := B1.trans (b2.mono B1.size)
    clear c0 c1 c2
    have X := over3 Q (.int .i64 0) (.int .i64 0) (.int .i64 0)
    have BX := below3 B1 (g := w.heap.size + 1) (by omega) (.int .i64 0) (.int .i64 0) (.int .i64 0)
    have q0 := Q.cell 0 rfl
    have q1 := Q.cell 1 rfl
    have q2 := Q.cell 2 rfl
    have g0 := Q.froz 0 rfl
    have g1 := Q.froz 1 rfl
    have g2 := Q.froz 2 rfl
    go_wp2_with fail
    refine bodyPost_ret (v := .tuple #[clk 0 0 0, .bool false]) (ret3 Try.results23 rfl rfl X) rfl ⟨rfl, BX⟩
  | true =>
    cases q : FR h v o s a with
    | false =>
      obtain ⟨e2, e3, e4⟩ := c_no hq (cb_1 (y := y) q)
      rw [cb_1 (y := y) q, e2, e3, e4]
      clear e2 e3 e4
      go_enter Try.func23, Try.ntmps23
      have c0 := R.cell 0 rfl
      have c1 := R.cell 1 rfl
      have c2 := R.cell 2 rfl
      go_wp2_with fail
      refine (s_ClockOk h v o s _).mono ?_
      rintro e w2 ⟨rfl, b2⟩
      rw [hq]
      replace R := R.below b2
      replace Q := Q.below b2
      replace B1 := B1.trans (b2.mono B1.size)
      clear c0 c1 c2
      have c0 := R.cell 0 rfl
      have c1 := R.cell 1 rfl
      have c2 := R.cell 2 rfl
      go_wp2_with fail
      refine (s_ReadAt h v o s a _).mono ?_
      rintro e w3 ⟨rfl, b3⟩
      replace R := R.below b3
      replace Q := Q.below b3
      replace B1 := B1.trans (b3.mono B1.size)
      clear c0 c1 c2
      have c0 := R.cell 0 rfl
      have c1 := R.cell 1 rfl
      have c2 := R.cell 2 rfl
      go_wp2_with fail
      refine (s_OwedAt h v o s a _).mono ?_
      rintro e w4 ⟨rfl, b4⟩
      rw [q]
      replace R := R.below b4
      replace Q := Q.below b4
      replace B1 := B1.trans (b4.mono B1.size)
      clear c0 c1 c2
      have c0 := R.cell 0 rfl
      have c1 := R.cell 1 rfl
      have c2 := R.cell 2 rfl
      have X := over3 Q (.int .i64 h) (.int .i64 v) (.int .i64 o)
      have BX := below3 B1 (g := w.heap.size + 1) (by omega) (.int .i64 h) (.int .i64 v) (.int .i64 o)
      have q0 := Q.cell 0 rfl
      have q1 := Q.cell 1 rfl
      have q2 := Q.cell 2 rfl
      have g0 := Q.froz 0 rfl
      have g1 := Q.froz 1 rfl
      have g2 := Q.froz 2 rfl
      go_wp2_with fail
      refine bodyPost_ret (v := .tuple #[clk h v o, .bool false]) (ret3 Try.results23 rfl rfl X) rfl ⟨rfl, BX⟩
    | true =>
      obtain ⟨_, r1, r2⟩ := fr_of q
      obtain ⟨h1, h2, h3, h4⟩ := ck_of hq
      have hr := rest_bd (s := s) (e := a - h) h3 (by omega) h4.1
      rw [← ov_yes q] at hr
      by_cases hy : -1000000000000000 ≤ y ∧ y ≤ 1000000000000000
      · have hcb := cb_3 q hy
        obtain ⟨y1, y2⟩ := hy
        cases q2 : CK a (RV h v o s a) (OV h v o s a + y) s with
        | false =>
          rw [q2] at hcb
          obtain ⟨e2, e3, e4⟩ := c_no hq (hcb)
          rw [hcb, e2, e3, e4]
          clear e2 e3 e4
          go_enter Try.func23, Try.ntmps23
          have c0 := R.cell 0 rfl
          have c1 := R.cell 1 rfl
          have c2 := R.cell 2 rfl
          go_wp2_with fail
          refine (s_ClockOk h v o s _).mono ?_
          rintro e w2 ⟨rfl, b2⟩
          rw [hq]
          replace R := R.below b2
          replace Q := Q.below b2
          replace B1 := B1.trans (b2.mono B1.size)
          clear c0 c1 c2
          have c0 := R.cell 0 rfl
          have c1 := R.cell 1 rfl
          have c2 := R.cell 2 rfl
          go_wp2_with fail
          refine (s_ReadAt h v o s a _).mono ?_
          rintro e w3 ⟨rfl, b3⟩
          replace R := R.below b3
          replace Q := Q.below b3
          replace B1 := B1.trans (b3.mono B1.size)
          clear c0 c1 c2
          have c0 := R.cell 0 rfl
          have c1 := R.cell 1 rfl
          have c2 := R.cell 2 rfl
          go_wp2_with fail
          refine (s_OwedAt h v o s a _).mono ?_
          rintro e w4 ⟨rfl, b4⟩
          rw [q]
          replace R := R.below b4
          replace Q := Q.below b4
          replace B1 := B1.trans (b4.mono B1.size)
          clear c0 c1 c2
          go_wp2_with fail
          refine (s_off y _).mono ?_
          rintro e w4 ⟨rfl, rfl⟩
          rw [lk_yes ⟨y1, y2⟩]
          have wr : IntKind.i64.wrap (OV h v o s a + y) = OV h v o s a + y := by rw [IntKind.wrap_i64]; omega
          have b5 : Below w4.heap.size w4 (w4.alloc (.cells #[.int .i64 a, .int .i64 (RV h v o s a), .int .i64 (OV h v o s a + y)] 29)) := (Below.refl _ w4).alloc (Nat.le_refl _) _
          have G := Room.new w4 [.int .i64 a, .int .i64 (RV h v o s a), .int .i64 (OV h v o s a + y)] 29
          replace R := R.below b5
          replace Q := Q.below b5
          replace B1 := B1.trans (b5.mono B1.size)
          clear b5 hr
          go_wp2_with fail
          refine (s_ClockOk a (RV h v o s a) (OV h v o s a + y) s _).mono ?_
          rintro e w5 ⟨rfl, b6⟩
          rw [q2]
          replace G := G.below b6
          replace R := R.below b6
          replace Q := Q.below b6
          replace B1 := B1.trans (b6.mono B1.size)
          have c0 := R.cell 0 rfl
          have c1 := R.cell 1 rfl
          have c2 := R.cell 2 rfl
          have X := over3 Q (.int .i64 h) (.int .i64 v) (.int .i64 o)
          have BX := below3 B1 (g := w.heap.size + 1) (by omega) (.int .i64 h) (.int .i64 v) (.int .i64 o)
          have q0 := Q.cell 0 rfl
          have q1 := Q.cell 1 rfl
          have q2 := Q.cell 2 rfl
          have g0 := Q.froz 0 rfl
          have g1 := Q.froz 1 rfl
          have g2 := Q.froz 2 rfl
          go_wp2_with fail
          refine bodyPost_ret (v := .tuple #[clk h v o, .bool false]) (ret3 Try.results23 rfl rfl X) rfl ⟨rfl, BX⟩
        | true =>
          rw [q2] at hcb
          obtain ⟨e2, e3, e4⟩ := c_yes hq hcb
          rw [hcb, e2, e3, e4]
          clear e2 e3 e4
          go_enter Try.func23, Try.ntmps23
          have c0 := R.cell 0 rfl
          have c1 := R.cell 1 rfl
          have c2 := R.cell 2 rfl
          go_wp2_with fail
          refine (s_ClockOk h v o s _).mono ?_
          rintro e w2 ⟨rfl, b2⟩
          rw [hq]
          replace R := R.below b2
          replace Q := Q.below b2
          replace B1 := B1.trans (b2.mono B1.size)
          clear c0 c1 c2
          have c0 := R.cell 0 rfl
          have c1 := R.cell 1 rfl
          have c2 := R.cell 2 rfl
          go_wp2_with fail
          refine (s_ReadAt h v o s a _).mono ?_
          rintro e w3 ⟨rfl, b3⟩
          replace R := R.below b3
          replace Q := Q.below b3
          replace B1 := B1.trans (b3.mono B1.size)
          clear c0 c1 c2
          have c0 := R.cell 0 rfl
          have c1 := R.cell 1 rfl
          have c2 := R.cell 2 rfl
          go_wp2_with fail
          refine (s_OwedAt h v o s a _).mono ?_
          rintro e w4 ⟨rfl, b4⟩
          rw [q]
          replace R := R.below b4
          replace Q := Q.below b4
          replace B1 := B1.trans (b4.mono B1.size)
          clear c0 c1 c2
          go_wp2_with fail
          refine (s_off y _).mono ?_
          rintro e w4 ⟨rfl, rfl⟩
          rw [lk_yes ⟨y1, y2⟩]
          have wr : IntKind.i64.wrap (OV h v o s a + y) = OV h v o s a + y := by rw [IntKind.wrap_i64]; omega
          have b5 : Below w4.heap.size w4 (w4.alloc (.cells #[.int .i64 a, .int .i64 (RV h v o s a), .int .i64 (OV h v o s a + y)] 29)) := (Below.refl _ w4).alloc (Nat.le_refl _) _
          have G := Room.new w4 [.int .i64 a, .int .i64 (RV h v o s a), .int .i64 (OV h v o s a + y)] 29
          replace R := R.below b5
          replace Q := Q.below b5
          replace B1 := B1.trans (b5.mono B1.size)
          clear b5 hr
          go_wp2_with fail
          refine (s_ClockOk a (RV h v o s a) (OV h v o s a + y) s _).mono ?_
          rintro e w5 ⟨rfl, b6⟩
          rw [q2]
          replace G := G.below b6
          replace R := R.below b6
          replace Q := Q.below b6
          replace B1 := B1.trans (b6.mono B1.size)
          have c0 := G.cell 0 rfl
          have c1 := G.cell 1 rfl
          have c2 := G.cell 2 rfl
          have X := over3 Q (.int .i64 a) (.int .i64 (RV h v o s a)) (.int .i64 (OV h v o s a + y))
          have BX := below3 B1 (g := w.heap.size + 1) (by omega) (.int .i64 a) (.int .i64 (RV h v o s a)) (.int .i64 (OV h v o s a + y))
          have q0 := Q.cell 0 rfl
          have q1 := Q.cell 1 rfl
          have q2 := Q.cell 2 rfl
          have g0 := Q.froz 0 rfl
          have g1 := Q.froz 1 rfl
          have g2 := Q.froz 2 rfl
          go_wp2_with fail
          refine bodyPost_ret (v := .tuple #[clk a (RV h v o s a) (OV h v o s a + y), .bool true]) (ret3 Try.results23 rfl rfl X) rfl ⟨rfl, BX⟩
      · have HY : Hid (¬ (-1000000000000000 ≤ y ∧ y ≤ 1000000000000000)) := hy
        clear hy
        obtain ⟨e2, e3, e4⟩ := c_no hq (cb_2 HY.out)
        rw [cb_2 HY.out, e2, e3, e4]
        clear e2 e3 e4
        go_enter Try.func23, Try.ntmps23
        have c0 := R.cell 0 rfl
        have c1 := R.cell 1 rfl
        have c2 := R.cell 2 rfl
        go_wp2_with fail
        refine (s_ClockOk h v o s _).mono ?_
        rintro e w2 ⟨rfl, b2⟩
        rw [hq]
        replace R := R.below b2
        replace Q := Q.below b2
        replace B1 := B1.trans (b2.mono B1.size)
        clear c0 c1 c2
        have c0 := R.cell 0 rfl
        have c1 := R.cell 1 rfl
        have c2 := R.cell 2 rfl
        go_wp2_with fail
        refine (s_ReadAt h v o s a _).mono ?_
        rintro e w3 ⟨rfl, b3⟩
        replace R := R.below b3
        replace Q := Q.below b3
        replace B1 := B1.trans (b3.mono B1.size)
        clear c0 c1 c2
        have c0 := R.cell 0 rfl
        have c1 := R.cell 1 rfl
        have c2 := R.cell 2 rfl
        go_wp2_with fail
        refine (s_OwedAt h v o s a _).mono ?_
        rintro e w4 ⟨rfl, b4⟩
        rw [q]
        replace R := R.below b4
        replace Q := Q.below b4
        replace B1 := B1.trans (b4.mono B1.size)
        clear c0 c1 c2
        go_wp2_with fail
        refine (s_off y _).mono ?_
        rintro e w4 ⟨rfl, rfl⟩
        rw [lk_no HY.out]
        have c0 := R.cell 0 rfl
        have c1 := R.cell 1 rfl
        have c2 := R.cell 2 rfl
        have X := over3 Q (.int .i64 h) (.int .i64 v) (.int .i64 o)
        have BX := below3 B1 (g := w.heap.size + 1) (by omega) (.int .i64 h) (.int .i64 v) (.int .i64 o)
        have q0 := Q.cell 0 rfl
        have q1 := Q.cell 1 rfl
        have q2 := Q.cell 2 rfl
        have g0 := Q.froz 0 rfl
        have g1 := Q.froz 1 rfl
        have g2 := Q.froz 2 rfl
        go_wp2_with fail
        refine bodyPost_ret (v := .tuple #[clk h v o, .bool false]) (ret3 Try.results23 rfl rfl X) rfl ⟨rfl, BX⟩

theorem toClock (h v o : Int) (w : World) :
    Calls Try.prog 26 #[clk h v o] w fun e w' => e = .returned (clk h v o) ∧ Below w.heap.size w w' := by
  go_enter Try.func26, Try.ntmps26
  go_wp2
  refine bodyPost_ret (v := clk h v o) (by simp [results, Try.results26, go_sem]) rfl ?_
  exact ⟨rfl, by (repeat (first | exact Below.refl _ _ | refine Below.setCell ?_ (by simp <;> omega) _ | refine Below.alloc ?_ (by simp <;> omega) _))⟩

theorem eqClock (h v o : Int) (w : World) :
    Calls Try.prog 28 #[clk h v o, clk h v o] w fun e w' => e = .returned (.bool true) ∧ Below w.heap.size w w' := by
  go_enter Try.func28, Try.ntmps28
  go_wp2
  go_ret
  exact ⟨rfl, by (repeat (first | exact Below.refl _ _ | refine Below.setCell ?_ (by simp <;> omega) _ | refine Below.alloc ?_ (by simp <;> omega) _))⟩

end Go.Proofs.Ytcgcmceobmpdiaa.Ck
