/-
  The draws of the fourth chapter: a config, right or any: each returns, and writes nothing that was there ahead of it but its cursor. · A config drawn, right or not (spec.l4DrawAny, spec.DrawCodeOf): each returns, and writes nothing that was there ahead of it but its cursor. · Who lies, drawn (spec.l5DrawLies): at most as many as may; and what a step of a cursor leaves as it is. · A right world drawn (spec.l5Draw): as many kinds and offs as nodes, in new memory; nothing that was there is written but the cursor. · A world drawn, right or not (spec.l5DrawAny): its offs are new memory; nothing that was there is written but the cursor.
-/
import Derived.Test.YtloicicgcdfgnaaGreatDrawAll
import Derived.Deep.CutRange
import Derived.Deep.DeepCutAuto
import Derived.Test.YtloicicgcdfgnaaGreatTk
import Derived.Test.YtloicicgcdfgnaaGreatWdAll
import Derived.Test.YtloicicgcdfgnaaGreatOffs
import Derived.Deep.Cut
namespace Go.Proofs.YtloicicgcdfgnaaGreat.Dr
open Go.ChangeShapes Go.WideShapes Go.ChangeAt Go.RowKit
open Cf (cfg CP CR AM N1 L1 R1 P1)
set_option linter.unusedVariables false
set_option linter.unusedSimpArgs false

set_option maxHeartbeats 8000000 in
theorem l4Draw (w0 : World) (B p : Nat) (a : Option Addr) (len cap : Nat) (w : World) (st : St w0 B p a len cap w) :
    Calls Tryz.prog 114 #[.pointer (some ⟨p, 0, none⟩)] w fun e w' => (∃ n l d r q s : Int, e = .returned (cfg n l d r q s) ∧ Hid (CP n l d r q s = 0)) ∧ St w0 B p a len cap w' := by
  have hp := st.lt
  have hB := st.le
  have h0 := st.step.size
  have stA := st.obj (.cells zeros.toArray 28)
  have hR0 := Room.new w zeros 28
  go_enter Tryz.func114, Tryz.ntmps114
  go_wp2_with fail
  refine (l1Below' w0 B p a len cap 3 (by omega) (by omega) _ stA).mono ?_
  rintro e w1 ⟨⟨f, rfl, f0, f1⟩, st1, s1⟩
  have z1 := s1.size
  (try simp at z1)
  have hR1 := hR0.step s1 (by omega)
  go_wp2_with fail
  refine (l1Below' w0 B p a len cap 3 (by omega) (by omega) _ st1).mono ?_
  rintro e w2 ⟨⟨x, rfl, x0, x1⟩, st2, s2⟩
  have z2 := s2.size
  (try simp at z2)
  have hR2 := hR1.step s2 (by omega)
  go_wp2_with fail
  refine (l1Below' w0 B p a len cap 10 (by omega) (by omega) _ st2).mono ?_
  rintro e w3 ⟨⟨d, rfl, d0, d1⟩, st3, s3⟩
  have z3 := s3.size
  (try simp at z3)
  have hR3 := hR2.step s3 (by omega)
  go_wp2_with fail
  refine (l1Below' w0 B p a len cap 10 (by omega) (by omega) _ st3).mono ?_
  rintro e w4 ⟨⟨r, rfl, r0, r1⟩, st4, s4⟩
  have z4 := s4.size
  (try simp at z4)
  have hR4 := hR3.step s4 (by omega)
  go_wp2_with fail
  refine (l1Below' w0 B p a len cap 9 (by omega) (by omega) _ st4).mono ?_
  rintro e w5 ⟨⟨v, rfl, v0, v1⟩, st5, s5⟩
  have z5 := s5.size
  (try simp at z5)
  have hR5 := hR4.step s5 (by omega)
  have hx5 := st5.lt
  have stX := st5.obj (.cells (nums (3 * f + 1 + x) f d r 0 (2 + v)).toArray 28)
  have hX0 := Room.new w5 (nums (3 * f + 1 + x) f d r 0 (2 + v)) 28
  have hR6 := hR5.alloc (.cells (nums (3 * f + 1 + x) f d r 0 (2 + v)).toArray 28)
  clear st1 st2 st3 st4 stA hR1 hR2 hR3 hR4 hR0 s1 s2 s3 s4 s5
  go_wp2_with fail
  refine (l1Once' w0 B p a len cap 12 (by omega) (by omega) _ stX).mono ?_
  rintro e w6 ⟨⟨t, rfl⟩, st6, s6⟩
  have z6 := s6.size
  (try simp at z6)
  have hR7 := hR6.step s6 (by omega)
  have hX1 := hX0.step s6 (by omega)
  have y0 := hX1.cell 0 rfl
  have y1 := hX1.cell 1 rfl
  have y2 := hX1.cell 2 rfl
  have y3 := hX1.cell 3 rfl
  have y4 := hX1.cell 4 rfl
  have y5 := hX1.cell 5 rfl
  have g0 := hX1.froz 0 rfl
  have g1 := hX1.froz 1 rfl
  have g2 := hX1.froz 2 rfl
  have g3 := hX1.froz 3 rfl
  have g4 := hX1.froz 4 rfl
  have g5 := hX1.froz 5 rfl
  go_upto_if 23 with fail
  go_cut [4] (fun p4 wc => p4 = .pointer (some ⟨w5.heap.size, 0, none⟩) ∧ w5.heap.size < wc.heap.size ∧ ∃ n l : Int, (1 ≤ n ∧ n ≤ 16 ∧ 0 ≤ l ∧ 3 * l + 1 ≤ n) ∧ Hid (St w0 B p a len cap wc ∧ Room wc w5.heap.size (nums n l d r 0 (2 + v)) ∧ Room wc w.heap.size zeros))
  case first =>
    cases t with
    | true =>
      have st7 := (st6.setNew (q := w5.heap.size) 0 (by omega) (by omega) (by omega) (.int .i64 16)).setNew (q := w5.heap.size) 1 (by omega) (by omega) (by omega) (.int .i64 5)
      have hX2 := (hX1.set 0 (.int .i64 16)).set 1 (.int .i64 5)
      have hR8 := (hR7.setOther (q := w5.heap.size) (by omega) 0 (.int .i64 16)).setOther (q := w5.heap.size) (by omega) 1 (.int .i64 5)
      go_wp2_with fail
      go_meet
      case rel => exact ⟨rfl, by simp [World.setCell]; omega, 16, 5, by omega, st7, hX2, hR8⟩
    | false =>
      go_wp2_with fail
      go_meet
      case rel => exact ⟨rfl, by omega, _, _, by omega, st6, hX1, hR7⟩
  case rest =>
    obtain ⟨rfl, zc, n, l, ⟨n1, n2, l1, l2⟩, H⟩ := hcut
    obtain ⟨st7, hX2, hR8⟩ := H.out
    clear H st6 hX1 hR7 hX0 hR6 stX st5 hR5 s6 y0 g0 y1 g1 y2 g2 y3 g3 y4 g4 y5 g5
    go_wp2_with fail
    refine (l1Once' w0 B p a len cap 12 (by omega) (by omega) _ st7).mono ?_
    rintro e w8 ⟨⟨t, rfl⟩, st8, s8⟩
    have z8 := s8.size
    (try simp at z8)
    have hR9 := hR8.step s8 (by omega)
    have hX3 := hX2.step s8 (by omega)
    have y0 := hX3.cell 0 rfl
    have y1 := hX3.cell 1 rfl
    have y2 := hX3.cell 2 rfl
    have y3 := hX3.cell 3 rfl
    have y4 := hX3.cell 4 rfl
    have y5 := hX3.cell 5 rfl
    have g0 := hX3.froz 0 rfl
    have g1 := hX3.froz 1 rfl
    have g2 := hX3.froz 2 rfl
    have g3 := hX3.froz 3 rfl
    have g4 := hX3.froz 4 rfl
    have g5 := hX3.froz 5 rfl
    go_upto_if 27 with fail
    go_cut [4] (fun p4 wd => p4 = .pointer (some ⟨w5.heap.size, 0, none⟩) ∧ w5.heap.size < wd.heap.size ∧ ∃ d s : Int, (0 ≤ d ∧ d ≤ 1000000 ∧ 2 ≤ s ∧ s ≤ 100000) ∧ Hid (St w0 B p a len cap wd ∧ Room wd w5.heap.size (nums n l d r 0 s) ∧ Room wd w.heap.size zeros))
    case first =>
      cases t with
      | true =>
        have st9 := (st8.setNew (q := w5.heap.size) 2 (by omega) (by omega) (by omega) (.int .i64 1000000)).setNew (q := w5.heap.size) 5 (by omega) (by omega) (by omega) (.int .i64 100000)
        have hX4 := (hX3.set 2 (.int .i64 1000000)).set 5 (.int .i64 100000)
        have hRA := (hR9.setOther (q := w5.heap.size) (by omega) 2 (.int .i64 1000000)).setOther (q := w5.heap.size) (by omega) 5 (.int .i64 100000)
        go_wp2_with fail
        go_meet
        case rel => exact ⟨rfl, by simp [World.setCell]; omega, 1000000, 100000, by omega, st9, hX4, hRA⟩
      | false =>
        go_wp2_with fail
        go_meet
        case rel => exact ⟨rfl, by omega, _, _, by omega, st8, hX3, hR9⟩
    case rest =>
      obtain ⟨rfl, zd, d, s, ⟨d1, d2, s1, s2⟩, H⟩ := hcut
      obtain ⟨st9, hX4, hRA⟩ := H.out
      clear H st8 hX3 hR9 st7 hX2 hR8 s8 y0 g0 y1 g1 y2 g2 y3 g3 y4 g4 y5 g5
      have hC : CR n l d r s = 0 := Cf.cr_zero.2 ⟨Cf.n1_iff.2 ⟨by omega, by omega⟩, Cf.l1_iff.2 ⟨by omega, by omega⟩, Cf.r1_iff.2 ⟨⟨by omega, by omega⟩, ⟨by omega, by omega⟩, by omega, by omega⟩⟩
      have hA : AM n l d r s = 4 * d + 5 * r + 2 := if_pos hC
      have q1 := Cf.prod (g := 4 * d + 5 * r + 2) (s := s) (by omega) (by omega) (by omega) (by omega)
      obtain ⟨G, hG⟩ : ∃ G, 4 * d + 5 * r + 2 = G := ⟨_, rfl⟩
      rw [hG] at hA q1
      obtain ⟨Q, hQ⟩ : ∃ Q, G * s = Q := ⟨_, rfl⟩
      rw [hQ] at q1
      obtain ⟨Q0, Q1⟩ := q1
      have HP : Hid (∀ y : Int, 0 ≤ y → y < 100 → CP n l d r (Q + y) s = 0) := fun y y0 y1 => right (by omega) (by omega) (by omega) (by omega) (by omega) (by omega) (by omega) (by omega) (by omega) (by omega) y0 y1 (by rw [hG, hQ])
      clear hG hC
      have hw1 : IntKind.i64.wrap Q = Q := by rw [IntKind.wrap_i64]; omega
      have y0 := hX4.cell 0 rfl
      have y1 := hX4.cell 1 rfl
      have y2 := hX4.cell 2 rfl
      have y3 := hX4.cell 3 rfl
      have y4 := hX4.cell 4 rfl
      have y5 := hX4.cell 5 rfl
      go_wp2_with fail
      go_region_with (first | (go_at_call 125; refine (Cf.s_AdjustMost _ _ _ _ _ _ _).mono ?_; rintro e wA ⟨rfl, hbA⟩; have stB : St w0 B p a len cap wA := (by first | exact st9.below hbA | exact st9.drew'.below hbA); have hXB : Room wA w5.heap.size (nums n l d r 0 s) := (by first | exact hX4.below hbA | exact hX4.drew.below hbA); have hRB : Room wA w.heap.size zeros := (by first | exact hRA.below hbA | exact hRA.drew.below hbA); have zB := hbA.size; (try simp at zB); rw [hA]; have u0x := hXB.cell 0 rfl; have u1x := hXB.cell 1 rfl; have u2x := hXB.cell 2 rfl; have u3x := hXB.cell 3 rfl; have u4x := hXB.cell 4 rfl; have u5x := hXB.cell 5 rfl) | (go_at_call 95; refine (l1Below' w0 B p a len cap 100 (by omega) (by omega) _ (by first | exact stB | exact stB.drew')).mono ?_; rintro e wC ⟨⟨y, rfl, yy0, yy1⟩, stC, sC⟩; have hXC := hXB.step (w1 := wC) (by first | exact sC | exact (Step.refl _ _).drew.trans sC) (by omega); have hRC := hRB.step (w1 := wC) (by first | exact sC | exact (Step.refl _ _).drew.trans sC) (by omega); have zC := sC.size; (try simp at zC); have hw2 : IntKind.i64.wrap (Q + y) = Q + y := (by rw [IntKind.wrap_i64]; omega); have v0x := hXC.cell 0 rfl; have v1x := hXC.cell 1 rfl; have v2x := hXC.cell 2 rfl; have v3x := hXC.cell 3 rfl; have v4x := hXC.cell 4 rfl; have v5x := hXC.cell 5 rfl; have vg := hXC.froz 4 rfl))
      all_goals
        have hXD := hXC.set 4 (.int .i64 (Q + y))
        simp only [List.set_cons_zero, List.set_cons_succ] at hXD
        have hRD := hRC.setOther (q := w5.heap.size) (by omega) 4 (.int .i64 (Q + y))
        have stD := stC.setNew (q := w5.heap.size) 4 (by omega) (by omega) (by omega) (.int .i64 (Q + y))
        (try simp only [hw1, hw2])
        generalize wC.setCell ⟨w5.heap.size, 4, none⟩ (.int .i64 (Q + y)) = wD at hXD hRD stD ⊢
        clear stC sC hXC hRC hXB hRB stB hbA hA hw1 hw2 vg u0x v0x u1x v1x u2x v2x u3x v3x u4x v4x u5x v5x
        have y0d := hXD.cell 0 rfl
        have y1d := hXD.cell 1 rfl
        have y2d := hXD.cell 2 rfl
        have y3d := hXD.cell 3 rfl
        have y4d := hXD.cell 4 rfl
        have y5d := hXD.cell 5 rfl
        have r0d := hRD.cell 0 rfl
        have r1d := hRD.cell 1 rfl
        have r2d := hRD.cell 2 rfl
        have r3d := hRD.cell 3 rfl
        have r4d := hRD.cell 4 rfl
        have r5d := hRD.cell 5 rfl
        have f0d := hRD.froz 0 rfl
        have f1d := hRD.froz 1 rfl
        have f2d := hRD.froz 2 rfl
        have f3d := hRD.froz 3 rfl
        have f4d := hRD.froz 4 rfl
        have f5d := hRD.froz 5 rfl
        go_wp2_with fail
        have F6 := hRD.six (.int .i64 n) (.int .i64 l) (.int .i64 d) (.int .i64 r) (.int .i64 (Q + y)) (.int .i64 s)
        refine bodyPost_ret (v := cfg n l d r (Q + y) s) (by simp [results, Tryz.results114, go_sem, F6.cell 0 rfl, F6.cell 1 rfl, F6.cell 2 rfl, F6.cell 3 rfl, F6.cell 4 rfl, F6.cell 5 rfl]) rfl ⟨⟨_, _, _, _, _, _, rfl, HP.out y yy0 yy1⟩, stD.six (by omega) (by omega) (by omega) _ _ _ _ _ _⟩

end Go.Proofs.YtloicicgcdfgnaaGreat.Dr

namespace Go.Proofs.YtloicicgcdfgnaaGreat.Dr
open Go.ChangeShapes Go.WideShapes Go.ChangeAt Go.RowKit
open Cf (cfg CP CR AM N1 L1 R1 P1)
set_option linter.unusedVariables false
set_option linter.unusedSimpArgs false

theorem l4Draw' (w0 : World) (B p : Nat) (a : Option Addr) (len cap : Nat) (w : World) (st : St w0 B p a len cap w) :
    Calls Tryz.prog 114 #[.pointer (some ⟨p, 0, none⟩)] w fun e w' => (∃ n l d r q s : Int, e = .returned (cfg n l d r q s) ∧ Hid (CP n l d r q s = 0)) ∧ St w0 B p a len cap w' ∧ Step p w w' :=
  (l4Draw w B p a len cap w st.here).mono fun e w' ⟨h, s⟩ => ⟨h, St.on st.step s, s.step⟩

def K5 (w0 : World) (B p : Nat) (a : Option Addr) (len cap : Nat) (X R : Nat) (n l d r s : Int) (w' : World) : Prop :=
  w'.cell? ⟨X, 5, none⟩ = some (.int .i64 s) ∧ Hid (St w0 B p a len cap w' ∧ (∃ q : Int, Room w' X (nums n l d r q s)) ∧ Room w' R zeros ∧ X < w'.heap.size)
section
variable {w0 : World} {B p : Nat} {a : Option Addr} {len cap : Nat} {X R : Nat} {n l d r q s : Int} {w w' : World}
theorem k5 (h1 : St w0 B p a len cap w) (h2 : Room w X (nums n l d r q s)) (h3 : Room w R zeros) (h4 : X < w.heap.size) : K5 w0 B p a len cap X R n l d r s w :=
  ⟨h2.cell 5 rfl, h1, ⟨q, h2⟩, h3, h4⟩
theorem K5.all (k : K5 w0 B p a len cap X R n l d r s w) : St w0 B p a len cap w ∧ (∃ q : Int, Room w X (nums n l d r q s)) ∧ Room w R zeros ∧ X < w.heap.size := k.2.out
theorem k5.below (k : K5 w0 B p a len cap X R n l d r s w) (hb : Below w.heap.size w w') : K5 w0 B p a len cap X R n l d r s w' := by
  obtain ⟨h1, ⟨q, h2⟩, h3, h4⟩ := k.all
  exact k5 (h1.below hb) (h2.below hb) (h3.below hb) (Nat.lt_of_lt_of_le h4 hb.size)
theorem k5.drew (k : K5 w0 B p a len cap X R n l d r s w) : K5 w0 B p a len cap X R n l d r s w.drew := by
  obtain ⟨h1, ⟨q, h2⟩, h3, h4⟩ := k.all
  exact k5 h1.drew' h2.drew h3.drew h4
theorem k5.step (k : K5 w0 B p a len cap X R n l d r s w) (st : St w0 B p a len cap w') (st2 : Step p w w') (hx : X ≠ p) (hr : R ≠ p) : K5 w0 B p a len cap X R n l d r s w' := by
  obtain ⟨h1, ⟨q, h2⟩, h3, h4⟩ := k.all
  exact k5 st (h2.step st2 hx) (h3.step st2 hr) (Nat.lt_of_lt_of_le h4 st2.size)
theorem k5.obj (k : K5 w0 B p a len cap X R n l d r s w) (o : Obj) : K5 w0 B p a len cap X R n l d r s (w.alloc o) := by
  obtain ⟨h1, ⟨q, h2⟩, h3, h4⟩ := k.all
  exact k5 (h1.obj o) (h2.alloc o) (h3.alloc o) (by simp; omega)
theorem k5.store (k : K5 w0 B p a len cap X R n l d r s w) (hx : w0.heap.size ≤ X) (hp : X ≠ p) (hB : B ≤ X) (hr : X ≠ R) (v : Int) : K5 w0 B p a len cap X R n l d r s (w.setCell ⟨X, 4, none⟩ (.int .i64 v)) := by
  obtain ⟨h1, ⟨q, h2⟩, h3, h4⟩ := k.all
  exact k5 (h1.setNew 4 hx hp hB _) (h2.set 4 (.int .i64 v)) (h3.setOther hr 4 _) (by simpa [World.setCell] using h4)
end
def Lit5 (w : World) (g : Nat) : Prop := g < w.heap.size ∧ ∀ j, j < 5 → ∃ v : Int, w.cell? ⟨g, j, none⟩ = some (.int .i64 v)
theorem lit5 (w : World) (a b c d e : Int) (t : TypeId) : Lit5 (w.alloc (.cells #[.int .i64 a, .int .i64 b, .int .i64 c, .int .i64 d, .int .i64 e] t)) w.heap.size := by
  refine ⟨by simp, fun j hj => ?_⟩
  rw [World.cell?_alloc_new]
  rcases (show j = 0 ∨ j = 1 ∨ j = 2 ∨ j = 3 ∨ j = 4 by omega) with rfl | rfl | rfl | rfl | rfl
  all_goals exact ⟨_, rfl⟩
theorem Lit5.step {p : Nat} {w w' : World} {g : Nat} (h : Lit5 w g) (s : Step p w w') (hn : g ≠ p) : Lit5 w' g :=
  ⟨Nat.lt_of_lt_of_le h.1 s.size, fun j hj => by
    obtain ⟨v, hv⟩ := h.2 j hj
    exact ⟨v, by rw [s.cell h.1 hn]; exact hv⟩⟩

set_option maxHeartbeats 8000000 in
set_option maxRecDepth 100000 in
theorem l4DrawAny (w0 : World) (B p : Nat) (a : Option Addr) (len cap : Nat) (w : World) (st : St w0 B p a len cap w) :
    Calls Tryz.prog 119 #[.pointer (some ⟨p, 0, none⟩)] w fun e w' => (∃ n l d r q s : Int, e = .returned (cfg n l d r q s)) ∧ St w0 B p a len cap w' := by
  have hp := st.lt
  have hB := st.le
  have h0 := st.step.size
  have stA := st.obj (.cells zeros.toArray 28)
  have hR0 := Room.new w zeros 28
  go_enter Tryz.func119, Tryz.ntmps119
  go_wp2_with fail
  refine (l4Draw' w0 B p a len cap _ stA).mono ?_
  rintro e w1 ⟨⟨n, l, d, r, q, s, rfl, HC⟩, st1, s1⟩
  have z1 := s1.size
  (try simp at z1)
  have hR1 := hR0.step s1 (by omega)
  have hx1 := st1.lt
  have stX := st1.obj (.cells (nums n l d r q s).toArray 28)
  have hX0 := Room.new w1 (nums n l d r q s) 28
  have hR2 := hR1.alloc (.cells (nums n l d r q s).toArray 28)
  clear stA hR0 hR1 s1
  go_wp2_with fail
  refine (l1Once' w0 B p a len cap 4 (by omega) (by omega) _ stX).mono ?_
  rintro e w2 ⟨⟨t, rfl⟩, st2, s2⟩
  have z2 := s2.size
  (try simp at z2)
  have hR3 := hR2.step s2 (by omega)
  have hX1 := hX0.step s2 (by omega)
  clear hR2 hX0 stX s2 st1
  go_upto_if 7 with fail
  go_cut [3] (fun p3 wc => p3 = .pointer (some ⟨w1.heap.size, 0, none⟩) ∧ w1.heap.size < wc.heap.size ∧ ∃ n l d r q s : Int, Hid (St w0 B p a len cap wc ∧ Room wc w1.heap.size (nums n l d r q s) ∧ Room wc w.heap.size zeros))
  case first =>
    cases t with
    | false =>
      go_wp2_with fail
      go_meet
      case rel => exact ⟨rfl, by omega, n, l, d, r, q, s, st2, hX1, hR3⟩
    | true =>
      go_wp2_with fail
      refine (l1Below' w0 B p a len cap 6 (by omega) (by omega) _ st2).mono ?_
      rintro e w3 ⟨⟨k, rfl, k0, k1⟩, st3, s3⟩
      have z3 := s3.size
      (try simp at z3)
      have hR4 := hR3.step s3 (by omega)
      have hX2 := hX1.step s3 (by omega)
      clear hR3 hX1 s3 st2
      by_cases h0 : k = 0
      · subst h0
        go_wp2_with fail
        refine (l1Num' w0 B p a len cap 16 (by omega) (by omega) _ st3).mono ?_
        rintro e w4 ⟨⟨m, rfl⟩, st4, s4⟩
        have z4 := s4.size
        have hR5 := hR4.step s4 (by omega)
        have hX3 := hX2.step s4 (by omega)
        have y := hX3.cell 0 rfl
        have g := hX3.froz 0 rfl
        go_wp2_with fail
        go_meet
        case rel => exact ⟨rfl, by simp [World.setCell]; omega, m, l, d, r, q, s, st4.setNew 0 (by omega) (by omega) (by omega) _, hX3.set 0 _, hR5.setOther (by omega) 0 _⟩
      · have n0 : (k == 0) = false := by simp; omega
        by_cases h1 : k = 1
        · subst h1
          go_wp2_with fail
          refine (l1Num' w0 B p a len cap 5 (by omega) (by omega) _ st3).mono ?_
          rintro e w4 ⟨⟨m, rfl⟩, st4, s4⟩
          have z4 := s4.size
          have hR5 := hR4.step s4 (by omega)
          have hX3 := hX2.step s4 (by omega)
          have y := hX3.cell 1 rfl
          have g := hX3.froz 1 rfl
          go_wp2_with fail
          go_meet
          case rel => exact ⟨rfl, by simp [World.setCell]; omega, n, m, d, r, q, s, st4.setNew 1 (by omega) (by omega) (by omega) _, hX3.set 1 _, hR5.setOther (by omega) 1 _⟩
        · have n1 : (k == 1) = false := by simp; omega
          by_cases h2 : k = 2
          · subst h2
            go_wp2_with fail
            refine (l1Num' w0 B p a len cap 1000000 (by omega) (by omega) _ st3).mono ?_
            rintro e w4 ⟨⟨m, rfl⟩, st4, s4⟩
            have z4 := s4.size
            have hR5 := hR4.step s4 (by omega)
            have hX3 := hX2.step s4 (by omega)
            have y := hX3.cell 2 rfl
            have g := hX3.froz 2 rfl
            go_wp2_with fail
            go_meet
            case rel => exact ⟨rfl, by simp [World.setCell]; omega, n, l, m, r, q, s, st4.setNew 2 (by omega) (by omega) (by omega) _, hX3.set 2 _, hR5.setOther (by omega) 2 _⟩
          · have n2 : (k == 2) = false := by simp; omega
            by_cases h3 : k = 3
            · subst h3
              go_wp2_with fail
              refine (l1Num' w0 B p a len cap 1000000 (by omega) (by omega) _ st3).mono ?_
              rintro e w4 ⟨⟨m, rfl⟩, st4, s4⟩
              have z4 := s4.size
              have hR5 := hR4.step s4 (by omega)
              have hX3 := hX2.step s4 (by omega)
              have y := hX3.cell 3 rfl
              have g := hX3.froz 3 rfl
              go_wp2_with fail
              go_meet
              case rel => exact ⟨rfl, by simp [World.setCell]; omega, n, l, d, m, q, s, st4.setNew 3 (by omega) (by omega) (by omega) _, hX3.set 3 _, hR5.setOther (by omega) 3 _⟩
            · have n3 : (k == 3) = false := by simp; omega
              by_cases h4 : k = 4
              · subst h4
                go_wp2_with fail
                refine (l1Num' w0 B p a len cap 100000 (by omega) (by omega) _ st3).mono ?_
                rintro e w4 ⟨⟨m, rfl⟩, st4, s4⟩
                have z4 := s4.size
                have hR5 := hR4.step s4 (by omega)
                have hX3 := hX2.step s4 (by omega)
                have y := hX3.cell 5 rfl
                have g := hX3.froz 5 rfl
                go_wp2_with fail
                go_meet
                case rel => exact ⟨rfl, by simp [World.setCell]; omega, n, l, d, r, q, m, st4.setNew 5 (by omega) (by omega) (by omega) _, hX3.set 5 _, hR5.setOther (by omega) 5 _⟩
              · have n4 : (k == 4) = false := by simp; omega
                have h5 : k = 5 := by omega
                subst h5
                obtain ⟨G, hG⟩ : ∃ G, AM n l d r s = G := ⟨_, rfl⟩
                have hz3 : w1.heap.size < w3.heap.size := by omega
                have S0 := k5 st3 hX2 hR4 hz3
                have y0 := hX2.cell 0 rfl
                have y1 := hX2.cell 1 rfl
                have y2 := hX2.cell 2 rfl
                have y3 := hX2.cell 3 rfl
                have y4 := hX2.cell 4 rfl
                have y5 := hX2.cell 5 rfl
                clear st3 hX2 hR4 hz3
                go_wp2_with fail
                refine wp_region_noPanic ?_
                refine wp_region_held_drew (S := (fun w' => w'.cell? ⟨w1.heap.size, 5, none⟩ = some (.int .i64 s) ∧ Hid (St w0 B p a len cap w' ∧ (∃ q : Int, Room w' w1.heap.size (nums n l d r q s)) ∧ Room w' w.heap.size zeros ∧ w1.heap.size < w'.heap.size))) (by kernel_rfl) (k5.drew S0) (fun hHeld => ?_)
                refine Tk.W 2 (some 39) (.fieldAddr 28 (.tmp 3) 5) 0 none ?_
                refine Tk.W 3 (some 40) (.load 2 (.tmp 39)) 2 none ?_
                refine Tk.W 6 (some 43) (.move (.tmp 0)) 83 none ?_
                refine Tk.W 9 (some 46) (.move (.tmp 0)) 83 none ?_
                refine Tk.R 0 (some 37) (.load 28 (.tmp 3)) 28 none (fun K hK => ?_)
                go_simp
                try dsimp only
                refine hK.out _ _ hHeld ?_; clear hK K hHeld; intro hHeld; try simp only [Act.put, List.setIfInBounds_toArray, List.set_cons_zero, List.set_cons_succ]
                refine Tk.R 1 (some 38) (.call ⟨.value (.func 125), #[.tmp 37], #[28]⟩) 2 none (fun K hK => ?_)
                go_simp
                refine (Cf.s_AdjustMost _ _ _ _ _ _ _).mono ?_
                rintro e wA ⟨rfl, hbq6⟩
                rw [hG]
                have kvq6 := k5.below hHeld hbq6
                clear hbq6 y0 y1 y2 y3 y4 y5
                try dsimp only
                refine hK.out _ _ kvq6 ?_; clear hK K hHeld; intro hHeld; try simp only [Act.put, List.setIfInBounds_toArray, List.set_cons_zero, List.set_cons_succ]
                refine Tk.W 4 (some 41) (.binOp .mul 2 (.tmp 38) (.tmp 40) 2) 2 none ?_
                refine Tk.W 5 (some 42) (.binOp .sub 2 (.tmp 41) (.const (.int .i64 1)) 2) 2 none ?_
                refine Tk.R 7 (some 44) (.call ⟨.value (.func 120), #[.tmp 43], #[83]⟩) 2 none (fun K hK => ?_)
                go_simp
                refine (l1Odd' w0 B p a len cap _ hHeld.2.out.1).mono ?_
                rintro e wO ⟨⟨o, rfl, o0, o1⟩, stq9, sq9⟩
                have kvq9 := k5.step hHeld stq9 sq9 (by omega) (by omega)
                clear sq9 stq9
                obtain ⟨M, hM⟩ : ∃ M, IntKind.i64.wrap (IntKind.i64.wrap (G * s) - 1) = M := ⟨_, rfl⟩
                try rw [hM]
                have zO := kvq9.all.2.2.2
                try dsimp only
                refine hK.out _ _ kvq9 ?_; clear hK K hHeld; intro hHeld; try simp only [Act.put, List.setIfInBounds_toArray, List.set_cons_zero, List.set_cons_succ]
                refine wpAnyH_ready (rs := [8, 10]) (by kernel_rfl) (by simp) ?_
                refine (AllReadyH.cons (o := ⟨some 45, .buildSlice 29 5 #[(0, .const (.int .i64 0)), (1, .tmp 42), (2, .const (.int .i64 1000000000000000)), (3, .const (.int .i64 1000000000000001)), (4, .tmp 44)], 29, _, _, none⟩) rfl (fun K hK => ?_) (AllReadyH.cons (o := ⟨some 47, .call ⟨.value (.func 95), #[.tmp 46, .const (.int .i64 5)], #[83, 2]⟩, 2, _, _, none⟩) rfl (fun K hK => ?_) AllReadyH.nil))
                · go_simp
                  have aq10 := And.intro (k5.obj hHeld (.cells #[.int .i64 0, .int .i64 M, .int .i64 1000000000000000, .int .i64 1000000000000001, .int .i64 o] 2)) (lit5 wO 0 M 1000000000000000 1000000000000001 o 2)
                  generalize wO.alloc (.cells #[.int .i64 0, .int .i64 M, .int .i64 1000000000000000, .int .i64 1000000000000001, .int .i64 o] 2) = wD at aq10 ⊢
                  obtain ⟨kvq10, hl⟩ := aq10
                  try dsimp only
                  refine hK.out _ _ kvq10 ?_; clear hK K hHeld; intro hHeld; try simp only [Act.put, List.setIfInBounds_toArray, List.set_cons_zero, List.set_cons_succ]
                  refine Tk.R 10 (some 47) (.call ⟨.value (.func 95), #[.tmp 46, .const (.int .i64 5)], #[83, 2]⟩) 2 none (fun K hK => ?_)
                  go_simp
                  refine (l1Below' w0 B p a len cap 5 (by omega) (by omega) _ hHeld.2.out.1).mono ?_
                  rintro e wC ⟨⟨y, rfl, yy0, yy1⟩, stq11, sq11⟩
                  have kvq11 := k5.step hHeld stq11 sq11 (by omega) (by omega)
                  replace hl := hl.step sq11 (by omega)
                  obtain ⟨j, rfl⟩ := Int.eq_ofNat_of_zero_le yy0
                  have hj : j < 5 := by omega
                  obtain ⟨v, hv⟩ := hl.2 j hj
                  clear hl
                  clear stq11 sq11
                  try dsimp only
                  refine hK.out _ _ kvq11 ?_; clear hK K hHeld; intro hHeld; try simp only [Act.put, List.setIfInBounds_toArray, List.set_cons_zero, List.set_cons_succ]
                  refine Tk.W 11 (some 48) (.indexAddr 29 (.tmp 45) (.tmp 47)) 0 none ?_
                  refine Tk.R 12 (some 49) (.load 2 (.tmp 48)) 2 none (fun K hK => ?_)
                  go_simp
                  try dsimp only
                  refine hK.out _ _ hHeld ?_; clear hK K hHeld; intro hHeld; try simp only [Act.put, List.setIfInBounds_toArray, List.set_cons_zero, List.set_cons_succ]
                  refine Tk.W 13 (some 50) (.fieldAddr 28 (.tmp 3) 4) 0 none ?_
                  refine Tk.R 14 none (.store 2 (.tmp 50) (.tmp 49)) 0 none (fun K hK => ?_)
                  obtain ⟨-, ⟨q2, hq2⟩, -, -⟩ := hHeld.2.out
                  have f4 := hq2.froz 4 rfl
                  have e4 := hq2.cell 4 rfl
                  go_simp
                  try dsimp only
                  refine hK.out _ _ (k5.store hHeld (by omega) (by omega) (by omega) (by omega) _) ?_; clear hK K hHeld; intro hHeld; try simp only [Act.put, List.setIfInBounds_toArray, List.set_cons_zero, List.set_cons_succ]
                  refine wpAnyH_done (by kernel_rfl) ?_ _
                  refine NoPanic.normal ?_
                  obtain ⟨a1, ⟨q3, a2⟩, a3, a4⟩ := hHeld.2.out
                  clear hHeld
                  go_wp2_with fail
                  go_meet
                  case rel => exact ⟨rfl, a4, n, l, d, r, q3, s, a1, a2, a3⟩
                · go_simp
                  refine (l1Below' w0 B p a len cap 5 (by omega) (by omega) _ hHeld.2.out.1).mono ?_
                  rintro e wC ⟨⟨y, rfl, yy0, yy1⟩, stq16, sq16⟩
                  have kvq16 := k5.step hHeld stq16 sq16 (by omega) (by omega)
                  clear stq16 sq16
                  try dsimp only
                  refine hK.out _ _ kvq16 ?_; clear hK K hHeld; intro hHeld; try simp only [Act.put, List.setIfInBounds_toArray, List.set_cons_zero, List.set_cons_succ]
                  refine Tk.R 8 (some 45) (.buildSlice 29 5 #[(0, .const (.int .i64 0)), (1, .tmp 42), (2, .const (.int .i64 1000000000000000)), (3, .const (.int .i64 1000000000000001)), (4, .tmp 44)]) 29 none (fun K hK => ?_)
                  go_simp
                  have aq17 := And.intro (k5.obj hHeld (.cells #[.int .i64 0, .int .i64 M, .int .i64 1000000000000000, .int .i64 1000000000000001, .int .i64 o] 2)) (lit5 wC 0 M 1000000000000000 1000000000000001 o 2)
                  generalize wC.alloc (.cells #[.int .i64 0, .int .i64 M, .int .i64 1000000000000000, .int .i64 1000000000000001, .int .i64 o] 2) = wD at aq17 ⊢
                  obtain ⟨kvq17, hl⟩ := aq17
                  obtain ⟨j, rfl⟩ := Int.eq_ofNat_of_zero_le yy0
                  have hj : j < 5 := by omega
                  obtain ⟨v, hv⟩ := hl.2 j hj
                  clear hl
                  try dsimp only
                  refine hK.out _ _ kvq17 ?_; clear hK K hHeld; intro hHeld; try simp only [Act.put, List.setIfInBounds_toArray, List.set_cons_zero, List.set_cons_succ]
                  refine Tk.W 11 (some 48) (.indexAddr 29 (.tmp 45) (.tmp 47)) 0 none ?_
                  refine Tk.R 12 (some 49) (.load 2 (.tmp 48)) 2 none (fun K hK => ?_)
                  go_simp
                  try dsimp only
                  refine hK.out _ _ hHeld ?_; clear hK K hHeld; intro hHeld; try simp only [Act.put, List.setIfInBounds_toArray, List.set_cons_zero, List.set_cons_succ]
                  refine Tk.W 13 (some 50) (.fieldAddr 28 (.tmp 3) 4) 0 none ?_
                  refine Tk.R 14 none (.store 2 (.tmp 50) (.tmp 49)) 0 none (fun K hK => ?_)
                  obtain ⟨-, ⟨q2, hq2⟩, -, -⟩ := hHeld.2.out
                  have f4 := hq2.froz 4 rfl
                  have e4 := hq2.cell 4 rfl
                  go_simp
                  try dsimp only
                  refine hK.out _ _ (k5.store hHeld (by omega) (by omega) (by omega) (by omega) _) ?_; clear hK K hHeld; intro hHeld; try simp only [Act.put, List.setIfInBounds_toArray, List.set_cons_zero, List.set_cons_succ]
                  refine wpAnyH_done (by kernel_rfl) ?_ _
                  refine NoPanic.normal ?_
                  obtain ⟨a1, ⟨q3, a2⟩, a3, a4⟩ := hHeld.2.out
                  clear hHeld
                  go_wp2_with fail
                  go_meet
                  case rel => exact ⟨rfl, a4, n, l, d, r, q3, s, a1, a2, a3⟩
  case rest =>
    obtain ⟨rfl, zc, n, l, d, r, q, s, H⟩ := hcut
    obtain ⟨st7, hX7, hR7⟩ := H.out
    have y0d := hX7.cell 0 rfl
    have y1d := hX7.cell 1 rfl
    have y2d := hX7.cell 2 rfl
    have y3d := hX7.cell 3 rfl
    have y4d := hX7.cell 4 rfl
    have y5d := hX7.cell 5 rfl
    have r0d := hR7.cell 0 rfl
    have r1d := hR7.cell 1 rfl
    have r2d := hR7.cell 2 rfl
    have r3d := hR7.cell 3 rfl
    have r4d := hR7.cell 4 rfl
    have r5d := hR7.cell 5 rfl
    have f0d := hR7.froz 0 rfl
    have f1d := hR7.froz 1 rfl
    have f2d := hR7.froz 2 rfl
    have f3d := hR7.froz 3 rfl
    have f4d := hR7.froz 4 rfl
    have f5d := hR7.froz 5 rfl
    go_wp2_with fail
    have F6 := hR7.six (.int .i64 n) (.int .i64 l) (.int .i64 d) (.int .i64 r) (.int .i64 q) (.int .i64 s)
    refine bodyPost_ret (v := cfg n l d r q s) (by simp [results, Tryz.results119, go_sem, F6.cell 0 rfl, F6.cell 1 rfl, F6.cell 2 rfl, F6.cell 3 rfl, F6.cell 4 rfl, F6.cell 5 rfl]) rfl ⟨⟨_, _, _, _, _, _, rfl⟩, st7.six (by omega) (by omega) (by omega) _ _ _ _ _ _⟩

end Go.Proofs.YtloicicgcdfgnaaGreat.Dr

namespace Go.Proofs.YtloicicgcdfgnaaGreat.Dr
open Go.ChangeShapes Go.WideShapes Go.ChangeAt Go.RowKit
open Ls (el Row)
open Ow (Has Own ints)
open Bo (eb HasB)
open Wl (KL bad)
set_option linter.unusedVariables false
set_option linter.unusedSimpArgs false

theorem has_step {p : Nat} {w w' : World} {B g off n : Nat} {zs : List Int} (h : Has w B g off n zs) (s : Step p w w') (hne : g ≠ p) : Has w' B g off n zs := by
  have e : w'.heap[g]? = w.heap[g]? := s.block g h.2.2.1 hne
  exact ⟨h.1, h.2.1, by have := s.size; have := h.2.2.1; omega, fun k hk => by rw [World.cell?_of_block (w := w) (a := ⟨g, off + k, none⟩) e]; exact h.2.2.2.1 k hk, fun k hk => by rw [World.frozen?_of_block (w := w) (a := ⟨g, off + k, none⟩) e]; exact h.2.2.2.2 k hk⟩
theorem hasb_step {p : Nat} {w w' : World} {B g off n : Nat} {zs : List Bool} (h : HasB w B g off n zs) (s : Step p w w') (hne : g ≠ p) : HasB w' B g off n zs := by
  have e : w'.heap[g]? = w.heap[g]? := s.block g h.2.2.1 hne
  exact ⟨h.1, h.2.1, by have := s.size; have := h.2.2.1; omega, fun k hk => by rw [World.cell?_of_block (w := w) (a := ⟨g, off + k, none⟩) e]; exact h.2.2.2.1 k hk, fun k hk => by rw [World.frozen?_of_block (w := w) (a := ⟨g, off + k, none⟩) e]; exact h.2.2.2.2 k hk⟩
theorem own_step {w w' : World} {p B g n c : Nat} {zs : List Int} (h : Own w B g n c zs) (s : Step p w w') (hne : g ≠ p) : Own w' B g n c zs := by
  obtain ⟨h1, h2⟩ := h
  refine ⟨h1, ?_⟩
  rcases h2 with h2 | ⟨g', cap', cur, e, hB, hb', rest⟩
  · exact .inl h2
  · cases e
    exact .inr ⟨g, c, cur, rfl, hB, by rw [s.block g (Array.getElem?_eq_some_iff.1 hb').1 hne]; exact hb', rest⟩
theorem room_step {p : Nat} {w w1 : World} {g : Nat} {vs : List Value} (h : Rm.Room w g vs) (s : Step p w w1) (hne : g ≠ p) : Rm.Room w1 g vs := Room.step h s hne

theorem step_grown {p g : Nat} {w0 w w' : World} (k : Step p w0 w) (hg : w.grownBy w' (some g)) (h0 : w0.heap.size ≤ g) : Step p w0 w' :=
  ⟨hg.os.trans k.os, hg.tape.trans k.tape, hg.output.trans k.output, Nat.le_trans k.size hg.size, fun j hj hn => by
    rw [hg.block j (Nat.lt_of_lt_of_le hj k.size) (by simp; omega)]; exact k.block j hj hn⟩

theorem dr_grown {w0 w w' : World} {B p g : Nat} {a : Option Addr} {len cap : Nat} (s : St w0 B p a len cap w) (hg : w.grownBy w' (some g)) (hp : g ≠ p) (hB : B ≤ g) (h0 : w0.heap.size ≤ g) : St w0 B p a len cap w' := by
  obtain ⟨⟨i, h, c⟩, k⟩ := s
  have hpl : p < w.heap.size := World.block_lt_of_cell? _ _ c.c0
  have e : w'.heap[p]? = w.heap[p]? := hg.block p hpl (by simp; omega)
  have ec : ∀ o, w'.cell? ⟨p, o, none⟩ = w.cell? ⟨p, o, none⟩ := fun o => World.cell?_of_block (a := ⟨p, o, none⟩) e
  have ef : ∀ o, w'.frozen? ⟨p, o, none⟩ = w.frozen? ⟨p, o, none⟩ := fun o => World.frozen?_of_block (a := ⟨p, o, none⟩) e
  exact ⟨⟨i, h, c.le, c.code.later ((Below.refl _ _).grown hg (by have := c.le; omega) (by intro j hj; cases hj; exact hB)), by rw [ec]; exact c.c0, by rw [ec]; exact c.c1, by rw [ec]; exact c.c2, by rw [ef]; exact c.f1, by rw [ef]; exact c.f2, c.i_le⟩, step_grown k hg h0⟩

/-- A cursor behind an append to a slice that is new. -/
theorem St.grown {w0 w w' : World} {B p : Nat} {row : Option Nat} {a : Option Addr} {len cap : Nat} (s : St w0 B p a len cap w) (hg : w.grownBy w' row) (hr : ∀ g, row = some g → g ≠ p ∧ B ≤ g ∧ w0.heap.size ≤ g) : St w0 B p a len cap w' := by
  cases row with
  | some g => exact dr_grown s hg (hr g rfl).1 (hr g rfl).2.1 (hr g rfl).2.2
  | none => exact s.below ⟨hg.os, hg.tape, hg.output, hg.size, fun k hk => hg.block k hk (by simp)⟩
theorem own_put {w : World} {B g n c j : Nat} {zs : List Int} (h : Own w B g n c zs) (hj : j < n) (x : Int) : Own (w.setCell ⟨g, j, none⟩ (.int .i64 x)) B g n c (zs.set j x) := by
  obtain ⟨h1, hB, h2, h2', cur, hb, h3, h4⟩ := h.data
  refine ⟨by simp [ints]; omega, .inr ⟨g, c, cur.setIfInBounds j (.int .i64 x), rfl, hB, ?_, h2, h2', by simp; omega, ?_⟩⟩
  · simp [World.setCell, Array.getElem?_modify, hb]
  · rw [Nat.mul_one, Array.toList_setIfInBounds, List.take_set, h4, ints, ints, List.map_set]
theorem has_put {w : World} {B g off n j : Nat} {zs : List Int} (h : Has w B g off n zs) (hj : j < n) (x : Int) : Has (w.setCell ⟨g, off + j, none⟩ (.int .i64 x)) B g off n (zs.set j x) := by
  refine ⟨by simp [h.1], h.2.1, by simpa using h.2.2.1, fun k hk => ?_, fun k hk => by rw [World.frozen?_setCell]; exact h.2.2.2.2 k hk⟩
  by_cases e : k = j
  · subst e
    rw [World.cell?_setCell_same _ _ _ (h.2.2.2.1 k hk)]
    simp [el, List.getD, h.1, hk]
  · rw [World.cell?_setCell_other _ _ _ _ (by simp <;> omega), h.2.2.2.1 k hk]
    simp [el, List.getD, List.getElem?_set, e, Ne.symm e]

theorem l1From' (w0 : World) (B p : Nat) (a : Option Addr) (len cap : Nat) (lo hi : Int) (h1 : lo ≤ hi) (h2 : -4000000000 ≤ lo) (h3 : hi ≤ 4000000000) (w : World) (st : St w0 B p a len cap w) :
    Calls Tryz.prog 115 #[.pointer (some ⟨p, 0, none⟩), .int .i64 lo, .int .i64 hi] w fun e w' => (∃ y : Int, e = .returned (.int .i64 y) ∧ lo ≤ y ∧ y ≤ hi) ∧ St w0 B p a len cap w' ∧ Step p w w' :=
  (l1From w B p a len cap lo hi h1 h2 h3 w st.here).mono fun e w' ⟨h, s⟩ => ⟨h, St.on st.step s, s.step⟩

theorem hasb_set {w : World} {B g off n y : Nat} {bs : List Bool} (h : HasB w B g off n bs) (hy : y < n) (b : Bool) : HasB (w.setCell ⟨g, off + y, none⟩ (.bool b)) B g off n (bs.set y b) := by
  refine ⟨by simp [h.1], h.2.1, by simpa using h.2.2.1, fun k hk => ?_, fun k hk => by rw [World.frozen?_setCell]; exact h.2.2.2.2 k hk⟩
  by_cases e : k = y
  · subst e
    rw [World.cell?_setCell_same _ _ _ (h.2.2.2.1 k hk)]
    simp [eb, List.getD, h.1, hk]
  · rw [World.cell?_setCell_other _ _ _ _ (by simp <;> omega), h.2.2.2.1 k hk]
    simp [eb, List.getD, List.getElem?_set, e, Ne.symm e]
theorem bad_set (bs : List Bool) (y n : Nat) (b : Bool) : bad (KL (bs.set y b)) n ≤ bad (KL bs) n + 1 ∧ (n ≤ y → bad (KL (bs.set y b)) n = bad (KL bs) n) := by
  have e : ∀ k, k ≠ y → el (KL (bs.set y b)) k = el (KL bs) k := fun k hk => by
    have q : eb (bs.set y b) k = eb bs k := by simp [eb, List.getD, List.getElem?_set, Ne.symm hk]
    rw [Wl.kl_el, Wl.kl_el, q]
  induction n with
  | zero => exact ⟨Nat.zero_le _, fun _ => rfl⟩
  | succ n ih =>
    unfold bad
    by_cases h : n = y
    · have q := ih.2 (by omega)
      rw [q]
      refine ⟨?_, fun h2 => by omega⟩
      split <;> split <;> omega
    · rw [e n h]
      have q := ih.1
      exact ⟨by omega, fun h2 => by rw [ih.2 (by omega)]⟩
theorem bad_none (n k : Nat) : bad (KL (List.replicate n false)) k = 0 := by
  induction k with
  | zero => rfl
  | succ k ih =>
    unfold bad
    rw [ih, Wl.kl_el]
    have : eb (List.replicate n false) k = false := by
      unfold eb List.getD
      rw [List.getElem?_replicate]
      split <;> rfl
    rw [this]
    rfl

set_option maxHeartbeats 2000000 in
theorem l5DrawLies (w0 : World) (B p : Nat) (a : Option Addr) (len cap : Nat) (n : Nat) (most : Int) (hn : 0 < n) (hn2 : n ≤ 1000) (h0 : 0 ≤ most) (h1 : most ≤ 1000) (w : World) (st : St w0 B p a len cap w) :
    Calls Tryz.prog 116 #[.pointer (some ⟨p, 0, none⟩), .int .i64 n, .int .i64 most] w fun e w' => (∃ g, e = .returned (.slice (some ⟨g, 0, none⟩) n n) ∧ ∃ bs, HasB w' w.heap.size g 0 n bs ∧ (bad (KL bs) n : Int) ≤ most) ∧ St w0 B p a len cap w' ∧ Step p w w' := by
  have hmk := run_make_row' (P := Tryz.prog) 35 4 (.bool false) 1 Tryz.underlying35 Bo.info rfl .i64 .i64 n (by omega) (by omega)
  have hp := st.lt
  have hB := st.le
  have hst := st.step
  go_enter Tryz.func116, Tryz.ntmps116
  go_wp2_with fail
  have stA := st.here.obj (.cells (madeCells #[.bool false] n) 4)
  have HA : HasB (w.alloc (.cells (madeCells #[.bool false] n) 4)) w.heap.size w.heap.size 0 n (List.replicate n false) :=
    Bo.has_new (by simp) (Nat.le_refl _) ((World.rowIs_made w _ n _).congr (fun i hi => by unfold Bo.part eb List.getD; rw [List.getElem?_replicate, if_pos hi]; split <;> rfl))
  refine (l1Below' w B p a len cap (most + 1) (by omega) (by omega) _ stA).mono ?_
  rintro e w1 ⟨⟨x, rfl, x0, x1⟩, st1, s1⟩
  have H1 : Hid (HasB w1 w.heap.size w.heap.size 0 n (List.replicate n false)) := hasb_step HA s1 (by omega)
  clear HA stA s1
  obtain ⟨K, rfl⟩ : ∃ K : Nat, x = K := ⟨x.toNat, by omega⟩
  go_wp2_with fail
  go_loopw [8] (fun q wr => ∃ (j : Nat) (bs : List Bool), q = .int .i64 (j : Int) ∧ Hid ((bad (KL bs) n : Int) + j ≤ most) ∧ Hid (HasB wr w.heap.size w.heap.size 0 n bs) ∧ j ≤ 1000 ∧ St w B p a len cap wr) (fun q _ => (intOf q).toNat)
  case atStart => exact ⟨K, _, rfl, (by unfold Hid; rw [bad_none]; omega), H1, by omega, st1⟩
  case round =>
    obtain ⟨j, bs, rfl, HC, HB, hj, sr⟩ := hrel
    have hsz := sr.step.size
    by_cases hlt : 0 < j
    · have hi : (0 : Int) < j := by omega
      go_wp2_with fail
      refine (l1Below' w B p a len cap n (by omega) (by omega) _ sr).mono ?_
      rintro e w2 ⟨⟨y, rfl, y0, y1⟩, st2, s2⟩
      obtain ⟨Y, rfl⟩ : ∃ Y : Nat, y = Y := ⟨y.toNat, by omega⟩
      have HB2 := hasb_step HB.out s2 (by omega)
      have hc := HB2.2.2.2.1 Y (by omega)
      have hf := HB2.2.2.2.2 Y (by omega)
      rw [Nat.zero_add] at hc hf
      have HB3 : Hid (HasB (w2.setCell ⟨w.heap.size, Y, none⟩ (.bool true)) w.heap.size w.heap.size 0 n (bs.set Y true)) := by
        have q := hasb_set HB2 (y := Y) (by omega) true
        rw [Nat.zero_add] at q
        exact q
      have HC3 : Hid ((bad (KL (bs.set Y true)) n : Int) + (j - 1 : Nat) ≤ most) := by
        have q := (bad_set bs Y n true).1
        have q2 := HC.out
        unfold Hid
        omega
      have st3 := st2.setNew (q := w.heap.size) Y (Nat.le_refl _) (by omega) (by omega) (.bool true)
      clear HB2 HB HC s2
      go_wp2_with fail
      go_roundw
      case rel => exact ⟨j - 1, _, by rw [Int.ofNat_sub hlt]; go_num, HC3, HB3, by omega, st3⟩
      case measure => simp [intOf]; omega
    · have hi : ¬ (0 : Int) < j := by omega
      go_wp2
      go_ret
      exact ⟨⟨_, rfl, bs, HB.out, by have := HC.out; omega⟩, ⟨sr.cur, hst.trans sr.step⟩, sr.step⟩

end Go.Proofs.YtloicicgcdfgnaaGreat.Dr

namespace Go.Proofs.YtloicicgcdfgnaaGreat.Dr
open Go.ChangeShapes Go.WideShapes Go.ChangeAt Go.RowKit
open Ls (el Row)
open Ow (Has Own ints)
open Bo (eb HasB)
open Wl (KL bad z9 c9 wld WO)
open Cf (cfg CP CR N1 L1)
set_option linter.unusedVariables false
set_option linter.unusedSimpArgs false

/-- What is known of the memory of a world that was drawn. -/
def Drawn5 (B0 : Nat) (w : World) (n l d r q s : Int) (k gK cK gO cO : Nat) : Prop :=
  (∃ ks os, Has w B0 gK 0 k ks ∧ Own w B0 gO k cO os) ∧ 0 < k ∧ k ≤ 16 ∧ gK ≠ gO ∧ (0 ≤ d ∧ d ≤ 1000000) ∧ 0 ≤ r ∧ r ≤ 1000000
def Rng (x : Int) : Prop := -1000000000000000 ≤ x ∧ x ≤ 1000000000000000
theorem all_rng {zs : List Int} {n : Nat} (hz : zs.length = n) (h : ∀ x ∈ zs, Rng x) : Wl.allIn (-1000000000000000) 1000000000000000 zs n = true := by
  rw [Wl.all_iff]
  intro k hk
  have q := h _ (Wl.el_mem zs k (by omega))
  unfold Rng at q
  unfold Sp.LK
  simp
  exact q
theorem all_kinds (bs : List Bool) (n : Nat) : Wl.allIn 0 2 (KL bs) n = true := by
  rw [Wl.all_iff]
  intro k hk
  rw [Wl.kl_el]
  cases eb bs k <;> rfl
theorem wo_of {n l d r q s : Int} {N : Nat} {bs : List Bool} {zs : List Int} (hn : n = N) (hc : CP n l d r q s = 0) (hz : zs.length = N) (h : ∀ x ∈ zs, Rng x) (hb : (bad (KL bs) N : Int) ≤ l) : WO n l d r q s (KL bs) N zs N 0 = true := by
  unfold WO
  rw [all_kinds, all_rng hz h, hc, hn]
  simp [hb]
  decide

theorem ret9 {fn : Func} {ts : Array Value} {W : World} {R : Nat} {n l d r q s t : Int} {aK aO : Option Addr} {k cK m cO : Nat} (hf : fn.results = #[.cell 2 31]) (h2 : ts[2]? = some (.pointer (some ⟨R, 0, none⟩))) (h : Rm.Room W R (c9 n l d r q s (.slice aK k cK) (.slice aO m cO) t)) :
    (results fn ts).run Tryz.prog W = .ok (wld n l d r q s (.slice aK k cK) (.slice aO m cO) t) W := by
  have q0 := h.cell 0 rfl
  have q1 := h.cell 1 rfl
  have q2 := h.cell 2 rfl
  have q3 := h.cell 3 rfl
  have q4 := h.cell 4 rfl
  have q5 := h.cell 5 rfl
  have q6 := h.cell 6 rfl
  have q7 := h.cell 7 rfl
  have q8 := h.cell 8 rfl
  simp [results, hf, h2, go_sem, q0, q1, q2, q3, q4, q5, q6, q7, q8]

def Q9 (w : World) (B p : Nat) (a : Option Addr) (len cap : Nat) (F g c N : Nat) (zs : List Int) (six : List Value) (w' : World) : Prop :=
  St w B p a len cap w' ∧ Own w' (F + 1) g N c zs ∧ Rm.Room w' F six ∧ Rm.Room w' w.heap.size z9
section
variable {w W w' : World} {B p : Nat} {a : Option Addr} {len cap F g c N : Nat} {zs : List Int} {six : List Value}
theorem Q9.step (h : Q9 w B p a len cap F g c N zs six W) (st : St w B p a len cap w') (s : Step p W w') (hg : g ≠ p) (hF : F ≠ p) (hR : w.heap.size ≠ p) : Q9 w B p a len cap F g c N zs six w' :=
  ⟨st, own_step h.2.1 s hg, room_step h.2.2.1 s hF, room_step h.2.2.2 s hR⟩
theorem Q9.below (h : Q9 w B p a len cap F g c N zs six W) (hb : Below W.heap.size W w') : Q9 w B p a len cap F g c N zs six w' :=
  ⟨h.1.below hb, h.2.1.later hb h.2.1.lt, h.2.2.1.below hb, h.2.2.2.below hb⟩
end
def E9 (w : World) (B p : Nat) (a : Option Addr) (len cap : Nat) (F X N gK cK gO cO : Nat) (n l d r q s : Int) (wc : World) : Prop :=
  ∃ ks os, St w B p a len cap wc ∧ Rm.Room wc X (c9 n l d r q s (.slice (some ⟨gK, 0, none⟩) N cK) (.slice (some ⟨gO, 0, none⟩) N cO) 0) ∧ Rm.Room wc F [.int .i64 n, .int .i64 l, .int .i64 d, .int .i64 r, .int .i64 q, .int .i64 s] ∧ Rm.Room wc w.heap.size z9 ∧ Has wc w.heap.size gK 0 N ks ∧ Own wc w.heap.size gO N cO os ∧ WO n l d r q s ks N os N 0 = true ∧ gK ≠ gO ∧ X ≠ gK ∧ X ≠ gO ∧ w.heap.size < F ∧ F < X ∧ F < gK ∧ F < gO

set_option maxHeartbeats 16000000 in
set_option maxRecDepth 100000 in
theorem l5Draw (w0 : World) (B p : Nat) (a : Option Addr) (len cap : Nat) (w : World) (st : St w0 B p a len cap w) :
    Calls Tryz.prog 91 #[.pointer (some ⟨p, 0, none⟩)] w fun e w' => (∃ (n l d r q s : Int) (k gK cK gO cO : Nat), e = .returned (wld n l d r q s (.slice (some ⟨gK, 0, none⟩) k cK) (.slice (some ⟨gO, 0, none⟩) k cO) 0) ∧ Hid (Drawn5 w.heap.size w' n l d r q s k gK cK gO cO)) ∧ St w0 B p a len cap w' ∧ Step p w w' := by
  have hp := st.lt
  have hB := st.le
  have hst := st.step
  obtain ⟨i0, hi0, hz0, hz1, hz2⟩ := info_parts Ls.info
  have stA := st.here.obj (.cells z9.toArray 31)
  have RR := Rm.Room.new w z9 31
  go_enter Tryz.func91, Tryz.ntmps91
  go_wp2_with fail
  refine (l4Draw' w B p a len cap _ stA).mono ?_
  rintro e w1 ⟨⟨n, l, d, r, q, s, rfl, HC⟩, st1, s1⟩
  have z1 := s1.size
  simp at z1
  replace RR := room_step RR s1 (by omega)
  clear stA s1
  have hdr := Cf.r1_iff.1 (Cf.cr_zero.1 (Cf.cp_zero.1 HC.out).1).2.2
  have hnl := Cf.n1_iff.1 (Cf.cr_zero.1 (Cf.cp_zero.1 HC.out).1).1
  have hll := Cf.l1_iff.1 (Cf.cr_zero.1 (Cf.cp_zero.1 HC.out).1).2.1
  obtain ⟨N, rfl⟩ : ∃ N : Nat, n = N := ⟨n.toNat, by omega⟩
  have RF := (Rm.Room.new w1 [.int .i64 (N : Int), .int .i64 l, .int .i64 d, .int .i64 r, .int .i64 q, .int .i64 s] 28).alloc (.cells #[] 2)
  replace RR := (RR.alloc (.cells #[.int .i64 (N : Int), .int .i64 l, .int .i64 d, .int .i64 r, .int .i64 q, .int .i64 s] 28)).alloc (.cells #[] 2)
  have stL := (st1.obj (.cells #[.int .i64 (N : Int), .int .i64 l, .int .i64 d, .int .i64 r, .int .i64 q, .int .i64 s] 28)).obj (.cells #[] 2)
  have OA : Own ((w1.alloc (.cells #[.int .i64 (N : Int), .int .i64 l, .int .i64 d, .int .i64 r, .int .i64 q, .int .i64 s] 28)).alloc (.cells #[] 2)) (w1.heap.size + 1) (w1.heap.size + 1) 0 0 [] := Ow.own_made _ _ _ (by simp) (by simp)
  have HI : Hid ((∃ zs, Own ((w1.alloc (.cells #[.int .i64 (N : Int), .int .i64 l, .int .i64 d, .int .i64 r, .int .i64 q, .int .i64 s] 28)).alloc (.cells #[] 2)) (w1.heap.size + 1) (w1.heap.size + 1) 0 0 zs ∧ ∀ x ∈ zs, Rng x) ∧ Rm.Room ((w1.alloc (.cells #[.int .i64 (N : Int), .int .i64 l, .int .i64 d, .int .i64 r, .int .i64 q, .int .i64 s] 28)).alloc (.cells #[] 2)) w1.heap.size [.int .i64 (N : Int), .int .i64 l, .int .i64 d, .int .i64 r, .int .i64 q, .int .i64 s] ∧ Rm.Room ((w1.alloc (.cells #[.int .i64 (N : Int), .int .i64 l, .int .i64 d, .int .i64 r, .int .i64 q, .int .i64 s] 28)).alloc (.cells #[] 2)) w.heap.size z9) := ⟨⟨[], OA, fun x hx => by cases hx⟩, RF, RR⟩
  clear OA RF RR st1
  go_wp2_with fail
  go_loopw [4, 5] (fun v i wr => ∃ (j g c : Nat), j ≤ N ∧ i = .int .i64 (j : Int) ∧ v = .slice (some ⟨g, 0, none⟩) j c ∧ w1.heap.size < g ∧ w1.heap.size + 2 ≤ wr.heap.size ∧ Hid ((∃ zs, Own wr (w1.heap.size + 1) g j c zs ∧ ∀ x ∈ zs, Rng x) ∧ Rm.Room wr w1.heap.size [.int .i64 (N : Int), .int .i64 l, .int .i64 d, .int .i64 r, .int .i64 q, .int .i64 s] ∧ Rm.Room wr w.heap.size z9) ∧ St w B p a len cap wr) (fun _ i _ => N - (intOf i).toNat)
  case atStart => exact ⟨0, w1.heap.size + 1, 0, Nat.zero_le _, rfl, by simp, by omega, by simp, HI, stL⟩
  case round =>
    clear HI stL
    obtain ⟨j, g, c, hj, rfl, rfl, hg, hsz, H, sr⟩ := hrel
    obtain ⟨⟨zs, ho, hz⟩, RF, RR⟩ := H.out
    clear H
    have hzl := ho.data.1
    have c0 := RF.cell 0 rfl
    by_cases hlt : j < N
    · have hi : (j : Int) < (N : Int) := by omega
      go_wp2_with fail
      refine (l1From' w B p a len cap (-30) 30 (by omega) (by omega) (by omega) _ sr).mono ?_
      rintro e w2 ⟨⟨y, rfl, y0, y1⟩, st2, s2⟩
      have z2 := s2.size
      have HO : Hid (Own w2 (w1.heap.size + 1) g j c zs) := own_step ho s2 (by omega)
      replace RF := room_step RF s2 (by omega)
      replace RR := room_step RR s2 (by omega)
      clear c0 ho s2 sr
      go_wp2_with (at_builtin; refine wpList_append_own _ rfl (.tmp 17) (.tmp 20) 29 rfl (w1.heap.size + 1) 2 i0 (.int .i64 0) 1 8 Tryz.underlying29 hi0 hz0 hz1 hz2 rfl (by decide) _ _ _ rfl (World.ownsRow.alloc (w := w2) HO.out _) ⟨w2.heap.size, 0, none⟩ 1 1 (ints [y]) rfl rfl (Ow.one_new w2 (y) _ _ rfl) (Ow.one _) (by unfold maxLen; omega) (by omega) (by simp; omega) ?_; intro v2 w3 hx2 hg2 hn2; obtain ⟨g2, c2, rfl, ho2⟩ := Ow.more hx2 (Ow.no_nil hn2 rfl); replace hg2 : World.grownBy _ w3 (some g) := hg2; have hg4 := ho2.data.2.1; have hzs := hg2.size; simp at hzs; replace RF := (RF.alloc _).other hg2 (by omega); replace RR := (RR.alloc _).other hg2 (by omega); have st3 := (st2.obj _).grown hg2 (fun x hx => (by cases hx; omega)); clear hx2 hg2 hn2 HO st2)
      refine (l1Once' w B p a len cap 30 (by omega) (by omega) _ st3).mono ?_
      rintro e w4 ⟨⟨t, rfl⟩, st4, s4⟩
      have z4 := s4.size
      replace ho2 := own_step ho2 s4 (by omega)
      replace RF := room_step RF s4 (by omega)
      replace RR := room_step RR s4 (by omega)
      clear st3 s4
      have hz2 : ∀ x ∈ zs ++ [y], Rng x := fun x hx => by
        rcases List.mem_append.1 hx with hx | hx
        · exact hz x hx
        · rw [List.mem_singleton] at hx; subst hx; unfold Rng; omega
      cases t with
      | false =>
        have HF : Hid ((∃ zs, Own w4 (w1.heap.size + 1) g2 (j + 1) c2 zs ∧ ∀ x ∈ zs, Rng x) ∧ Rm.Room w4 w1.heap.size [.int .i64 (N : Int), .int .i64 l, .int .i64 d, .int .i64 r, .int .i64 q, .int .i64 s] ∧ Rm.Room w4 w.heap.size z9) := ⟨⟨_, ho2, hz2⟩, RF, RR⟩
        clear ho2 hz2 RF RR
        go_wp2_with fail
        go_roundw
        case rel => exact ⟨j + 1, g2, c2, by omega, by go_num, rfl, by omega, by omega, HF, st4⟩
        case measure => simp [intOf]; omega
      | true =>
        go_wp2_with fail
        refine (l1From' w B p a len cap 0 1 (by omega) (by omega) (by omega) _ st4).mono ?_
        rintro e w5 ⟨⟨y2, rfl, a0, a1⟩, st5, s5⟩
        have z5 := s5.size
        replace ho2 := own_step ho2 s5 (by omega)
        replace RF := room_step RF s5 (by omega)
        replace RR := room_step RR s5 (by omega)
        clear st4 s5
        have hcj := (ho2.cell j (by omega)).1
        have hfj := (ho2.cell j (by omega)).2
        have hi2 : (j : Int) < (j : Int) + 1 := by omega
        have hR : Rng (y2 * 1999999999999910 - 1000000000000000 + 40) := by unfold Rng; omega
        have ho3 := own_put ho2 (j := j) (by omega) (y2 * 1999999999999910 - 1000000000000000 + 40)
        have HF : Hid ((∃ zs, Own (w5.setCell ⟨g2, j, none⟩ (.int .i64 (y2 * 1999999999999910 - 1000000000000000 + 40))) (w1.heap.size + 1) g2 (j + 1) c2 zs ∧ ∀ x ∈ zs, Rng x) ∧ Rm.Room (w5.setCell ⟨g2, j, none⟩ (.int .i64 (y2 * 1999999999999910 - 1000000000000000 + 40))) w1.heap.size [.int .i64 (N : Int), .int .i64 l, .int .i64 d, .int .i64 r, .int .i64 q, .int .i64 s] ∧ Rm.Room (w5.setCell ⟨g2, j, none⟩ (.int .i64 (y2 * 1999999999999910 - 1000000000000000 + 40))) w.heap.size z9) := ⟨⟨_, ho3, fun x hx => (by rcases List.mem_or_eq_of_mem_set hx with hx | hx; exact hz2 x hx; rw [hx]; exact hR)⟩, RF.setOther (by omega) j _, RR.setOther (by omega) j _⟩
        have st6 := st5.setNew (q := g2) j (by omega) (by omega) (by omega) (.int .i64 (y2 * 1999999999999910 - 1000000000000000 + 40))
        clear ho2 ho3 hz2 RF RR st5
        go_wp2_with fail
        go_roundw
        case rel => exact ⟨j + 1, g2, c2, by omega, by go_num, rfl, by omega, by simp; omega, HF, st6⟩
        case measure => simp [intOf]; omega
    · have hi : ¬ (j : Int) < (N : Int) := by omega
      have e : N = j := by omega
      subst e
      have hgl := ho.lt
      have q0 : Q9 w B p a len cap w1.heap.size g c N zs [.int .i64 (N : Int), .int .i64 l, .int .i64 d, .int .i64 r, .int .i64 q, .int .i64 s] wr.drew := ⟨sr.drew', ho.later (Below.refl _ _).drew ho.lt, RF.drew, RR.drew⟩
      have zA : w1.heap.size + 2 ≤ wr.drew.heap.size ∧ g < wr.drew.heap.size := ⟨hsz, hgl⟩
      clear ho RF RR sr
      have hzN : zs.length = N := hzl
      go_wp2_with fail
      clear c0
      go_cut [6] from 8 (fun p6 wc => ∃ X gK cK gO cO : Nat, p6 = .pointer (some ⟨X, 0, none⟩) ∧ Hid (E9 w B p a len cap w1.heap.size X N gK cK gO cO N l d r q s wc))
      case first =>
        refine wp_region_noPanic ?_
        refine wp_region_held_drew (S := (fun w' => w'.cell? ⟨w1.heap.size, 0, none⟩ = some (.int .i64 (N : Int)) ∧ w'.cell? ⟨w1.heap.size, 1, none⟩ = some (.int .i64 l) ∧ w'.cell? ⟨w1.heap.size, 2, none⟩ = some (.int .i64 d) ∧ w'.cell? ⟨w1.heap.size, 3, none⟩ = some (.int .i64 r) ∧ w'.cell? ⟨w1.heap.size, 4, none⟩ = some (.int .i64 q) ∧ w'.cell? ⟨w1.heap.size, 5, none⟩ = some (.int .i64 s) ∧ Hid (Q9 w B p a len cap w1.heap.size g c N zs [.int .i64 (N : Int), .int .i64 l, .int .i64 d, .int .i64 r, .int .i64 q, .int .i64 s] w'))) (by kernel_rfl) ⟨q0.2.2.1.cell 0 rfl, q0.2.2.1.cell 1 rfl, q0.2.2.1.cell 2 rfl, q0.2.2.1.cell 3 rfl, q0.2.2.1.cell 4 rfl, q0.2.2.1.cell 5 rfl, q0⟩ (fun hHeld => ?_)
        generalize wr.drew = wA at hHeld zA ⊢
        refine Tk.W 0 (some 33) (.load 28 (.tmp 3)) 28 none ?_
        refine Tk.W 1 (some 34) (.move (.tmp 4)) 29 none ?_
        refine Tk.W 2 (some 35) (.move (.tmp 0)) 83 none ?_
        refine Tk.W 3 (some 36) (.fieldAddr 28 (.tmp 3) 0) 0 none ?_
        refine Tk.W 4 (some 37) (.load 2 (.tmp 36)) 2 none ?_
        refine Tk.W 5 (some 38) (.fieldAddr 28 (.tmp 3) 1) 0 none ?_
        refine Tk.W 6 (some 39) (.load 2 (.tmp 38)) 2 none ?_
        refine wpAnyH_ready (rs := [7, 12]) (by kernel_rfl) (by simp) ?_
        refine (AllReadyH.cons (o := ⟨some 40, .call ⟨.value (.func 116), #[.tmp 35, .tmp 37, .tmp 39], #[83, 2, 2]⟩, 35, _, _, none⟩) rfl (fun K hK => ?_) (AllReadyH.cons (o := ⟨some 6, .alloc 31, 0, _, _, none⟩) rfl (fun K hK => ?_) AllReadyH.nil))
        · go_simp
          refine (l5DrawLies w B p a len cap N l (by omega) (by omega) (by omega) (by omega) _ hHeld.2.2.2.2.2.2.out.1).mono ?_
          rintro e wL ⟨⟨gL, rfl, bs, hL, hbad⟩, stn8, sn8⟩
          have zn8 := sn8.size
          have qn8 := Q9.step hHeld.2.2.2.2.2.2.out stn8 sn8 (by omega) (by omega) (by omega)
          have kvn8 := Tk.kv hK (w := wL) ⟨qn8.2.2.1.cell 0 rfl, qn8.2.2.1.cell 1 rfl, qn8.2.2.1.cell 2 rfl, qn8.2.2.1.cell 3 rfl, qn8.2.2.1.cell 4 rfl, qn8.2.2.1.cell 5 rfl, qn8⟩
          have loL := hL.2.1
          have hiL := hL.2.2.1
          clear stn8 sn8
          try dsimp only
          refine hK.out _ _ kvn8 ?_; clear hK K hHeld; intro hHeld; try simp only [Act.put, List.setIfInBounds_toArray, List.set_cons_zero, List.set_cons_succ]
          refine wpAnyH_ready (rs := [8, 12]) (by kernel_rfl) (by simp) ?_
          refine (AllReadyH.cons (o := ⟨some 41, .call ⟨.value (.func 37), #[.tmp 33, .tmp 34, .tmp 40], #[28, 29, 35]⟩, 40, _, _, none⟩) rfl (fun K hK => ?_) (AllReadyH.cons (o := ⟨some 6, .alloc 31, 0, _, _, none⟩) rfl (fun K hK => ?_) AllReadyH.nil))
          · go_simp
            refine (Wl.s_NewWorldO N l d r q s g 0 N c (some ⟨gL, 0, none⟩) N N bs zs _ hzN (fun j hj => by rw [Nat.zero_add]; exact (hHeld.2.2.2.2.2.2.out.2.1.cell j hj).1) hHeld.2.2.2.2.2.2.out.2.1.lt hL.row (by omega) (by omega)).mono ?_
            rintro e wN ⟨⟨-, hTn9⟩, bn9⟩
            obtain ⟨gK, gO, cK, cO, rfl, pK, pO, neKO, -, -⟩ := hTn9 (wo_of rfl HC.out hzN hz hbad)
            have zn9 := bn9.size
            have qn9 := Q9.below hHeld.2.2.2.2.2.2.out bn9
            have kvn9 := Tk.kv hK (w := wN) ⟨qn9.2.2.1.cell 0 rfl, qn9.2.2.1.cell 1 rfl, qn9.2.2.1.cell 2 rfl, qn9.2.2.1.cell 3 rfl, qn9.2.2.1.cell 4 rfl, qn9.2.2.1.cell 5 rfl, qn9⟩
            have loK := pK.2.1
            have hiK := pK.2.2.1
            have loO := pO.data.2.1
            have hiO := pO.lt
            clear bn9 hTn9 hL
            try dsimp only
            refine hK.out _ _ kvn9 ?_; clear hK K hHeld; intro hHeld; try simp only [Act.put, List.setIfInBounds_toArray, List.set_cons_zero, List.set_cons_succ]
            refine Tk.W 9 (some 32) (.move (.tmp 41)) 40 none ?_
            refine Tk.W 10 (some 42) (.extract (.tmp 32) 0) 31 none ?_
            refine Tk.W 11 (some 43) (.extract (.tmp 32) 1) 4 none ?_
            refine Tk.R 12 (some 6) (.alloc 31) 0 none (fun K hK => ?_)
            go_simp
            have bn13 := (Below.refl wN.heap.size wN).alloc (Nat.le_refl _) (.cells #[.int .i64 0, .int .i64 0, .int .i64 0, .int .i64 0, .int .i64 0, .int .i64 0, .slice none 0 0, .slice none 0 0, .int .i64 0] 31)
            have RX := Rm.Room.new wN z9 31
            have lX := RX.lt (by simp)
            have qn13 := Q9.below hHeld.2.2.2.2.2.2.out bn13
            have kvn13 := Tk.kv hK (w := _) ⟨qn13.2.2.1.cell 0 rfl, qn13.2.2.1.cell 1 rfl, qn13.2.2.1.cell 2 rfl, qn13.2.2.1.cell 3 rfl, qn13.2.2.1.cell 4 rfl, qn13.2.2.1.cell 5 rfl, qn13⟩
            have un13pK := pK.2.2.1
            replace pK := pK.later bn13 un13pK
            have un13pO := pO.lt
            replace pO := pO.later bn13 un13pO
            have gX := hHeld.2.2.2.2.2.2.out.2.1.lt
            clear bn13 qn13
            obtain ⟨X, hX⟩ : ∃ X, X = wN.heap.size := ⟨_, rfl⟩
            rw [← hX] at RX lX gX un13pK un13pO ⊢
            generalize wN.alloc (.cells #[.int .i64 0, .int .i64 0, .int .i64 0, .int .i64 0, .int .i64 0, .int .i64 0, .slice none 0 0, .slice none 0 0, .int .i64 0] 31) = wX at kvn13 RX lX pK pO ⊢
            have zn13 : w1.heap.size + 2 ≤ X := by omega
            clear hX
            try dsimp only
            refine hK.out _ _ kvn13 ?_; clear hK K hHeld; intro hHeld; try simp only [Act.put, List.setIfInBounds_toArray, List.set_cons_zero, List.set_cons_succ]
            refine Tk.R 13 none (.store 31 (.tmp 6) (.tmp 42)) 0 none (fun K hK => ?_)
            have f0 := RX.froz 0 rfl
            have f1 := RX.froz 1 rfl
            have f2 := RX.froz 2 rfl
            have f3 := RX.froz 3 rfl
            have f4 := RX.froz 4 rfl
            have f5 := RX.froz 5 rfl
            have f6 := RX.froz 6 rfl
            have f7 := RX.froz 7 rfl
            have f8 := RX.froz 8 rfl
            have e0 := RX.cell 0 rfl
            have e1 := RX.cell 1 rfl
            have e2 := RX.cell 2 rfl
            have e3 := RX.cell 3 rfl
            have e4 := RX.cell 4 rfl
            have e5 := RX.cell 5 rfl
            have e6 := RX.cell 6 rfl
            have e7 := RX.cell 7 rfl
            have e8 := RX.cell 8 rfl
            go_simp
            have RX9 := Rm.over9 RX (.int .i64 (N : Int)) (.int .i64 l) (.int .i64 d) (.int .i64 r) (.int .i64 q) (.int .i64 s) (.slice (some ⟨gK, 0, none⟩) N cK) (.slice (some ⟨gO, 0, none⟩) N cO) (.int .i64 0)
            have qn14 : Q9 w B p a len cap w1.heap.size g c N zs [.int .i64 (N : Int), .int .i64 l, .int .i64 d, .int .i64 r, .int .i64 q, .int .i64 s] _ := ⟨(((((((((hHeld.2.2.2.2.2.2.out.1.setNew (q := X) 0 (by omega) (by omega) (by omega) (.int .i64 (N : Int))).setNew (q := X) 1 (by omega) (by omega) (by omega) (.int .i64 l)).setNew (q := X) 2 (by omega) (by omega) (by omega) (.int .i64 d)).setNew (q := X) 3 (by omega) (by omega) (by omega) (.int .i64 r)).setNew (q := X) 4 (by omega) (by omega) (by omega) (.int .i64 q)).setNew (q := X) 5 (by omega) (by omega) (by omega) (.int .i64 s)).setNew (q := X) 6 (by omega) (by omega) (by omega) (.slice (some ⟨gK, 0, none⟩) N cK)).setNew (q := X) 7 (by omega) (by omega) (by omega) (.slice (some ⟨gO, 0, none⟩) N cO)).setNew (q := X) 8 (by omega) (by omega) (by omega) (.int .i64 0)), (((((((((hHeld.2.2.2.2.2.2.out.2.1.setOther (q := X) (by omega) 0 (.int .i64 (N : Int))).setOther (q := X) (by omega) 1 (.int .i64 l)).setOther (q := X) (by omega) 2 (.int .i64 d)).setOther (q := X) (by omega) 3 (.int .i64 r)).setOther (q := X) (by omega) 4 (.int .i64 q)).setOther (q := X) (by omega) 5 (.int .i64 s)).setOther (q := X) (by omega) 6 (.slice (some ⟨gK, 0, none⟩) N cK)).setOther (q := X) (by omega) 7 (.slice (some ⟨gO, 0, none⟩) N cO)).setOther (q := X) (by omega) 8 (.int .i64 0)), (((((((((hHeld.2.2.2.2.2.2.out.2.2.1.setOther (q := X) (by omega) 0 (.int .i64 (N : Int))).setOther (q := X) (by omega) 1 (.int .i64 l)).setOther (q := X) (by omega) 2 (.int .i64 d)).setOther (q := X) (by omega) 3 (.int .i64 r)).setOther (q := X) (by omega) 4 (.int .i64 q)).setOther (q := X) (by omega) 5 (.int .i64 s)).setOther (q := X) (by omega) 6 (.slice (some ⟨gK, 0, none⟩) N cK)).setOther (q := X) (by omega) 7 (.slice (some ⟨gO, 0, none⟩) N cO)).setOther (q := X) (by omega) 8 (.int .i64 0)), (((((((((hHeld.2.2.2.2.2.2.out.2.2.2.setOther (q := X) (by omega) 0 (.int .i64 (N : Int))).setOther (q := X) (by omega) 1 (.int .i64 l)).setOther (q := X) (by omega) 2 (.int .i64 d)).setOther (q := X) (by omega) 3 (.int .i64 r)).setOther (q := X) (by omega) 4 (.int .i64 q)).setOther (q := X) (by omega) 5 (.int .i64 s)).setOther (q := X) (by omega) 6 (.slice (some ⟨gK, 0, none⟩) N cK)).setOther (q := X) (by omega) 7 (.slice (some ⟨gO, 0, none⟩) N cO)).setOther (q := X) (by omega) 8 (.int .i64 0))⟩
            have kvn14 := Tk.kv hK (w := _) ⟨qn14.2.2.1.cell 0 rfl, qn14.2.2.1.cell 1 rfl, qn14.2.2.1.cell 2 rfl, qn14.2.2.1.cell 3 rfl, qn14.2.2.1.cell 4 rfl, qn14.2.2.1.cell 5 rfl, qn14⟩
            replace pK := (((((((((pK.setOther (q := X) (by omega) 0 (.int .i64 (N : Int))).setOther (q := X) (by omega) 1 (.int .i64 l)).setOther (q := X) (by omega) 2 (.int .i64 d)).setOther (q := X) (by omega) 3 (.int .i64 r)).setOther (q := X) (by omega) 4 (.int .i64 q)).setOther (q := X) (by omega) 5 (.int .i64 s)).setOther (q := X) (by omega) 6 (.slice (some ⟨gK, 0, none⟩) N cK)).setOther (q := X) (by omega) 7 (.slice (some ⟨gO, 0, none⟩) N cO)).setOther (q := X) (by omega) 8 (.int .i64 0))
            replace pO := (((((((((pO.setOther (q := X) (by omega) 0 (.int .i64 (N : Int))).setOther (q := X) (by omega) 1 (.int .i64 l)).setOther (q := X) (by omega) 2 (.int .i64 d)).setOther (q := X) (by omega) 3 (.int .i64 r)).setOther (q := X) (by omega) 4 (.int .i64 q)).setOther (q := X) (by omega) 5 (.int .i64 s)).setOther (q := X) (by omega) 6 (.slice (some ⟨gK, 0, none⟩) N cK)).setOther (q := X) (by omega) 7 (.slice (some ⟨gO, 0, none⟩) N cO)).setOther (q := X) (by omega) 8 (.int .i64 0))
            clear RX qn14 e0 f0 e1 f1 e2 f2 e3 f3 e4 f4 e5 f5 e6 f6 e7 f7 e8 f8
            try dsimp only
            refine hK.out _ _ kvn14 ?_; clear hK K hHeld; intro hHeld; try simp only [Act.put, List.setIfInBounds_toArray, List.set_cons_zero, List.set_cons_succ]
            refine Tk.W 14 (some 7) (.assign (.tmp 43)) 4 none ?_
            refine wpAnyH_done (by kernel_rfl) ?_ _
            refine NoPanic.normal ?_
            have qq := hHeld.2.2.2.2.2.2.out
            clear hHeld
            go_wp2_with fail
            go_meet
            case rel => exact ⟨X, gK, cK, gO, cO, rfl, _, _, qq.1, RX9, qq.2.2.1, qq.2.2.2, pK.mono (by omega), pO.mono (by omega), (wo_of rfl HC.out hzN hz hbad), by omega, by omega, by omega, by omega, by omega, by omega, by omega⟩
          · go_simp
            have bn16 := (Below.refl wL.heap.size wL).alloc (Nat.le_refl _) (.cells #[.int .i64 0, .int .i64 0, .int .i64 0, .int .i64 0, .int .i64 0, .int .i64 0, .slice none 0 0, .slice none 0 0, .int .i64 0] 31)
            have RX := Rm.Room.new wL z9 31
            have lX := RX.lt (by simp)
            have qn16 := Q9.below hHeld.2.2.2.2.2.2.out bn16
            have kvn16 := Tk.kv hK (w := _) ⟨qn16.2.2.1.cell 0 rfl, qn16.2.2.1.cell 1 rfl, qn16.2.2.1.cell 2 rfl, qn16.2.2.1.cell 3 rfl, qn16.2.2.1.cell 4 rfl, qn16.2.2.1.cell 5 rfl, qn16⟩
            have un16hL := hL.2.2.1
            replace hL := hL.later bn16 un16hL
            have gX := hHeld.2.2.2.2.2.2.out.2.1.lt
            clear bn16 qn16
            obtain ⟨X, hX⟩ : ∃ X, X = wL.heap.size := ⟨_, rfl⟩
            rw [← hX] at RX lX gX un16hL ⊢
            generalize wL.alloc (.cells #[.int .i64 0, .int .i64 0, .int .i64 0, .int .i64 0, .int .i64 0, .int .i64 0, .slice none 0 0, .slice none 0 0, .int .i64 0] 31) = wX at kvn16 RX lX hL ⊢
            have zn16 : w1.heap.size + 2 ≤ X := by omega
            clear hX
            try dsimp only
            refine hK.out _ _ kvn16 ?_; clear hK K hHeld; intro hHeld; try simp only [Act.put, List.setIfInBounds_toArray, List.set_cons_zero, List.set_cons_succ]
            refine Tk.R 8 (some 41) (.call ⟨.value (.func 37), #[.tmp 33, .tmp 34, .tmp 40], #[28, 29, 35]⟩) 40 none (fun K hK => ?_)
            go_simp
            refine (Wl.s_NewWorldO N l d r q s g 0 N c (some ⟨gL, 0, none⟩) N N bs zs _ hzN (fun j hj => by rw [Nat.zero_add]; exact (hHeld.2.2.2.2.2.2.out.2.1.cell j hj).1) hHeld.2.2.2.2.2.2.out.2.1.lt hL.row (by omega) (by omega)).mono ?_
            rintro e wN ⟨⟨-, hTn17⟩, bn17⟩
            obtain ⟨gK, gO, cK, cO, rfl, pK, pO, neKO, -, -⟩ := hTn17 (wo_of rfl HC.out hzN hz hbad)
            have zn17 := bn17.size
            have qn17 := Q9.below hHeld.2.2.2.2.2.2.out bn17
            have kvn17 := Tk.kv hK (w := wN) ⟨qn17.2.2.1.cell 0 rfl, qn17.2.2.1.cell 1 rfl, qn17.2.2.1.cell 2 rfl, qn17.2.2.1.cell 3 rfl, qn17.2.2.1.cell 4 rfl, qn17.2.2.1.cell 5 rfl, qn17⟩
            have loK := pK.2.1
            have hiK := pK.2.2.1
            have loO := pO.data.2.1
            have hiO := pO.lt
            replace RX := RX.below bn17
            clear bn17 hTn17 hL
            try dsimp only
            refine hK.out _ _ kvn17 ?_; clear hK K hHeld; intro hHeld; try simp only [Act.put, List.setIfInBounds_toArray, List.set_cons_zero, List.set_cons_succ]
            refine Tk.W 9 (some 32) (.move (.tmp 41)) 40 none ?_
            refine Tk.W 10 (some 42) (.extract (.tmp 32) 0) 31 none ?_
            refine Tk.W 11 (some 43) (.extract (.tmp 32) 1) 4 none ?_
            refine Tk.R 13 none (.store 31 (.tmp 6) (.tmp 42)) 0 none (fun K hK => ?_)
            have f0 := RX.froz 0 rfl
            have f1 := RX.froz 1 rfl
            have f2 := RX.froz 2 rfl
            have f3 := RX.froz 3 rfl
            have f4 := RX.froz 4 rfl
            have f5 := RX.froz 5 rfl
            have f6 := RX.froz 6 rfl
            have f7 := RX.froz 7 rfl
            have f8 := RX.froz 8 rfl
            have e0 := RX.cell 0 rfl
            have e1 := RX.cell 1 rfl
            have e2 := RX.cell 2 rfl
            have e3 := RX.cell 3 rfl
            have e4 := RX.cell 4 rfl
            have e5 := RX.cell 5 rfl
            have e6 := RX.cell 6 rfl
            have e7 := RX.cell 7 rfl
            have e8 := RX.cell 8 rfl
            go_simp
            have RX9 := Rm.over9 RX (.int .i64 (N : Int)) (.int .i64 l) (.int .i64 d) (.int .i64 r) (.int .i64 q) (.int .i64 s) (.slice (some ⟨gK, 0, none⟩) N cK) (.slice (some ⟨gO, 0, none⟩) N cO) (.int .i64 0)
            have qn21 : Q9 w B p a len cap w1.heap.size g c N zs [.int .i64 (N : Int), .int .i64 l, .int .i64 d, .int .i64 r, .int .i64 q, .int .i64 s] _ := ⟨(((((((((hHeld.2.2.2.2.2.2.out.1.setNew (q := X) 0 (by omega) (by omega) (by omega) (.int .i64 (N : Int))).setNew (q := X) 1 (by omega) (by omega) (by omega) (.int .i64 l)).setNew (q := X) 2 (by omega) (by omega) (by omega) (.int .i64 d)).setNew (q := X) 3 (by omega) (by omega) (by omega) (.int .i64 r)).setNew (q := X) 4 (by omega) (by omega) (by omega) (.int .i64 q)).setNew (q := X) 5 (by omega) (by omega) (by omega) (.int .i64 s)).setNew (q := X) 6 (by omega) (by omega) (by omega) (.slice (some ⟨gK, 0, none⟩) N cK)).setNew (q := X) 7 (by omega) (by omega) (by omega) (.slice (some ⟨gO, 0, none⟩) N cO)).setNew (q := X) 8 (by omega) (by omega) (by omega) (.int .i64 0)), (((((((((hHeld.2.2.2.2.2.2.out.2.1.setOther (q := X) (by omega) 0 (.int .i64 (N : Int))).setOther (q := X) (by omega) 1 (.int .i64 l)).setOther (q := X) (by omega) 2 (.int .i64 d)).setOther (q := X) (by omega) 3 (.int .i64 r)).setOther (q := X) (by omega) 4 (.int .i64 q)).setOther (q := X) (by omega) 5 (.int .i64 s)).setOther (q := X) (by omega) 6 (.slice (some ⟨gK, 0, none⟩) N cK)).setOther (q := X) (by omega) 7 (.slice (some ⟨gO, 0, none⟩) N cO)).setOther (q := X) (by omega) 8 (.int .i64 0)), (((((((((hHeld.2.2.2.2.2.2.out.2.2.1.setOther (q := X) (by omega) 0 (.int .i64 (N : Int))).setOther (q := X) (by omega) 1 (.int .i64 l)).setOther (q := X) (by omega) 2 (.int .i64 d)).setOther (q := X) (by omega) 3 (.int .i64 r)).setOther (q := X) (by omega) 4 (.int .i64 q)).setOther (q := X) (by omega) 5 (.int .i64 s)).setOther (q := X) (by omega) 6 (.slice (some ⟨gK, 0, none⟩) N cK)).setOther (q := X) (by omega) 7 (.slice (some ⟨gO, 0, none⟩) N cO)).setOther (q := X) (by omega) 8 (.int .i64 0)), (((((((((hHeld.2.2.2.2.2.2.out.2.2.2.setOther (q := X) (by omega) 0 (.int .i64 (N : Int))).setOther (q := X) (by omega) 1 (.int .i64 l)).setOther (q := X) (by omega) 2 (.int .i64 d)).setOther (q := X) (by omega) 3 (.int .i64 r)).setOther (q := X) (by omega) 4 (.int .i64 q)).setOther (q := X) (by omega) 5 (.int .i64 s)).setOther (q := X) (by omega) 6 (.slice (some ⟨gK, 0, none⟩) N cK)).setOther (q := X) (by omega) 7 (.slice (some ⟨gO, 0, none⟩) N cO)).setOther (q := X) (by omega) 8 (.int .i64 0))⟩
            have kvn21 := Tk.kv hK (w := _) ⟨qn21.2.2.1.cell 0 rfl, qn21.2.2.1.cell 1 rfl, qn21.2.2.1.cell 2 rfl, qn21.2.2.1.cell 3 rfl, qn21.2.2.1.cell 4 rfl, qn21.2.2.1.cell 5 rfl, qn21⟩
            replace pK := (((((((((pK.setOther (q := X) (by omega) 0 (.int .i64 (N : Int))).setOther (q := X) (by omega) 1 (.int .i64 l)).setOther (q := X) (by omega) 2 (.int .i64 d)).setOther (q := X) (by omega) 3 (.int .i64 r)).setOther (q := X) (by omega) 4 (.int .i64 q)).setOther (q := X) (by omega) 5 (.int .i64 s)).setOther (q := X) (by omega) 6 (.slice (some ⟨gK, 0, none⟩) N cK)).setOther (q := X) (by omega) 7 (.slice (some ⟨gO, 0, none⟩) N cO)).setOther (q := X) (by omega) 8 (.int .i64 0))
            replace pO := (((((((((pO.setOther (q := X) (by omega) 0 (.int .i64 (N : Int))).setOther (q := X) (by omega) 1 (.int .i64 l)).setOther (q := X) (by omega) 2 (.int .i64 d)).setOther (q := X) (by omega) 3 (.int .i64 r)).setOther (q := X) (by omega) 4 (.int .i64 q)).setOther (q := X) (by omega) 5 (.int .i64 s)).setOther (q := X) (by omega) 6 (.slice (some ⟨gK, 0, none⟩) N cK)).setOther (q := X) (by omega) 7 (.slice (some ⟨gO, 0, none⟩) N cO)).setOther (q := X) (by omega) 8 (.int .i64 0))
            clear RX qn21 e0 f0 e1 f1 e2 f2 e3 f3 e4 f4 e5 f5 e6 f6 e7 f7 e8 f8
            try dsimp only
            refine hK.out _ _ kvn21 ?_; clear hK K hHeld; intro hHeld; try simp only [Act.put, List.setIfInBounds_toArray, List.set_cons_zero, List.set_cons_succ]
            refine Tk.W 14 (some 7) (.assign (.tmp 43)) 4 none ?_
            refine wpAnyH_done (by kernel_rfl) ?_ _
            refine NoPanic.normal ?_
            have qq := hHeld.2.2.2.2.2.2.out
            clear hHeld
            go_wp2_with fail
            go_meet
            case rel => exact ⟨X, gK, cK, gO, cO, rfl, _, _, qq.1, RX9, qq.2.2.1, qq.2.2.2, pK.mono (by omega), pO.mono (by omega), (wo_of rfl HC.out hzN hz hbad), by omega, by omega, by omega, by omega, by omega, by omega, by omega⟩
        · go_simp
          have bn23 := (Below.refl wA.heap.size wA).alloc (Nat.le_refl _) (.cells #[.int .i64 0, .int .i64 0, .int .i64 0, .int .i64 0, .int .i64 0, .int .i64 0, .slice none 0 0, .slice none 0 0, .int .i64 0] 31)
          have RX := Rm.Room.new wA z9 31
          have lX := RX.lt (by simp)
          have qn23 := Q9.below hHeld.2.2.2.2.2.2.out bn23
          have kvn23 := Tk.kv hK (w := _) ⟨qn23.2.2.1.cell 0 rfl, qn23.2.2.1.cell 1 rfl, qn23.2.2.1.cell 2 rfl, qn23.2.2.1.cell 3 rfl, qn23.2.2.1.cell 4 rfl, qn23.2.2.1.cell 5 rfl, qn23⟩
          have gX := hHeld.2.2.2.2.2.2.out.2.1.lt
          clear bn23 qn23
          obtain ⟨X, hX⟩ : ∃ X, X = wA.heap.size := ⟨_, rfl⟩
          rw [← hX] at RX lX gX ⊢
          generalize wA.alloc (.cells #[.int .i64 0, .int .i64 0, .int .i64 0, .int .i64 0, .int .i64 0, .int .i64 0, .slice none 0 0, .slice none 0 0, .int .i64 0] 31) = wX at kvn23 RX lX ⊢
          have zn23 : w1.heap.size + 2 ≤ X := by omega
          clear hX
          try dsimp only
          refine hK.out _ _ kvn23 ?_; clear hK K hHeld; intro hHeld; try simp only [Act.put, List.setIfInBounds_toArray, List.set_cons_zero, List.set_cons_succ]
          refine Tk.R 7 (some 40) (.call ⟨.value (.func 116), #[.tmp 35, .tmp 37, .tmp 39], #[83, 2, 2]⟩) 35 none (fun K hK => ?_)
          go_simp
          refine (l5DrawLies w B p a len cap N l (by omega) (by omega) (by omega) (by omega) _ hHeld.2.2.2.2.2.2.out.1).mono ?_
          rintro e wL ⟨⟨gL, rfl, bs, hL, hbad⟩, stn24, sn24⟩
          have zn24 := sn24.size
          have qn24 := Q9.step hHeld.2.2.2.2.2.2.out stn24 sn24 (by omega) (by omega) (by omega)
          have kvn24 := Tk.kv hK (w := wL) ⟨qn24.2.2.1.cell 0 rfl, qn24.2.2.1.cell 1 rfl, qn24.2.2.1.cell 2 rfl, qn24.2.2.1.cell 3 rfl, qn24.2.2.1.cell 4 rfl, qn24.2.2.1.cell 5 rfl, qn24⟩
          have loL := hL.2.1
          have hiL := hL.2.2.1
          replace RX := room_step RX sn24 (by omega)
          clear stn24 sn24
          try dsimp only
          refine hK.out _ _ kvn24 ?_; clear hK K hHeld; intro hHeld; try simp only [Act.put, List.setIfInBounds_toArray, List.set_cons_zero, List.set_cons_succ]
          refine Tk.R 8 (some 41) (.call ⟨.value (.func 37), #[.tmp 33, .tmp 34, .tmp 40], #[28, 29, 35]⟩) 40 none (fun K hK => ?_)
          go_simp
          refine (Wl.s_NewWorldO N l d r q s g 0 N c (some ⟨gL, 0, none⟩) N N bs zs _ hzN (fun j hj => by rw [Nat.zero_add]; exact (hHeld.2.2.2.2.2.2.out.2.1.cell j hj).1) hHeld.2.2.2.2.2.2.out.2.1.lt hL.row (by omega) (by omega)).mono ?_
          rintro e wN ⟨⟨-, hTn25⟩, bn25⟩
          obtain ⟨gK, gO, cK, cO, rfl, pK, pO, neKO, -, -⟩ := hTn25 (wo_of rfl HC.out hzN hz hbad)
          have zn25 := bn25.size
          have qn25 := Q9.below hHeld.2.2.2.2.2.2.out bn25
          have kvn25 := Tk.kv hK (w := wN) ⟨qn25.2.2.1.cell 0 rfl, qn25.2.2.1.cell 1 rfl, qn25.2.2.1.cell 2 rfl, qn25.2.2.1.cell 3 rfl, qn25.2.2.1.cell 4 rfl, qn25.2.2.1.cell 5 rfl, qn25⟩
          have loK := pK.2.1
          have hiK := pK.2.2.1
          have loO := pO.data.2.1
          have hiO := pO.lt
          replace RX := RX.below bn25
          clear bn25 hTn25 hL
          try dsimp only
          refine hK.out _ _ kvn25 ?_; clear hK K hHeld; intro hHeld; try simp only [Act.put, List.setIfInBounds_toArray, List.set_cons_zero, List.set_cons_succ]
          refine Tk.W 9 (some 32) (.move (.tmp 41)) 40 none ?_
          refine Tk.W 10 (some 42) (.extract (.tmp 32) 0) 31 none ?_
          refine Tk.W 11 (some 43) (.extract (.tmp 32) 1) 4 none ?_
          refine Tk.R 13 none (.store 31 (.tmp 6) (.tmp 42)) 0 none (fun K hK => ?_)
          have f0 := RX.froz 0 rfl
          have f1 := RX.froz 1 rfl
          have f2 := RX.froz 2 rfl
          have f3 := RX.froz 3 rfl
          have f4 := RX.froz 4 rfl
          have f5 := RX.froz 5 rfl
          have f6 := RX.froz 6 rfl
          have f7 := RX.froz 7 rfl
          have f8 := RX.froz 8 rfl
          have e0 := RX.cell 0 rfl
          have e1 := RX.cell 1 rfl
          have e2 := RX.cell 2 rfl
          have e3 := RX.cell 3 rfl
          have e4 := RX.cell 4 rfl
          have e5 := RX.cell 5 rfl
          have e6 := RX.cell 6 rfl
          have e7 := RX.cell 7 rfl
          have e8 := RX.cell 8 rfl
          go_simp
          have RX9 := Rm.over9 RX (.int .i64 (N : Int)) (.int .i64 l) (.int .i64 d) (.int .i64 r) (.int .i64 q) (.int .i64 s) (.slice (some ⟨gK, 0, none⟩) N cK) (.slice (some ⟨gO, 0, none⟩) N cO) (.int .i64 0)
          have qn29 : Q9 w B p a len cap w1.heap.size g c N zs [.int .i64 (N : Int), .int .i64 l, .int .i64 d, .int .i64 r, .int .i64 q, .int .i64 s] _ := ⟨(((((((((hHeld.2.2.2.2.2.2.out.1.setNew (q := X) 0 (by omega) (by omega) (by omega) (.int .i64 (N : Int))).setNew (q := X) 1 (by omega) (by omega) (by omega) (.int .i64 l)).setNew (q := X) 2 (by omega) (by omega) (by omega) (.int .i64 d)).setNew (q := X) 3 (by omega) (by omega) (by omega) (.int .i64 r)).setNew (q := X) 4 (by omega) (by omega) (by omega) (.int .i64 q)).setNew (q := X) 5 (by omega) (by omega) (by omega) (.int .i64 s)).setNew (q := X) 6 (by omega) (by omega) (by omega) (.slice (some ⟨gK, 0, none⟩) N cK)).setNew (q := X) 7 (by omega) (by omega) (by omega) (.slice (some ⟨gO, 0, none⟩) N cO)).setNew (q := X) 8 (by omega) (by omega) (by omega) (.int .i64 0)), (((((((((hHeld.2.2.2.2.2.2.out.2.1.setOther (q := X) (by omega) 0 (.int .i64 (N : Int))).setOther (q := X) (by omega) 1 (.int .i64 l)).setOther (q := X) (by omega) 2 (.int .i64 d)).setOther (q := X) (by omega) 3 (.int .i64 r)).setOther (q := X) (by omega) 4 (.int .i64 q)).setOther (q := X) (by omega) 5 (.int .i64 s)).setOther (q := X) (by omega) 6 (.slice (some ⟨gK, 0, none⟩) N cK)).setOther (q := X) (by omega) 7 (.slice (some ⟨gO, 0, none⟩) N cO)).setOther (q := X) (by omega) 8 (.int .i64 0)), (((((((((hHeld.2.2.2.2.2.2.out.2.2.1.setOther (q := X) (by omega) 0 (.int .i64 (N : Int))).setOther (q := X) (by omega) 1 (.int .i64 l)).setOther (q := X) (by omega) 2 (.int .i64 d)).setOther (q := X) (by omega) 3 (.int .i64 r)).setOther (q := X) (by omega) 4 (.int .i64 q)).setOther (q := X) (by omega) 5 (.int .i64 s)).setOther (q := X) (by omega) 6 (.slice (some ⟨gK, 0, none⟩) N cK)).setOther (q := X) (by omega) 7 (.slice (some ⟨gO, 0, none⟩) N cO)).setOther (q := X) (by omega) 8 (.int .i64 0)), (((((((((hHeld.2.2.2.2.2.2.out.2.2.2.setOther (q := X) (by omega) 0 (.int .i64 (N : Int))).setOther (q := X) (by omega) 1 (.int .i64 l)).setOther (q := X) (by omega) 2 (.int .i64 d)).setOther (q := X) (by omega) 3 (.int .i64 r)).setOther (q := X) (by omega) 4 (.int .i64 q)).setOther (q := X) (by omega) 5 (.int .i64 s)).setOther (q := X) (by omega) 6 (.slice (some ⟨gK, 0, none⟩) N cK)).setOther (q := X) (by omega) 7 (.slice (some ⟨gO, 0, none⟩) N cO)).setOther (q := X) (by omega) 8 (.int .i64 0))⟩
          have kvn29 := Tk.kv hK (w := _) ⟨qn29.2.2.1.cell 0 rfl, qn29.2.2.1.cell 1 rfl, qn29.2.2.1.cell 2 rfl, qn29.2.2.1.cell 3 rfl, qn29.2.2.1.cell 4 rfl, qn29.2.2.1.cell 5 rfl, qn29⟩
          replace pK := (((((((((pK.setOther (q := X) (by omega) 0 (.int .i64 (N : Int))).setOther (q := X) (by omega) 1 (.int .i64 l)).setOther (q := X) (by omega) 2 (.int .i64 d)).setOther (q := X) (by omega) 3 (.int .i64 r)).setOther (q := X) (by omega) 4 (.int .i64 q)).setOther (q := X) (by omega) 5 (.int .i64 s)).setOther (q := X) (by omega) 6 (.slice (some ⟨gK, 0, none⟩) N cK)).setOther (q := X) (by omega) 7 (.slice (some ⟨gO, 0, none⟩) N cO)).setOther (q := X) (by omega) 8 (.int .i64 0))
          replace pO := (((((((((pO.setOther (q := X) (by omega) 0 (.int .i64 (N : Int))).setOther (q := X) (by omega) 1 (.int .i64 l)).setOther (q := X) (by omega) 2 (.int .i64 d)).setOther (q := X) (by omega) 3 (.int .i64 r)).setOther (q := X) (by omega) 4 (.int .i64 q)).setOther (q := X) (by omega) 5 (.int .i64 s)).setOther (q := X) (by omega) 6 (.slice (some ⟨gK, 0, none⟩) N cK)).setOther (q := X) (by omega) 7 (.slice (some ⟨gO, 0, none⟩) N cO)).setOther (q := X) (by omega) 8 (.int .i64 0))
          clear RX qn29 e0 f0 e1 f1 e2 f2 e3 f3 e4 f4 e5 f5 e6 f6 e7 f7 e8 f8
          try dsimp only
          refine hK.out _ _ kvn29 ?_; clear hK K hHeld; intro hHeld; try simp only [Act.put, List.setIfInBounds_toArray, List.set_cons_zero, List.set_cons_succ]
          refine Tk.W 14 (some 7) (.assign (.tmp 43)) 4 none ?_
          refine wpAnyH_done (by kernel_rfl) ?_ _
          refine NoPanic.normal ?_
          have qq := hHeld.2.2.2.2.2.2.out
          clear hHeld
          go_wp2_with fail
          go_meet
          case rel => exact ⟨X, gK, cK, gO, cO, rfl, _, _, qq.1, RX9, qq.2.2.1, qq.2.2.2, pK.mono (by omega), pO.mono (by omega), (wo_of rfl HC.out hzN hz hbad), by omega, by omega, by omega, by omega, by omega, by omega, by omega⟩
      case rest =>
        obtain ⟨X, gK, cK, gO, cO, rfl, H⟩ := hcut
        obtain ⟨ks, os, stc, RX, RF, RR, pK, pO, hW, n1, n2, n3, n4, n5, n6, n7⟩ := H.out
        clear H q0 zA hz
        go_wp2_with fail
        refine wp_region_noPanic ?_
        refine wp_region_held_drew (S := (fun w' => w'.cell? ⟨w1.heap.size, 0, none⟩ = some (.int .i64 (N : Int)) ∧ w'.cell? ⟨w1.heap.size, 1, none⟩ = some (.int .i64 l) ∧ w'.cell? ⟨w1.heap.size, 2, none⟩ = some (.int .i64 d) ∧ w'.cell? ⟨w1.heap.size, 3, none⟩ = some (.int .i64 r) ∧ w'.cell? ⟨w1.heap.size, 4, none⟩ = some (.int .i64 q) ∧ w'.cell? ⟨w1.heap.size, 5, none⟩ = some (.int .i64 s) ∧ w'.cell? ⟨X, 0, none⟩ = some (.int .i64 (N : Int)) ∧ w'.cell? ⟨X, 1, none⟩ = some (.int .i64 l) ∧ w'.cell? ⟨X, 2, none⟩ = some (.int .i64 d) ∧ w'.cell? ⟨X, 3, none⟩ = some (.int .i64 r) ∧ w'.cell? ⟨X, 4, none⟩ = some (.int .i64 q) ∧ w'.cell? ⟨X, 5, none⟩ = some (.int .i64 s) ∧ w'.cell? ⟨X, 6, none⟩ = some (.slice (some ⟨gK, 0, none⟩) N cK) ∧ w'.cell? ⟨X, 7, none⟩ = some (.slice (some ⟨gO, 0, none⟩) N cO) ∧ w'.cell? ⟨X, 8, none⟩ = some (.int .i64 0) ∧ Hid (St w B p a len cap w' ∧ Rm.Room w' X (c9 N l d r q s (.slice (some ⟨gK, 0, none⟩) N cK) (.slice (some ⟨gO, 0, none⟩) N cO) 0) ∧ Rm.Room w' w1.heap.size [.int .i64 (N : Int), .int .i64 l, .int .i64 d, .int .i64 r, .int .i64 q, .int .i64 s] ∧ Rm.Room w' w.heap.size z9 ∧ Has w' w.heap.size gK 0 N ks ∧ Own w' w.heap.size gO N cO os))) (by kernel_rfl) ⟨RF.drew.cell 0 rfl, RF.drew.cell 1 rfl, RF.drew.cell 2 rfl, RF.drew.cell 3 rfl, RF.drew.cell 4 rfl, RF.drew.cell 5 rfl, RX.drew.cell 0 rfl, RX.drew.cell 1 rfl, RX.drew.cell 2 rfl, RX.drew.cell 3 rfl, RX.drew.cell 4 rfl, RX.drew.cell 5 rfl, RX.drew.cell 6 rfl, RX.drew.cell 7 rfl, RX.drew.cell 8 rfl, ⟨stc.drew', RX.drew, RF.drew, RR.drew, (pK.later (Below.refl _ _).drew pK.2.2.1), (pO.later (Below.refl _ _).drew pO.lt)⟩⟩ (fun hHeld => ?_)
        refine Tk.W 0 (some 44) (.move (.tmp 0)) 83 none ?_
        refine Tk.R 1 (some 45) (.call ⟨.value (.func 93), #[.tmp 44, .const (.int .i64 2)], #[83, 2]⟩) 4 none (fun K hK => ?_)
        go_simp
        refine (l1Once' w B p a len cap 2 (by omega) (by omega) _ hHeld.2.2.2.2.2.2.2.2.2.2.2.2.2.2.2.out.1).mono ?_
        rintro e wB ⟨⟨to2, rfl⟩, sto2, so2⟩
        have ⟨stc, RX, RF, RR, pK, pO⟩ := hHeld.2.2.2.2.2.2.2.2.2.2.2.2.2.2.2.out
        have kvo2 := Tk.kv hK (w := wB) ⟨(room_step RF so2 (by omega)).cell 0 rfl, (room_step RF so2 (by omega)).cell 1 rfl, (room_step RF so2 (by omega)).cell 2 rfl, (room_step RF so2 (by omega)).cell 3 rfl, (room_step RF so2 (by omega)).cell 4 rfl, (room_step RF so2 (by omega)).cell 5 rfl, (room_step RX so2 (by omega)).cell 0 rfl, (room_step RX so2 (by omega)).cell 1 rfl, (room_step RX so2 (by omega)).cell 2 rfl, (room_step RX so2 (by omega)).cell 3 rfl, (room_step RX so2 (by omega)).cell 4 rfl, (room_step RX so2 (by omega)).cell 5 rfl, (room_step RX so2 (by omega)).cell 6 rfl, (room_step RX so2 (by omega)).cell 7 rfl, (room_step RX so2 (by omega)).cell 8 rfl, ⟨sto2, (room_step RX so2 (by omega)), (room_step RF so2 (by omega)), (room_step RR so2 (by omega)), (has_step pK so2 (by omega)), (own_step pO so2 (by omega))⟩⟩
        clear sto2 so2 stc RX RF RR pK pO
        try dsimp only
        refine hK.out _ _ kvo2 ?_; clear hK K hHeld; intro hHeld; try simp only [Act.put, List.setIfInBounds_toArray, List.set_cons_zero, List.set_cons_succ]
        cases to2 with
        | true =>
          refine Tk.W 2 (some 46) (.move (.tmp 45)) 4 none ?_
          refine Tk.W 3 (some 47) (.fieldAddr 31 (.tmp 6) 1) 0 (some (2, true)) ?_
          refine Tk.W 4 (some 48) (.load 29 (.tmp 47)) 29 (some (2, true)) ?_
          refine Tk.W 6 (some 50) (.fieldAddr 28 (.tmp 3) 1) 0 (some (2, true)) ?_
          refine Tk.W 7 (some 51) (.load 2 (.tmp 50)) 2 (some (2, true)) ?_
          refine Tk.R 5 (some 49) (.call ⟨.value (.func 60), #[.tmp 48], #[29]⟩) 2 (some (2, true)) (fun K hK => ?_)
          go_simp
          refine (Wl.l5Bad _ _ _ ks _ hHeld.2.2.2.2.2.2.2.2.2.2.2.2.2.2.2.out.2.2.2.2.1.row (by omega)).mono ?_
          rintro e wB ⟨rfl, rfl⟩
          have kvo8 := hHeld
          try dsimp only
          refine hK.out _ _ kvo8 ?_; clear hK K hHeld; intro hHeld; try simp only [Act.put, List.setIfInBounds_toArray, List.set_cons_zero, List.set_cons_succ]
          refine Tk.W 8 (some 52) (.binOp .lss 2 (.tmp 49) (.tmp 51) 2) 4 (some (2, true)) ?_
          refine Tk.W 9 (some 53) (.pick (.tmp 46) (.tmp 52) (.const (.bool false))) 4 none ?_
          refine wpAnyH_done (by kernel_rfl) ?_ _
          refine NoPanic.normal ?_
          obtain ⟨stc, RX, RF, RR, pK, pO⟩ := hHeld.2.2.2.2.2.2.2.2.2.2.2.2.2.2.2.out
          clear hHeld
          by_cases hbl : (bad ks N : Int) < l
          case neg =>
            have hbl2 : decide ((bad ks N : Int) < l) = false := by simp; omega
            have x0 := RX.cell 0 rfl
            have x1 := RX.cell 1 rfl
            have x2 := RX.cell 2 rfl
            have x3 := RX.cell 3 rfl
            have x4 := RX.cell 4 rfl
            have x5 := RX.cell 5 rfl
            have x6 := RX.cell 6 rfl
            have x7 := RX.cell 7 rfl
            have x8 := RX.cell 8 rfl
            have r0 := RR.cell 0 rfl
            have r1 := RR.cell 1 rfl
            have r2 := RR.cell 2 rfl
            have r3 := RR.cell 3 rfl
            have r4 := RR.cell 4 rfl
            have r5 := RR.cell 5 rfl
            have r6 := RR.cell 6 rfl
            have r7 := RR.cell 7 rfl
            have r8 := RR.cell 8 rfl
            have f0 := RR.froz 0 rfl
            have f1 := RR.froz 1 rfl
            have f2 := RR.froz 2 rfl
            have f3 := RR.froz 3 rfl
            have f4 := RR.froz 4 rfl
            have f5 := RR.froz 5 rfl
            have f6 := RR.froz 6 rfl
            have f7 := RR.froz 7 rfl
            have f8 := RR.froz 8 rfl
            have RQ := Rm.over9 RR (.int .i64 (N : Int)) (.int .i64 l) (.int .i64 d) (.int .i64 r) (.int .i64 q) (.int .i64 s) (.slice (some ⟨gK, 0, none⟩) N cK) (.slice (some ⟨gO, 0, none⟩) N cO) (.int .i64 0)
            have pK9 := (((((((((pK.setOther (q := w.heap.size) (by omega) 0 (.int .i64 (N : Int))).setOther (q := w.heap.size) (by omega) 1 (.int .i64 l)).setOther (q := w.heap.size) (by omega) 2 (.int .i64 d)).setOther (q := w.heap.size) (by omega) 3 (.int .i64 r)).setOther (q := w.heap.size) (by omega) 4 (.int .i64 q)).setOther (q := w.heap.size) (by omega) 5 (.int .i64 s)).setOther (q := w.heap.size) (by omega) 6 (.slice (some ⟨gK, 0, none⟩) N cK)).setOther (q := w.heap.size) (by omega) 7 (.slice (some ⟨gO, 0, none⟩) N cO)).setOther (q := w.heap.size) (by omega) 8 (.int .i64 0))
            have pO9 := (((((((((pO.setOther (q := w.heap.size) (by omega) 0 (.int .i64 (N : Int))).setOther (q := w.heap.size) (by omega) 1 (.int .i64 l)).setOther (q := w.heap.size) (by omega) 2 (.int .i64 d)).setOther (q := w.heap.size) (by omega) 3 (.int .i64 r)).setOther (q := w.heap.size) (by omega) 4 (.int .i64 q)).setOther (q := w.heap.size) (by omega) 5 (.int .i64 s)).setOther (q := w.heap.size) (by omega) 6 (.slice (some ⟨gK, 0, none⟩) N cK)).setOther (q := w.heap.size) (by omega) 7 (.slice (some ⟨gO, 0, none⟩) N cO)).setOther (q := w.heap.size) (by omega) 8 (.int .i64 0))
            have st9 := (((((((((stc.setNew (q := w.heap.size) 0 (by omega) (by omega) (by omega) (.int .i64 (N : Int))).setNew (q := w.heap.size) 1 (by omega) (by omega) (by omega) (.int .i64 l)).setNew (q := w.heap.size) 2 (by omega) (by omega) (by omega) (.int .i64 d)).setNew (q := w.heap.size) 3 (by omega) (by omega) (by omega) (.int .i64 r)).setNew (q := w.heap.size) 4 (by omega) (by omega) (by omega) (.int .i64 q)).setNew (q := w.heap.size) 5 (by omega) (by omega) (by omega) (.int .i64 s)).setNew (q := w.heap.size) 6 (by omega) (by omega) (by omega) (.slice (some ⟨gK, 0, none⟩) N cK)).setNew (q := w.heap.size) 7 (by omega) (by omega) (by omega) (.slice (some ⟨gO, 0, none⟩) N cO)).setNew (q := w.heap.size) 8 (by omega) (by omega) (by omega) (.int .i64 0))
            have nR : w.heap.size ≠ X := by omega
            go_wp2_with fail
            have HD : Hid (Drawn5 w.heap.size _ (N : Int) l d r q s N gK cK gO cO) := ⟨⟨_, _, pK9, pO9⟩, by omega, by omega, n1, hdr.1, hdr.2.1⟩
            have HS := And.intro (St.on hst st9) st9.step
            clear pK9 pO9 st9 RX RR pK pO stc x0 r0 f0 x1 r1 f1 x2 r2 f2 x3 r3 f3 x4 r4 f4 x5 r5 f5 x6 r6 f6 x7 r7 f7 x8 r8 f8
            refine bodyPost_ret (v := wld N l d r q s (.slice (some ⟨gK, 0, none⟩) N cK) (.slice (some ⟨gO, 0, none⟩) N cO) 0) (ret9 Tryz.results91 rfl RQ) rfl ⟨⟨(N : Int), l, d, r, q, s, N, gK, cK, gO, cO, rfl, HD⟩, HS⟩
          case pos =>
            have hbl2 : decide ((bad ks N : Int) < l) = true := by simp; omega
            have hUL : Wl.UL N l d r q s ks N os N 0 = Wl.up ks N := by unfold Wl.UL; rw [hW]; rfl
            have hul := Wl.up_len ks N
            have hU0 : 0 < (Wl.UL N l d r q s ks N os N 0).length := by rw [hUL]; omega
            obtain ⟨ii, eI, hii, -⟩ := Wl.ul_at hU0
            clear hUL hul
            have pKd := pK.later (Below.refl _ wB).drew pK.2.2.1
            have pOd := pO.later (Below.refl _ wB).drew pO.lt
            go_wp2_with fail
            refine wp_region_noPanic ?_
            refine wp_region_held_drew (S := (fun w' => w'.cell? ⟨X, 0, none⟩ = some (.int .i64 (N : Int)) ∧ w'.cell? ⟨X, 1, none⟩ = some (.int .i64 l) ∧ w'.cell? ⟨X, 2, none⟩ = some (.int .i64 d) ∧ w'.cell? ⟨X, 3, none⟩ = some (.int .i64 r) ∧ w'.cell? ⟨X, 4, none⟩ = some (.int .i64 q) ∧ w'.cell? ⟨X, 5, none⟩ = some (.int .i64 s) ∧ w'.cell? ⟨X, 6, none⟩ = some (.slice (some ⟨gK, 0, none⟩) N cK) ∧ w'.cell? ⟨X, 7, none⟩ = some (.slice (some ⟨gO, 0, none⟩) N cO) ∧ w'.cell? ⟨X, 8, none⟩ = some (.int .i64 0) ∧ Hid (St w B p a len cap w' ∧ Rm.Room w' X (c9 N l d r q s (.slice (some ⟨gK, 0, none⟩) N cK) (.slice (some ⟨gO, 0, none⟩) N cO) 0) ∧ Rm.Room w' w.heap.size z9 ∧ (∃ ks, Has w' w.heap.size gK 0 N ks) ∧ Own w' w.heap.size gO N cO os))) (by kernel_rfl) ⟨RX.drew.cell 0 rfl, RX.drew.cell 1 rfl, RX.drew.cell 2 rfl, RX.drew.cell 3 rfl, RX.drew.cell 4 rfl, RX.drew.cell 5 rfl, RX.drew.cell 6 rfl, RX.drew.cell 7 rfl, RX.drew.cell 8 rfl, ⟨stc.drew', RX.drew, RR.drew, ⟨_, pKd⟩, pOd⟩⟩ (fun hHeld => ?_)
            generalize wB.drew = wD at hHeld pKd pOd ⊢
            refine Tk.W 0 (some 54) (.fieldAddr 31 (.tmp 6) 1) 0 none ?_
            refine Tk.W 1 (some 55) (.load 29 (.tmp 54)) 29 none ?_
            refine Tk.W 2 (some 56) (.load 31 (.tmp 6)) 31 none ?_
            refine Tk.R 3 (some 57) (.call ⟨.value (.func 117), #[.tmp 56], #[31]⟩) 29 none (fun K hK => ?_)
            go_simp
            refine (Wl.s_UpIn N l d r q s 0 _ _ N cK N cO ks os _ pKd.row pOd.row (by omega) (by omega)).mono ?_
            rintro e wU ⟨⟨gU, cU, rfl, oU⟩, bu4⟩
            have ⟨stc, RX, RR, ⟨ks2, pK2⟩, pO⟩ := hHeld.2.2.2.2.2.2.2.2.2.out
            have kvu4 := Tk.kv hK (w := wU) ⟨(RX.below bu4).cell 0 rfl, (RX.below bu4).cell 1 rfl, (RX.below bu4).cell 2 rfl, (RX.below bu4).cell 3 rfl, (RX.below bu4).cell 4 rfl, (RX.below bu4).cell 5 rfl, (RX.below bu4).cell 6 rfl, (RX.below bu4).cell 7 rfl, (RX.below bu4).cell 8 rfl, ⟨(stc.below bu4), (RX.below bu4), (RR.below bu4), ⟨_, (pK2.later bu4 pK2.2.2.1)⟩, (pO.later bu4 pO.lt)⟩⟩
            have hcu := (oU.cell 0 hU0).1
            rw [eI] at hcu
            obtain ⟨LU, hLU⟩ : ∃ LU, (Wl.UL N l d r q s ks N os N 0).length = LU := ⟨_, rfl⟩
            rw [hLU] at hU0 ⊢
            have hU1 : (0 : Int) < LU := by omega
            clear oU bu4 stc RX RR pK2 pO pKd pOd hLU eI
            try dsimp only
            refine hK.out _ _ kvu4 ?_; clear hK K hHeld; intro hHeld; try simp only [Act.put, List.setIfInBounds_toArray, List.set_cons_zero, List.set_cons_succ]
            refine Tk.W 4 (some 58) (.indexAddr 29 (.tmp 57) (.const (.int .i64 0))) 0 none ?_
            refine Tk.R 5 (some 59) (.load 2 (.tmp 58)) 2 none (fun K hK => ?_)
            go_simp
            try dsimp only
            refine hK.out _ _ hHeld ?_; clear hK K hHeld; intro hHeld; try simp only [Act.put, List.setIfInBounds_toArray, List.set_cons_zero, List.set_cons_succ]
            refine Tk.W 6 (some 60) (.indexAddr 29 (.tmp 55) (.tmp 59)) 0 none ?_
            refine Tk.R 7 none (.store 2 (.tmp 60) (.const (.int .i64 1))) 0 none (fun K hK => ?_)
            obtain ⟨ks2, pK2⟩ := hHeld.2.2.2.2.2.2.2.2.2.out.2.2.2.1
            have hck := pK2.2.2.2.1 ii hii
            have hfk := pK2.2.2.2.2 ii hii
            rw [Nat.zero_add] at hck hfk
            have hi3 : (ii : Int) < N := by omega
            go_simp
            have ⟨stc, RX, RR, _, pO⟩ := hHeld.2.2.2.2.2.2.2.2.2.out
            have pK3 := has_put pK2 (j := ii) hii 1
            rw [Nat.zero_add] at pK3
            have kvu8 := Tk.kv hK (w := _) ⟨(RX.setOther (q := gK) (by omega) ii (.int .i64 1)).cell 0 rfl, (RX.setOther (q := gK) (by omega) ii (.int .i64 1)).cell 1 rfl, (RX.setOther (q := gK) (by omega) ii (.int .i64 1)).cell 2 rfl, (RX.setOther (q := gK) (by omega) ii (.int .i64 1)).cell 3 rfl, (RX.setOther (q := gK) (by omega) ii (.int .i64 1)).cell 4 rfl, (RX.setOther (q := gK) (by omega) ii (.int .i64 1)).cell 5 rfl, (RX.setOther (q := gK) (by omega) ii (.int .i64 1)).cell 6 rfl, (RX.setOther (q := gK) (by omega) ii (.int .i64 1)).cell 7 rfl, (RX.setOther (q := gK) (by omega) ii (.int .i64 1)).cell 8 rfl, ⟨(stc.setNew (q := gK) ii (by omega) (by omega) (by omega) (.int .i64 1)), (RX.setOther (q := gK) (by omega) ii (.int .i64 1)), (RR.setOther (q := gK) (by omega) ii (.int .i64 1)), ⟨_, pK3⟩, (pO.setOther (q := gK) (by omega) ii (.int .i64 1))⟩⟩
            clear stc RX RR pK3 pK2 pO hck hfk
            try dsimp only
            refine hK.out _ _ kvu8 ?_; clear hK K hHeld; intro hHeld; try simp only [Act.put, List.setIfInBounds_toArray, List.set_cons_zero, List.set_cons_succ]
            refine wpAnyH_done (by kernel_rfl) ?_ _
            refine NoPanic.normal ?_
            obtain ⟨stc, RX, RR, ⟨ks3, pK⟩, pO⟩ := hHeld.2.2.2.2.2.2.2.2.2.out
            clear hHeld
            have x0 := RX.cell 0 rfl
            have x1 := RX.cell 1 rfl
            have x2 := RX.cell 2 rfl
            have x3 := RX.cell 3 rfl
            have x4 := RX.cell 4 rfl
            have x5 := RX.cell 5 rfl
            have x6 := RX.cell 6 rfl
            have x7 := RX.cell 7 rfl
            have x8 := RX.cell 8 rfl
            have r0 := RR.cell 0 rfl
            have r1 := RR.cell 1 rfl
            have r2 := RR.cell 2 rfl
            have r3 := RR.cell 3 rfl
            have r4 := RR.cell 4 rfl
            have r5 := RR.cell 5 rfl
            have r6 := RR.cell 6 rfl
            have r7 := RR.cell 7 rfl
            have r8 := RR.cell 8 rfl
            have f0 := RR.froz 0 rfl
            have f1 := RR.froz 1 rfl
            have f2 := RR.froz 2 rfl
            have f3 := RR.froz 3 rfl
            have f4 := RR.froz 4 rfl
            have f5 := RR.froz 5 rfl
            have f6 := RR.froz 6 rfl
            have f7 := RR.froz 7 rfl
            have f8 := RR.froz 8 rfl
            have RQ := Rm.over9 RR (.int .i64 (N : Int)) (.int .i64 l) (.int .i64 d) (.int .i64 r) (.int .i64 q) (.int .i64 s) (.slice (some ⟨gK, 0, none⟩) N cK) (.slice (some ⟨gO, 0, none⟩) N cO) (.int .i64 0)
            have pK9 := (((((((((pK.setOther (q := w.heap.size) (by omega) 0 (.int .i64 (N : Int))).setOther (q := w.heap.size) (by omega) 1 (.int .i64 l)).setOther (q := w.heap.size) (by omega) 2 (.int .i64 d)).setOther (q := w.heap.size) (by omega) 3 (.int .i64 r)).setOther (q := w.heap.size) (by omega) 4 (.int .i64 q)).setOther (q := w.heap.size) (by omega) 5 (.int .i64 s)).setOther (q := w.heap.size) (by omega) 6 (.slice (some ⟨gK, 0, none⟩) N cK)).setOther (q := w.heap.size) (by omega) 7 (.slice (some ⟨gO, 0, none⟩) N cO)).setOther (q := w.heap.size) (by omega) 8 (.int .i64 0))
            have pO9 := (((((((((pO.setOther (q := w.heap.size) (by omega) 0 (.int .i64 (N : Int))).setOther (q := w.heap.size) (by omega) 1 (.int .i64 l)).setOther (q := w.heap.size) (by omega) 2 (.int .i64 d)).setOther (q := w.heap.size) (by omega) 3 (.int .i64 r)).setOther (q := w.heap.size) (by omega) 4 (.int .i64 q)).setOther (q := w.heap.size) (by omega) 5 (.int .i64 s)).setOther (q := w.heap.size) (by omega) 6 (.slice (some ⟨gK, 0, none⟩) N cK)).setOther (q := w.heap.size) (by omega) 7 (.slice (some ⟨gO, 0, none⟩) N cO)).setOther (q := w.heap.size) (by omega) 8 (.int .i64 0))
            have st9 := (((((((((stc.setNew (q := w.heap.size) 0 (by omega) (by omega) (by omega) (.int .i64 (N : Int))).setNew (q := w.heap.size) 1 (by omega) (by omega) (by omega) (.int .i64 l)).setNew (q := w.heap.size) 2 (by omega) (by omega) (by omega) (.int .i64 d)).setNew (q := w.heap.size) 3 (by omega) (by omega) (by omega) (.int .i64 r)).setNew (q := w.heap.size) 4 (by omega) (by omega) (by omega) (.int .i64 q)).setNew (q := w.heap.size) 5 (by omega) (by omega) (by omega) (.int .i64 s)).setNew (q := w.heap.size) 6 (by omega) (by omega) (by omega) (.slice (some ⟨gK, 0, none⟩) N cK)).setNew (q := w.heap.size) 7 (by omega) (by omega) (by omega) (.slice (some ⟨gO, 0, none⟩) N cO)).setNew (q := w.heap.size) 8 (by omega) (by omega) (by omega) (.int .i64 0))
            have nR : w.heap.size ≠ X := by omega
            go_wp2_with fail
            have HD : Hid (Drawn5 w.heap.size _ (N : Int) l d r q s N gK cK gO cO) := ⟨⟨_, _, pK9, pO9⟩, by omega, by omega, n1, hdr.1, hdr.2.1⟩
            have HS := And.intro (St.on hst st9) st9.step
            clear pK9 pO9 st9 RX RR pK pO stc x0 r0 f0 x1 r1 f1 x2 r2 f2 x3 r3 f3 x4 r4 f4 x5 r5 f5 x6 r6 f6 x7 r7 f7 x8 r8 f8
            refine bodyPost_ret (v := wld N l d r q s (.slice (some ⟨gK, 0, none⟩) N cK) (.slice (some ⟨gO, 0, none⟩) N cO) 0) (ret9 Tryz.results91 rfl RQ) rfl ⟨⟨(N : Int), l, d, r, q, s, N, gK, cK, gO, cO, rfl, HD⟩, HS⟩
        | false =>
          refine Tk.W 2 (some 46) (.move (.tmp 45)) 4 none ?_
          refine Tk.N 3 (some 47) (.fieldAddr 31 (.tmp 6) 1) 0 (some (2, true)) ?_
          refine Tk.N 4 (some 48) (.load 29 (.tmp 47)) 29 (some (2, true)) ?_
          refine Tk.N 5 (some 49) (.call ⟨.value (.func 60), #[.tmp 48], #[29]⟩) 2 (some (2, true)) ?_
          refine Tk.N 6 (some 50) (.fieldAddr 28 (.tmp 3) 1) 0 (some (2, true)) ?_
          refine Tk.N 7 (some 51) (.load 2 (.tmp 50)) 2 (some (2, true)) ?_
          refine Tk.N 8 (some 52) (.binOp .lss 2 (.tmp 49) (.tmp 51) 2) 4 (some (2, true)) ?_
          refine Tk.W 9 (some 53) (.pick (.tmp 46) (.tmp 52) (.const (.bool false))) 4 none ?_
          refine wpAnyH_done (by kernel_rfl) ?_ _
          refine NoPanic.normal ?_
          obtain ⟨stc, RX, RF, RR, pK, pO⟩ := hHeld.2.2.2.2.2.2.2.2.2.2.2.2.2.2.2.out
          clear hHeld
          have x0 := RX.cell 0 rfl
          have x1 := RX.cell 1 rfl
          have x2 := RX.cell 2 rfl
          have x3 := RX.cell 3 rfl
          have x4 := RX.cell 4 rfl
          have x5 := RX.cell 5 rfl
          have x6 := RX.cell 6 rfl
          have x7 := RX.cell 7 rfl
          have x8 := RX.cell 8 rfl
          have r0 := RR.cell 0 rfl
          have r1 := RR.cell 1 rfl
          have r2 := RR.cell 2 rfl
          have r3 := RR.cell 3 rfl
          have r4 := RR.cell 4 rfl
          have r5 := RR.cell 5 rfl
          have r6 := RR.cell 6 rfl
          have r7 := RR.cell 7 rfl
          have r8 := RR.cell 8 rfl
          have f0 := RR.froz 0 rfl
          have f1 := RR.froz 1 rfl
          have f2 := RR.froz 2 rfl
          have f3 := RR.froz 3 rfl
          have f4 := RR.froz 4 rfl
          have f5 := RR.froz 5 rfl
          have f6 := RR.froz 6 rfl
          have f7 := RR.froz 7 rfl
          have f8 := RR.froz 8 rfl
          have RQ := Rm.over9 RR (.int .i64 (N : Int)) (.int .i64 l) (.int .i64 d) (.int .i64 r) (.int .i64 q) (.int .i64 s) (.slice (some ⟨gK, 0, none⟩) N cK) (.slice (some ⟨gO, 0, none⟩) N cO) (.int .i64 0)
          have pK9 := (((((((((pK.setOther (q := w.heap.size) (by omega) 0 (.int .i64 (N : Int))).setOther (q := w.heap.size) (by omega) 1 (.int .i64 l)).setOther (q := w.heap.size) (by omega) 2 (.int .i64 d)).setOther (q := w.heap.size) (by omega) 3 (.int .i64 r)).setOther (q := w.heap.size) (by omega) 4 (.int .i64 q)).setOther (q := w.heap.size) (by omega) 5 (.int .i64 s)).setOther (q := w.heap.size) (by omega) 6 (.slice (some ⟨gK, 0, none⟩) N cK)).setOther (q := w.heap.size) (by omega) 7 (.slice (some ⟨gO, 0, none⟩) N cO)).setOther (q := w.heap.size) (by omega) 8 (.int .i64 0))
          have pO9 := (((((((((pO.setOther (q := w.heap.size) (by omega) 0 (.int .i64 (N : Int))).setOther (q := w.heap.size) (by omega) 1 (.int .i64 l)).setOther (q := w.heap.size) (by omega) 2 (.int .i64 d)).setOther (q := w.heap.size) (by omega) 3 (.int .i64 r)).setOther (q := w.heap.size) (by omega) 4 (.int .i64 q)).setOther (q := w.heap.size) (by omega) 5 (.int .i64 s)).setOther (q := w.heap.size) (by omega) 6 (.slice (some ⟨gK, 0, none⟩) N cK)).setOther (q := w.heap.size) (by omega) 7 (.slice (some ⟨gO, 0, none⟩) N cO)).setOther (q := w.heap.size) (by omega) 8 (.int .i64 0))
          have st9 := (((((((((stc.setNew (q := w.heap.size) 0 (by omega) (by omega) (by omega) (.int .i64 (N : Int))).setNew (q := w.heap.size) 1 (by omega) (by omega) (by omega) (.int .i64 l)).setNew (q := w.heap.size) 2 (by omega) (by omega) (by omega) (.int .i64 d)).setNew (q := w.heap.size) 3 (by omega) (by omega) (by omega) (.int .i64 r)).setNew (q := w.heap.size) 4 (by omega) (by omega) (by omega) (.int .i64 q)).setNew (q := w.heap.size) 5 (by omega) (by omega) (by omega) (.int .i64 s)).setNew (q := w.heap.size) 6 (by omega) (by omega) (by omega) (.slice (some ⟨gK, 0, none⟩) N cK)).setNew (q := w.heap.size) 7 (by omega) (by omega) (by omega) (.slice (some ⟨gO, 0, none⟩) N cO)).setNew (q := w.heap.size) 8 (by omega) (by omega) (by omega) (.int .i64 0))
          have nR : w.heap.size ≠ X := by omega
          go_wp2_with fail
          have HD : Hid (Drawn5 w.heap.size _ (N : Int) l d r q s N gK cK gO cO) := ⟨⟨_, _, pK9, pO9⟩, by omega, by omega, n1, hdr.1, hdr.2.1⟩
          have HS := And.intro (St.on hst st9) st9.step
          clear pK9 pO9 st9 RX RR pK pO stc x0 r0 f0 x1 r1 f1 x2 r2 f2 x3 r3 f3 x4 r4 f4 x5 r5 f5 x6 r6 f6 x7 r7 f7 x8 r8 f8
          refine bodyPost_ret (v := wld N l d r q s (.slice (some ⟨gK, 0, none⟩) N cK) (.slice (some ⟨gO, 0, none⟩) N cO) 0) (ret9 Tryz.results91 rfl RQ) rfl ⟨⟨(N : Int), l, d, r, q, s, N, gK, cK, gO, cO, rfl, HD⟩, HS⟩

end Go.Proofs.YtloicicgcdfgnaaGreat.Dr

namespace Go.Proofs.YtloicicgcdfgnaaGreat.Dr
open Go.ChangeShapes Go.WideShapes Go.ChangeAt Go.RowKit
open Ls (el Row)
open Ow (Has Own ints)
open Wl (KL bad z9 c9 wld WO)
open Cf (cfg CP)
set_option linter.unusedVariables false
set_option linter.unusedSimpArgs false

theorem l5Draw' (w0 : World) (B p : Nat) (a : Option Addr) (len cap : Nat) (w : World) (st : St w0 B p a len cap w) :
    Calls Tryz.prog 91 #[.pointer (some ⟨p, 0, none⟩)] w fun e w' => (∃ (n l d r q s : Int) (k gK cK gO cO : Nat), e = .returned (wld n l d r q s (.slice (some ⟨gK, 0, none⟩) k cK) (.slice (some ⟨gO, 0, none⟩) k cO) 0) ∧ Hid (Drawn5 w.heap.size w' n l d r q s k gK cK gO cO)) ∧ St w0 B p a len cap w' ∧ Step p w w' := l5Draw w0 B p a len cap w st

theorem l4DrawAny' (w0 : World) (B p : Nat) (a : Option Addr) (len cap : Nat) (w : World) (st : St w0 B p a len cap w) :
    Calls Tryz.prog 119 #[.pointer (some ⟨p, 0, none⟩)] w fun e w' => (∃ n l d r q s : Int, e = .returned (cfg n l d r q s)) ∧ St w0 B p a len cap w' ∧ Step p w w' :=
  (l4DrawAny w B p a len cap w st.here).mono fun e w' ⟨h, s⟩ => ⟨h, St.on st.step s, s.step⟩

def GM (w : World) (B p : Nat) (a : Option Addr) (len cap X k gK m gO cO : Nat) (w' : World) : Prop :=
  St w B p a len cap w' ∧ Rm.Room w' w.heap.size z9 ∧ (∃ ks, Has w' w.heap.size gK 0 k ks) ∧ (∃ os, Own w' w.heap.size gO m cO os)
def GN (w : World) (X k gK m gO : Nat) : Prop := 0 < k ∧ k ≤ 17 ∧ 0 < m ∧ m ≤ 17 ∧ gK ≠ gO ∧ X ≠ gK ∧ X ≠ gO ∧ w.heap.size < X ∧ w.heap.size < gK ∧ w.heap.size < gO
section
variable {w W w' : World} {B p : Nat} {a : Option Addr} {len cap X k gK m gO cO : Nat}
theorem GM.step (h : GM w B p a len cap X k gK m gO cO W) (st : St w B p a len cap w') (s : Step p W w') (hp : p < w.heap.size) (hn : GN w X k gK m gO) : GM w B p a len cap X k gK m gO cO w' := by
  obtain ⟨h1, h2, ⟨ks, h3⟩, ⟨os, h4⟩⟩ := h
  have q := hn.2.2.2.2.2.2.2
  exact ⟨st, room_step h2 s (by omega), ⟨ks, has_step h3 s (by omega)⟩, ⟨os, own_step h4 s (by omega)⟩⟩
theorem GM.below (h : GM w B p a len cap X k gK m gO cO W) (hb : Below W.heap.size W w') : GM w B p a len cap X k gK m gO cO w' := by
  obtain ⟨h1, h2, ⟨ks, h3⟩, ⟨os, h4⟩⟩ := h
  exact ⟨h1.below hb, h2.below hb, ⟨ks, h3.later hb h3.2.2.1⟩, ⟨os, h4.later hb h4.lt⟩⟩
theorem GM.store (h : GM w B p a len cap X k gK m gO cO W) (hn : GN w X k gK m gO) (hp : p < w.heap.size) (hB : B ≤ p) (i : Nat) (v : Value) : GM w B p a len cap X k gK m gO cO (W.setCell ⟨X, i, none⟩ v) := by
  obtain ⟨h1, h2, ⟨ks, h3⟩, ⟨os, h4⟩⟩ := h
  obtain ⟨-, -, -, -, -, q2, q3, q4, q5, q6⟩ := hn
  exact ⟨h1.setNew (q := X) i (by omega) (by omega) (by omega) v, h2.setOther (by omega) i v, ⟨ks, h3.setOther (by omega) i v⟩, ⟨os, h4.setOther (by omega) i v⟩⟩
end
def Lit4 (w : World) (g : Nat) : Prop := g < w.heap.size ∧ ∀ j, j < 4 → ∃ v : Int, w.cell? ⟨g, j, none⟩ = some (.int .i64 v)
theorem lit4 (w : World) (a b c d : Int) (t : TypeId) : Lit4 (w.alloc (.cells #[.int .i64 a, .int .i64 b, .int .i64 c, .int .i64 d] t)) w.heap.size := by
  refine ⟨by simp, fun j hj => ?_⟩
  rw [World.cell?_alloc_new]
  rcases (show j = 0 ∨ j = 1 ∨ j = 2 ∨ j = 3 by omega) with rfl | rfl | rfl | rfl
  all_goals exact ⟨_, rfl⟩
theorem Lit4.step {p : Nat} {w w' : World} {g : Nat} (h : Lit4 w g) (s : Step p w w') (hn : g ≠ p) : Lit4 w' g :=
  ⟨Nat.lt_of_lt_of_le h.1 s.size, fun j hj => by
    obtain ⟨v, hv⟩ := h.2 j hj
    exact ⟨v, by rw [s.cell h.1 hn]; exact hv⟩⟩
def Drawn6 (B0 : Nat) (w : World) (n l d r q s t : Int) (k gK cK m gO cO : Nat) : Prop := (∃ ks os, Has w B0 gK 0 k ks ∧ Own w B0 gO m cO os) ∧ 0 < m ∧ m ≤ 17 ∧ k ≤ 17 ∧ 0 < k

set_option maxHeartbeats 16000000 in
set_option maxRecDepth 100000 in
theorem l5DrawAny (w0 : World) (B p : Nat) (a : Option Addr) (len cap : Nat) (w : World) (st : St w0 B p a len cap w) :
    Calls Tryz.prog 94 #[.pointer (some ⟨p, 0, none⟩)] w fun e w' => (∃ (n l d r q s t : Int) (k gK cK m gO cO : Nat), e = .returned (wld n l d r q s (.slice (some ⟨gK, 0, none⟩) k cK) (.slice (some ⟨gO, 0, none⟩) m cO) t) ∧ Hid (Drawn6 w.heap.size w' n l d r q s t k gK cK m gO cO)) ∧ St w0 B p a len cap w' ∧ Step p w w' := by
  have hp := st.lt
  have hB := st.le
  have hst := st.step
  obtain ⟨i0, hi0, hz0, hz1, hz2⟩ := info_parts Ls.info
  have stA := st.here.obj (.cells z9.toArray 31)
  have RR := Rm.Room.new w z9 31
  go_enter Tryz.func94, Tryz.ntmps94
  go_wp2_with fail
  refine (l5Draw w B p a len cap _ stA).mono ?_
  rintro e w1 ⟨⟨n, l, d, r, q, s, k, gK, cK, gO, cO, rfl, HD⟩, st1, s1⟩
  obtain ⟨⟨ks, os, pK, pO⟩, k0, k1, nKO, -, -, -⟩ := HD.out
  clear HD stA
  have z1 := s1.size
  simp at z1
  replace RR := room_step RR s1 (by omega)
  clear s1
  have loK := pK.2.1
  have loO := pO.data.2.1
  simp at loK loO
  have hiK := pK.2.2.1
  have hiO := pO.lt
  have b1 := (Below.refl w1.heap.size w1).alloc (Nat.le_refl _) (.cells (c9 n l d r q s (.slice (some ⟨gK, 0, none⟩) k cK) (.slice (some ⟨gO, 0, none⟩) k cO) 0).toArray 31)
  have RX := Rm.Room.new w1 (c9 n l d r q s (.slice (some ⟨gK, 0, none⟩) k cK) (.slice (some ⟨gO, 0, none⟩) k cO) 0) 31
  have q0 : GM w B p a len cap w1.heap.size k gK k gO cO _ := GM.below ⟨st1, RR, ⟨ks, pK.mono (by simp)⟩, ⟨os, pO.mono (by simp)⟩⟩ b1
  have hn : GN w w1.heap.size k gK k gO := ⟨by omega, by omega, by omega, by omega, by omega, by omega, by omega, by omega, by omega, by omega⟩
  clear b1 RR pK pO st1
  go_wp2_with fail
  refine (l1Once' w B p a len cap 8 (by omega) (by omega) _ q0.1).mono ?_
  rintro e w2 ⟨⟨t, rfl⟩, st2, s2⟩
  replace q0 := q0.step st2 s2 hp hn
  replace RX := room_step RX s2 (by omega)
  clear st2 s2
  obtain ⟨X, hX⟩ : ∃ X, X = w1.heap.size := ⟨_, rfl⟩
  rw [← hX] at RX q0 hn ⊢
  clear hX z1 hiK hiO
  obtain ⟨m, hmk⟩ : ∃ m, m = k := ⟨_, rfl⟩
  have c6 := RX.cell 6 rfl
  go_upto_if 8 with fail
  go_cut [3] from 5 (fun p3 wc => ∃ (n l d r q s t : Int) (k gK cK m gO cO : Nat), p3 = .pointer (some ⟨X, 0, none⟩) ∧ Hid (Rm.Room wc X (c9 n l d r q s (.slice (some ⟨gK, 0, none⟩) k cK) (.slice (some ⟨gO, 0, none⟩) m cO) t) ∧ GM w B p a len cap X k gK m gO cO wc ∧ GN w X k gK m gO))
  case first =>
    cases t with
    | false =>
      go_wp2_with fail
      go_meet
      case rel => exact ⟨n, l, d, r, q, s, 0, k, gK, cK, k, gO, cO, rfl, RX, q0, hn⟩
    | true =>
      have hkk := hn.1
      have hk17 := hn.2.1
      go_wp2_with fail
      refine (l1Below' w B p a len cap k (by omega) (by omega) _ q0.1).mono ?_
      rintro e w3 ⟨⟨i, rfl, i0_, i1_⟩, st3, s3⟩
      obtain ⟨ii, rfl⟩ : ∃ ii : Nat, i = ii := ⟨i.toNat, by omega⟩
      replace q0 := q0.step st3 s3 hp hn
      replace RX := room_step RX s3 (by have := hn.2.2.2.2.2.2.2.1; omega)
      clear st3 s3 c6
      go_wp2_with fail
      refine (l1Below' w B p a len cap 5 (by omega) (by omega) _ q0.1).mono ?_
      rintro e w4 ⟨⟨y, rfl, y0, y1⟩, st4, s4⟩
      replace q0 := q0.step st4 s4 hp hn
      replace RX := room_step RX s4 (by have := hn.2.2.2.2.2.2.2.1; omega)
      clear st4 s4
      have hXp : X ≠ p := by have := hn.2.2.2.2.2.2.2.1; omega
      have hii : ii < k := by omega
      by_cases h0 : y = 0
      · subst h0
        go_wp2_with fail
        refine (l4DrawAny' w B p a len cap _ q0.1).mono ?_
        rintro e w5 ⟨⟨n2, l2, d2, r2, q2, s2, rfl⟩, st5, s5⟩
        replace q0 := q0.step st5 s5 hp hn
        replace RX := room_step RX s5 hXp
        clear st5 s5
        have f0 := RX.froz 0 rfl
        have f1 := RX.froz 1 rfl
        have f2 := RX.froz 2 rfl
        have f3 := RX.froz 3 rfl
        have f4 := RX.froz 4 rfl
        have f5 := RX.froz 5 rfl
        have e0 := RX.cell 0 rfl
        have e1 := RX.cell 1 rfl
        have e2 := RX.cell 2 rfl
        have e3 := RX.cell 3 rfl
        have e4 := RX.cell 4 rfl
        have e5 := RX.cell 5 rfl
        have q6 := ((((((q0.store hn hp hB 0 (.int .i64 n2)).store hn hp hB 1 (.int .i64 l2)).store hn hp hB 2 (.int .i64 d2)).store hn hp hB 3 (.int .i64 r2)).store hn hp hB 4 (.int .i64 q2)).store hn hp hB 5 (.int .i64 s2))
        have RX6 := ((((((RX.set 0 (.int .i64 n2)).set 1 (.int .i64 l2)).set 2 (.int .i64 d2)).set 3 (.int .i64 r2)).set 4 (.int .i64 q2)).set 5 (.int .i64 s2))
        go_wp2_with fail
        go_meet
        case rel => exact ⟨n2, l2, d2, r2, q2, s2, 0, k, gK, cK, k, gO, cO, rfl, RX6, q6, hn⟩
      · have n0 : (y == 0) = false := by simp; omega
        by_cases h1 : y = 1
        · subst h1
          go_wp2_with fail
          refine wp_region_noPanic ?_
          refine wp_region_held_drew (S := (fun w' => w'.cell? ⟨X, 0, none⟩ = some (.int .i64 n) ∧ w'.cell? ⟨X, 1, none⟩ = some (.int .i64 l) ∧ w'.cell? ⟨X, 2, none⟩ = some (.int .i64 d) ∧ w'.cell? ⟨X, 3, none⟩ = some (.int .i64 r) ∧ w'.cell? ⟨X, 4, none⟩ = some (.int .i64 q) ∧ w'.cell? ⟨X, 5, none⟩ = some (.int .i64 s) ∧ w'.cell? ⟨X, 6, none⟩ = some (.slice (some ⟨gK, 0, none⟩) k cK) ∧ w'.cell? ⟨X, 7, none⟩ = some (.slice (some ⟨gO, 0, none⟩) k cO) ∧ w'.cell? ⟨X, 8, none⟩ = some (.int .i64 0) ∧ Hid (Rm.Room w' X (c9 n l d r q s (.slice (some ⟨gK, 0, none⟩) k cK) (.slice (some ⟨gO, 0, none⟩) k cO) 0) ∧ GM w B p a len cap X k gK k gO cO w'))) (by kernel_rfl) ⟨RX.drew.cell 0 rfl, RX.drew.cell 1 rfl, RX.drew.cell 2 rfl, RX.drew.cell 3 rfl, RX.drew.cell 4 rfl, RX.drew.cell 5 rfl, RX.drew.cell 6 rfl, RX.drew.cell 7 rfl, RX.drew.cell 8 rfl, ⟨RX.drew, (q0.below (Below.refl _ _).drew)⟩⟩ (fun hHeld => ?_)
          refine Tk.W 0 (some 23) (.fieldAddr 31 (.tmp 3) 1) 0 none ?_
          refine Tk.W 1 (some 24) (.load 29 (.tmp 23)) 29 none ?_
          refine Tk.W 2 (some 25) (.move (.tmp 4)) 2 none ?_
          refine Tk.W 3 (some 26) (.move (.tmp 0)) 83 none ?_
          refine Tk.R 4 (some 27) (.call ⟨.value (.func 115), #[.tmp 26, .const (.int .i64 (-1)), .const (.int .i64 3)], #[83, 2, 2]⟩) 2 none (fun K hK => ?_)
          go_simp
          refine (l1From' w B p a len cap (-1) 3 (by omega) (by omega) (by omega) _ hHeld.2.2.2.2.2.2.2.2.2.out.2.1).mono ?_
          rintro e w5 ⟨⟨yA, rfl, yA0, yA1⟩, stk5, sk5⟩
          have RXk5 := room_step hHeld.2.2.2.2.2.2.2.2.2.out.1 sk5 hXp
          have qk5 := hHeld.2.2.2.2.2.2.2.2.2.out.2.step stk5 sk5 hp hn
          have kvk5 := Tk.kv hK (w := w5) ⟨RXk5.cell 0 rfl, RXk5.cell 1 rfl, RXk5.cell 2 rfl, RXk5.cell 3 rfl, RXk5.cell 4 rfl, RXk5.cell 5 rfl, RXk5.cell 6 rfl, RXk5.cell 7 rfl, RXk5.cell 8 rfl, ⟨RXk5, qk5⟩⟩
          clear RXk5 qk5 stk5 sk5
          try dsimp only
          refine hK.out _ _ kvk5 ?_; clear hK K hHeld; intro hHeld; try simp only [Act.put, List.setIfInBounds_toArray, List.set_cons_zero, List.set_cons_succ]
          refine Tk.W 5 (some 28) (.indexAddr 29 (.tmp 24) (.tmp 25)) 0 none ?_
          refine Tk.R 6 none (.store 2 (.tmp 28) (.tmp 27)) 0 none (fun K hK => ?_)
          obtain ⟨gs1, gs2, ⟨ks, pK⟩, ⟨os, pO⟩⟩ := hHeld.2.2.2.2.2.2.2.2.2.out.2
          have RXs := hHeld.2.2.2.2.2.2.2.2.2.out.1
          have hck := pK.2.2.2.1 ii hii
          have hfk := pK.2.2.2.2 ii hii
          rw [Nat.zero_add] at hck hfk
          have hi3 : (ii : Int) < k := by omega
          obtain ⟨h1_, h2_, h3_, h4_, g1, g2, g3, g4, g5, g6⟩ := id hn
          go_simp
          have pK3 := has_put pK (j := ii) hii yA
          rw [Nat.zero_add] at pK3
          have RX7 := RXs.setOther (q := gK) (by omega) ii (.int .i64 yA)
          have q7 : GM w B p a len cap X k gK k gO cO _ := ⟨gs1.setNew (q := gK) ii (by omega) (by omega) (by omega) (.int .i64 yA), gs2.setOther (q := gK) (by omega) ii (.int .i64 yA), ⟨_, pK3⟩, ⟨_, pO.setOther (q := gK) (by omega) ii (.int .i64 yA)⟩⟩
          have kvk7 := Tk.kv hK (w := _) ⟨RX7.cell 0 rfl, RX7.cell 1 rfl, RX7.cell 2 rfl, RX7.cell 3 rfl, RX7.cell 4 rfl, RX7.cell 5 rfl, RX7.cell 6 rfl, RX7.cell 7 rfl, RX7.cell 8 rfl, ⟨RX7, q7⟩⟩
          clear pK3 RX7 q7 RXs pK pO gs1 gs2 hck hfk
          try dsimp only
          refine hK.out _ _ kvk7 ?_; clear hK K hHeld; intro hHeld; try simp only [Act.put, List.setIfInBounds_toArray, List.set_cons_zero, List.set_cons_succ]
          refine wpAnyH_done (by kernel_rfl) ?_ _
          refine NoPanic.normal ?_
          obtain ⟨RX9, q9⟩ := hHeld.2.2.2.2.2.2.2.2.2.out
          clear hHeld
          go_wp2_with fail
          go_meet
          case rel => exact ⟨n, l, d, r, q, s, 0, k, gK, cK, k, gO, cO, rfl, RX9, q9, hn⟩
        · have n1 : (y == 1) = false := by simp; omega
          by_cases h2 : y = 2
          · subst h2
            go_wp2_with fail
            refine wp_region_noPanic ?_
            refine wp_region_held_drew (S := (fun w' => w'.cell? ⟨X, 0, none⟩ = some (.int .i64 n) ∧ w'.cell? ⟨X, 1, none⟩ = some (.int .i64 l) ∧ w'.cell? ⟨X, 2, none⟩ = some (.int .i64 d) ∧ w'.cell? ⟨X, 3, none⟩ = some (.int .i64 r) ∧ w'.cell? ⟨X, 4, none⟩ = some (.int .i64 q) ∧ w'.cell? ⟨X, 5, none⟩ = some (.int .i64 s) ∧ w'.cell? ⟨X, 6, none⟩ = some (.slice (some ⟨gK, 0, none⟩) k cK) ∧ w'.cell? ⟨X, 7, none⟩ = some (.slice (some ⟨gO, 0, none⟩) k cO) ∧ w'.cell? ⟨X, 8, none⟩ = some (.int .i64 0) ∧ Hid (Rm.Room w' X (c9 n l d r q s (.slice (some ⟨gK, 0, none⟩) k cK) (.slice (some ⟨gO, 0, none⟩) k cO) 0) ∧ GM w B p a len cap X k gK k gO cO w'))) (by kernel_rfl) ⟨RX.drew.cell 0 rfl, RX.drew.cell 1 rfl, RX.drew.cell 2 rfl, RX.drew.cell 3 rfl, RX.drew.cell 4 rfl, RX.drew.cell 5 rfl, RX.drew.cell 6 rfl, RX.drew.cell 7 rfl, RX.drew.cell 8 rfl, ⟨RX.drew, (q0.below (Below.refl _ _).drew)⟩⟩ (fun hHeld => ?_)
            refine Tk.W 0 (some 31) (.fieldAddr 31 (.tmp 3) 2) 0 none ?_
            refine Tk.W 1 (some 32) (.load 29 (.tmp 31)) 29 none ?_
            refine Tk.W 2 (some 33) (.move (.tmp 4)) 2 none ?_
            refine Tk.W 3 (some 34) (.move (.tmp 0)) 83 none ?_
            refine Tk.W 6 (some 37) (.move (.tmp 0)) 83 none ?_
            refine Tk.R 4 (some 35) (.call ⟨.value (.func 120), #[.tmp 34], #[83]⟩) 2 none (fun K hK => ?_)
            go_simp
            refine (l1Odd' w B p a len cap _ hHeld.2.2.2.2.2.2.2.2.2.out.2.1).mono ?_
            rintro e w5 ⟨⟨yO, rfl, yO0, yO1⟩, sto6, so6⟩
            have RXo6 := room_step hHeld.2.2.2.2.2.2.2.2.2.out.1 so6 hXp
            have qo6 := hHeld.2.2.2.2.2.2.2.2.2.out.2.step sto6 so6 hp hn
            have kvo6 := Tk.kv hK (w := w5) ⟨RXo6.cell 0 rfl, RXo6.cell 1 rfl, RXo6.cell 2 rfl, RXo6.cell 3 rfl, RXo6.cell 4 rfl, RXo6.cell 5 rfl, RXo6.cell 6 rfl, RXo6.cell 7 rfl, RXo6.cell 8 rfl, ⟨RXo6, qo6⟩⟩
            clear RXo6 qo6 sto6
            clear so6
            try dsimp only
            refine hK.out _ _ kvo6 ?_; clear hK K hHeld; intro hHeld; try simp only [Act.put, List.setIfInBounds_toArray, List.set_cons_zero, List.set_cons_succ]
            refine wpAnyH_ready (rs := [5, 7]) (by kernel_rfl) (by simp) ?_
            refine (AllReadyH.cons (o := ⟨some 36, .buildSlice 29 4 #[(0, .const (.int .i64 1000000000000000)), (1, .const (.int .i64 1000000000000001)), (2, .const (.int .i64 (-1000000000000001))), (3, .tmp 35)], 29, _, _, none⟩) rfl (fun K hK => ?_) (AllReadyH.cons (o := ⟨some 38, .call ⟨.value (.func 95), #[.tmp 37, .const (.int .i64 4)], #[83, 2]⟩, 2, _, _, none⟩) rfl (fun K hK => ?_) AllReadyH.nil))
            · go_simp
              have bo7 := (Below.refl w5.heap.size w5).alloc (Nat.le_refl _) (.cells #[.int .i64 1000000000000000, .int .i64 1000000000000001, .int .i64 (-1000000000000001), .int .i64 yO] 2)
              have hl := lit4 w5 1000000000000000 1000000000000001 (-1000000000000001) yO 2
              have lp : p < w5.heap.size := hHeld.2.2.2.2.2.2.2.2.2.out.2.1.lt
              have RXo7 := hHeld.2.2.2.2.2.2.2.2.2.out.1.below bo7
              have qo7 := hHeld.2.2.2.2.2.2.2.2.2.out.2.below bo7
              have kvo7 := Tk.kv hK (w := _) ⟨RXo7.cell 0 rfl, RXo7.cell 1 rfl, RXo7.cell 2 rfl, RXo7.cell 3 rfl, RXo7.cell 4 rfl, RXo7.cell 5 rfl, RXo7.cell 6 rfl, RXo7.cell 7 rfl, RXo7.cell 8 rfl, ⟨RXo7, qo7⟩⟩
              clear RXo7 qo7 bo7
              generalize w5.alloc (.cells #[.int .i64 1000000000000000, .int .i64 1000000000000001, .int .i64 (-1000000000000001), .int .i64 yO] 2) = wD at kvo7 hl ⊢
              generalize w5.heap.size = gl at hl lp ⊢
              try dsimp only
              refine hK.out _ _ kvo7 ?_; clear hK K hHeld; intro hHeld; try simp only [Act.put, List.setIfInBounds_toArray, List.set_cons_zero, List.set_cons_succ]
              refine Tk.R 7 (some 38) (.call ⟨.value (.func 95), #[.tmp 37, .const (.int .i64 4)], #[83, 2]⟩) 2 none (fun K hK => ?_)
              go_simp
              refine (l1Below' w B p a len cap 4 (by omega) (by omega) _ hHeld.2.2.2.2.2.2.2.2.2.out.2.1).mono ?_
              rintro e w6 ⟨⟨yB, rfl, yB0, yB1⟩, sto8, so8⟩
              have RXo8 := room_step hHeld.2.2.2.2.2.2.2.2.2.out.1 so8 hXp
              have qo8 := hHeld.2.2.2.2.2.2.2.2.2.out.2.step sto8 so8 hp hn
              have kvo8 := Tk.kv hK (w := w6) ⟨RXo8.cell 0 rfl, RXo8.cell 1 rfl, RXo8.cell 2 rfl, RXo8.cell 3 rfl, RXo8.cell 4 rfl, RXo8.cell 5 rfl, RXo8.cell 6 rfl, RXo8.cell 7 rfl, RXo8.cell 8 rfl, ⟨RXo8, qo8⟩⟩
              clear RXo8 qo8 sto8
              replace hl := hl.step so8 (by omega)
              obtain ⟨jj, rfl⟩ := Int.eq_ofNat_of_zero_le yB0
              have hjj : jj < 4 := by omega
              obtain ⟨vv, hvv⟩ := hl.2 jj hjj
              clear hl
              clear so8
              try dsimp only
              refine hK.out _ _ kvo8 ?_; clear hK K hHeld; intro hHeld; try simp only [Act.put, List.setIfInBounds_toArray, List.set_cons_zero, List.set_cons_succ]
              refine Tk.W 8 (some 39) (.indexAddr 29 (.tmp 36) (.tmp 38)) 0 none ?_
              refine Tk.R 9 (some 40) (.load 2 (.tmp 39)) 2 none (fun K hK => ?_)
              go_simp
              try dsimp only
              refine hK.out _ _ hHeld ?_; clear hK K hHeld; intro hHeld; try simp only [Act.put, List.setIfInBounds_toArray, List.set_cons_zero, List.set_cons_succ]
              refine Tk.W 10 (some 41) (.indexAddr 29 (.tmp 32) (.tmp 33)) 0 none ?_
              refine Tk.R 11 none (.store 2 (.tmp 41) (.tmp 40)) 0 none (fun K hK => ?_)
              obtain ⟨gs1, gs2, ⟨ks, pK⟩, ⟨os, pO⟩⟩ := hHeld.2.2.2.2.2.2.2.2.2.out.2
              have RXs := hHeld.2.2.2.2.2.2.2.2.2.out.1
              have hck := (pO.cell ii hii).1
              have hfk := (pO.cell ii hii).2
              have hi3 : (ii : Int) < k := by omega
              obtain ⟨h1_, h2_, h3_, h4_, g1, g2, g3, g4, g5, g6⟩ := id hn
              go_simp
              have pO3 := own_put pO (j := ii) hii vv
              have RX7 := RXs.setOther (q := gO) (by omega) ii (.int .i64 vv)
              have q7 : GM w B p a len cap X k gK k gO cO _ := ⟨gs1.setNew (q := gO) ii (by omega) (by omega) (by omega) (.int .i64 vv), gs2.setOther (q := gO) (by omega) ii (.int .i64 vv), ⟨_, pK.setOther (q := gO) (by omega) ii (.int .i64 vv)⟩, ⟨_, pO3⟩⟩
              have kvo12 := Tk.kv hK (w := _) ⟨RX7.cell 0 rfl, RX7.cell 1 rfl, RX7.cell 2 rfl, RX7.cell 3 rfl, RX7.cell 4 rfl, RX7.cell 5 rfl, RX7.cell 6 rfl, RX7.cell 7 rfl, RX7.cell 8 rfl, ⟨RX7, q7⟩⟩
              clear pO3 RX7 q7 RXs pK pO gs1 gs2 hck hfk
              try dsimp only
              refine hK.out _ _ kvo12 ?_; clear hK K hHeld; intro hHeld; try simp only [Act.put, List.setIfInBounds_toArray, List.set_cons_zero, List.set_cons_succ]
              refine wpAnyH_done (by kernel_rfl) ?_ _
              refine NoPanic.normal ?_
              obtain ⟨RX9, q9⟩ := hHeld.2.2.2.2.2.2.2.2.2.out
              clear hHeld
              go_wp2_with fail
              go_meet
              case rel => exact ⟨n, l, d, r, q, s, 0, k, gK, cK, k, gO, cO, rfl, RX9, q9, hn⟩
            · go_simp
              refine (l1Below' w B p a len cap 4 (by omega) (by omega) _ hHeld.2.2.2.2.2.2.2.2.2.out.2.1).mono ?_
              rintro e w6 ⟨⟨yB, rfl, yB0, yB1⟩, sto13, so13⟩
              have RXo13 := room_step hHeld.2.2.2.2.2.2.2.2.2.out.1 so13 hXp
              have qo13 := hHeld.2.2.2.2.2.2.2.2.2.out.2.step sto13 so13 hp hn
              have kvo13 := Tk.kv hK (w := w6) ⟨RXo13.cell 0 rfl, RXo13.cell 1 rfl, RXo13.cell 2 rfl, RXo13.cell 3 rfl, RXo13.cell 4 rfl, RXo13.cell 5 rfl, RXo13.cell 6 rfl, RXo13.cell 7 rfl, RXo13.cell 8 rfl, ⟨RXo13, qo13⟩⟩
              clear RXo13 qo13 sto13
              clear so13
              try dsimp only
              refine hK.out _ _ kvo13 ?_; clear hK K hHeld; intro hHeld; try simp only [Act.put, List.setIfInBounds_toArray, List.set_cons_zero, List.set_cons_succ]
              refine Tk.R 5 (some 36) (.buildSlice 29 4 #[(0, .const (.int .i64 1000000000000000)), (1, .const (.int .i64 1000000000000001)), (2, .const (.int .i64 (-1000000000000001))), (3, .tmp 35)]) 29 none (fun K hK => ?_)
              go_simp
              have bo14 := (Below.refl w6.heap.size w6).alloc (Nat.le_refl _) (.cells #[.int .i64 1000000000000000, .int .i64 1000000000000001, .int .i64 (-1000000000000001), .int .i64 yO] 2)
              have hl := lit4 w6 1000000000000000 1000000000000001 (-1000000000000001) yO 2
              have lp : p < w6.heap.size := hHeld.2.2.2.2.2.2.2.2.2.out.2.1.lt
              have RXo14 := hHeld.2.2.2.2.2.2.2.2.2.out.1.below bo14
              have qo14 := hHeld.2.2.2.2.2.2.2.2.2.out.2.below bo14
              have kvo14 := Tk.kv hK (w := _) ⟨RXo14.cell 0 rfl, RXo14.cell 1 rfl, RXo14.cell 2 rfl, RXo14.cell 3 rfl, RXo14.cell 4 rfl, RXo14.cell 5 rfl, RXo14.cell 6 rfl, RXo14.cell 7 rfl, RXo14.cell 8 rfl, ⟨RXo14, qo14⟩⟩
              clear RXo14 qo14 bo14
              generalize w6.alloc (.cells #[.int .i64 1000000000000000, .int .i64 1000000000000001, .int .i64 (-1000000000000001), .int .i64 yO] 2) = wD at kvo14 hl ⊢
              generalize w6.heap.size = gl at hl lp ⊢
              obtain ⟨jj, rfl⟩ := Int.eq_ofNat_of_zero_le yB0
              have hjj : jj < 4 := by omega
              obtain ⟨vv, hvv⟩ := hl.2 jj hjj
              clear hl
              try dsimp only
              refine hK.out _ _ kvo14 ?_; clear hK K hHeld; intro hHeld; try simp only [Act.put, List.setIfInBounds_toArray, List.set_cons_zero, List.set_cons_succ]
              refine Tk.W 8 (some 39) (.indexAddr 29 (.tmp 36) (.tmp 38)) 0 none ?_
              refine Tk.R 9 (some 40) (.load 2 (.tmp 39)) 2 none (fun K hK => ?_)
              go_simp
              try dsimp only
              refine hK.out _ _ hHeld ?_; clear hK K hHeld; intro hHeld; try simp only [Act.put, List.setIfInBounds_toArray, List.set_cons_zero, List.set_cons_succ]
              refine Tk.W 10 (some 41) (.indexAddr 29 (.tmp 32) (.tmp 33)) 0 none ?_
              refine Tk.R 11 none (.store 2 (.tmp 41) (.tmp 40)) 0 none (fun K hK => ?_)
              obtain ⟨gs1, gs2, ⟨ks, pK⟩, ⟨os, pO⟩⟩ := hHeld.2.2.2.2.2.2.2.2.2.out.2
              have RXs := hHeld.2.2.2.2.2.2.2.2.2.out.1
              have hck := (pO.cell ii hii).1
              have hfk := (pO.cell ii hii).2
              have hi3 : (ii : Int) < k := by omega
              obtain ⟨h1_, h2_, h3_, h4_, g1, g2, g3, g4, g5, g6⟩ := id hn
              go_simp
              have pO3 := own_put pO (j := ii) hii vv
              have RX7 := RXs.setOther (q := gO) (by omega) ii (.int .i64 vv)
              have q7 : GM w B p a len cap X k gK k gO cO _ := ⟨gs1.setNew (q := gO) ii (by omega) (by omega) (by omega) (.int .i64 vv), gs2.setOther (q := gO) (by omega) ii (.int .i64 vv), ⟨_, pK.setOther (q := gO) (by omega) ii (.int .i64 vv)⟩, ⟨_, pO3⟩⟩
              have kvo18 := Tk.kv hK (w := _) ⟨RX7.cell 0 rfl, RX7.cell 1 rfl, RX7.cell 2 rfl, RX7.cell 3 rfl, RX7.cell 4 rfl, RX7.cell 5 rfl, RX7.cell 6 rfl, RX7.cell 7 rfl, RX7.cell 8 rfl, ⟨RX7, q7⟩⟩
              clear pO3 RX7 q7 RXs pK pO gs1 gs2 hck hfk
              try dsimp only
              refine hK.out _ _ kvo18 ?_; clear hK K hHeld; intro hHeld; try simp only [Act.put, List.setIfInBounds_toArray, List.set_cons_zero, List.set_cons_succ]
              refine wpAnyH_done (by kernel_rfl) ?_ _
              refine NoPanic.normal ?_
              obtain ⟨RX9, q9⟩ := hHeld.2.2.2.2.2.2.2.2.2.out
              clear hHeld
              go_wp2_with fail
              go_meet
              case rel => exact ⟨n, l, d, r, q, s, 0, k, gK, cK, k, gO, cO, rfl, RX9, q9, hn⟩
          · have n2 : (y == 2) = false := by simp; omega
            by_cases h3 : y = 3
            · subst h3
              obtain ⟨gs1, gs2, ⟨ks, pK⟩, ⟨os, pO⟩⟩ := q0
              obtain ⟨h1_, h2_, h3_, h4_, g1, g2, g3, g4, g5, g6⟩ := id hn
              have HO : Hid (Own w4 w.heap.size gO k cO os) := pO
              have hzs := gs1.step.size
              clear pO
              have c7 := RX.cell 7 rfl
              have e7 := RX.froz 7 rfl
              go_wp2_with (at_builtin; refine wpList_append_own_at _ rfl (.tmp 45) (.tmp 46) 29 rfl w.heap.size 2 i0 (.int .i64 0) 1 8 Tryz.underlying29 hi0 hz0 hz1 hz2 rfl (by decide) _ _ _ rfl (World.ownsRow.alloc (w := w4) HO.out _) ⟨w4.heap.size, 0, none⟩ 1 1 (ints [(0 : Int)]) rfl rfl (Ow.one_new w4 (0 : Int) _ _ rfl) (Ow.one _) (by unfold maxLen; omega) (by omega) (by simp; omega) ?_; intro v2 w5 hx2 hg2 hn2 ha2; obtain ⟨gP, cP, rfl, oP, hat⟩ := Ow.more_at (W := w4) (t := gO) hx2 (Ow.no_nil hn2 rfl) ha2; replace hg2 : World.grownBy _ w5 (some gO) := hg2; have lX := RX.lt (by simp); have lK := pK.2.2.1; have nP : gP ≠ X ∧ gP ≠ gK ∧ w.heap.size < gP := (by rcases hat with hat | hat <;> (subst hat; omega)); have zz5 := hg2.size; (try simp at zz5); have RX5 := (RX.alloc _).other hg2 (by omega); have gs15 := (gs1.obj _).grown hg2 (fun x hx => (by cases hx; omega)); have gs25 := (gs2.alloc _).other hg2 (by omega); have pK5 := (pK.later ((Below.refl _ w4).alloc (Nat.le_refl _) _) pK.2.2.1).kept hg2 (by omega); clear hx2 hg2 hn2 ha2 hat c7 e7 HO RX gs1 gs2 pK; have c7 := RX5.cell 7 rfl; have e7 := RX5.froz 7 rfl; have RX6 := RX5.set 7 (.slice (some ⟨gP, 0, none⟩) (k + 1) cP); have q6 : GM w B p a len cap X k gK (k + 1) gP cP _ := ⟨gs15.setNew (q := X) 7 (by omega) (by omega) (by omega) (.slice (some ⟨gP, 0, none⟩) (k + 1) cP), gs25.setOther (q := X) (by omega) 7 (.slice (some ⟨gP, 0, none⟩) (k + 1) cP), ⟨_, pK5.setOther (q := X) (by omega) 7 (.slice (some ⟨gP, 0, none⟩) (k + 1) cP)⟩, ⟨_, oP.setOther (q := X) (by omega) 7 (.slice (some ⟨gP, 0, none⟩) (k + 1) cP)⟩⟩; have hn6 : GN w X k gK (k + 1) gP := ⟨by omega, by omega, by omega, by omega, by omega, by omega, by omega, by omega, by omega, by omega⟩; clear RX5 gs15 gs25 pK5 oP)
              go_meet
              case rel => exact ⟨n, l, d, r, q, s, 0, k, gK, cK, k + 1, gP, cP, rfl, RX6, q6, hn6⟩
            · have n3 : (y == 3) = false := by simp; omega
              have h4 : y = 4 := by omega
              subst h4
              go_wp2_with fail
              refine (l1Num' w B p a len cap 1000000 (by omega) (by omega) _ q0.1).mono ?_
              rintro e w5 ⟨⟨tt, rfl⟩, st5, s5⟩
              replace q0 := q0.step st5 s5 hp hn
              replace RX := room_step RX s5 hXp
              clear st5 s5
              have f8 := RX.froz 8 rfl
              have e8 := RX.cell 8 rfl
              have q6 := q0.store hn hp hB 8 (.int .i64 tt)
              have RX6 := RX.set 8 (.int .i64 tt)
              go_wp2_with fail
              go_meet
              case rel => exact ⟨n, l, d, r, q, s, tt, k, gK, cK, k, gO, cO, rfl, RX6, q6, hn⟩
  case rest =>
    clear q0 hn RX c6 hmk
    obtain ⟨n, l, d, r, q, s, t, k, gK, cK, m, gO, cO, rfl, H⟩ := hcut
    obtain ⟨RX, q0, hn⟩ := H.out
    clear H
    obtain ⟨st1, RR, ⟨ks, pK⟩, ⟨os, pO⟩⟩ := q0
    obtain ⟨h1_, h2_, h3_, h4_, g1, g2, g3, g4, g5, g6⟩ := hn
    have x0 := RX.cell 0 rfl
    have x1 := RX.cell 1 rfl
    have x2 := RX.cell 2 rfl
    have x3 := RX.cell 3 rfl
    have x4 := RX.cell 4 rfl
    have x5 := RX.cell 5 rfl
    have x6 := RX.cell 6 rfl
    have x7 := RX.cell 7 rfl
    have x8 := RX.cell 8 rfl
    have r0 := RR.cell 0 rfl
    have r1 := RR.cell 1 rfl
    have r2 := RR.cell 2 rfl
    have r3 := RR.cell 3 rfl
    have r4 := RR.cell 4 rfl
    have r5 := RR.cell 5 rfl
    have r6 := RR.cell 6 rfl
    have r7 := RR.cell 7 rfl
    have r8 := RR.cell 8 rfl
    have f0 := RR.froz 0 rfl
    have f1 := RR.froz 1 rfl
    have f2 := RR.froz 2 rfl
    have f3 := RR.froz 3 rfl
    have f4 := RR.froz 4 rfl
    have f5 := RR.froz 5 rfl
    have f6 := RR.froz 6 rfl
    have f7 := RR.froz 7 rfl
    have f8 := RR.froz 8 rfl
    have RQ := Rm.over9 RR (.int .i64 n) (.int .i64 l) (.int .i64 d) (.int .i64 r) (.int .i64 q) (.int .i64 s) (.slice (some ⟨gK, 0, none⟩) k cK) (.slice (some ⟨gO, 0, none⟩) m cO) (.int .i64 t)
    have pO9 := (((((((((pO.setOther (q := w.heap.size) (by omega) 0 (.int .i64 n)).setOther (q := w.heap.size) (by omega) 1 (.int .i64 l)).setOther (q := w.heap.size) (by omega) 2 (.int .i64 d)).setOther (q := w.heap.size) (by omega) 3 (.int .i64 r)).setOther (q := w.heap.size) (by omega) 4 (.int .i64 q)).setOther (q := w.heap.size) (by omega) 5 (.int .i64 s)).setOther (q := w.heap.size) (by omega) 6 (.slice (some ⟨gK, 0, none⟩) k cK)).setOther (q := w.heap.size) (by omega) 7 (.slice (some ⟨gO, 0, none⟩) m cO)).setOther (q := w.heap.size) (by omega) 8 (.int .i64 t))
    have pK9 := (((((((((pK.setOther (q := w.heap.size) (by omega) 0 (.int .i64 n)).setOther (q := w.heap.size) (by omega) 1 (.int .i64 l)).setOther (q := w.heap.size) (by omega) 2 (.int .i64 d)).setOther (q := w.heap.size) (by omega) 3 (.int .i64 r)).setOther (q := w.heap.size) (by omega) 4 (.int .i64 q)).setOther (q := w.heap.size) (by omega) 5 (.int .i64 s)).setOther (q := w.heap.size) (by omega) 6 (.slice (some ⟨gK, 0, none⟩) k cK)).setOther (q := w.heap.size) (by omega) 7 (.slice (some ⟨gO, 0, none⟩) m cO)).setOther (q := w.heap.size) (by omega) 8 (.int .i64 t))
    have st9 := (((((((((st1.setNew (q := w.heap.size) 0 (by omega) (by omega) (by omega) (.int .i64 n)).setNew (q := w.heap.size) 1 (by omega) (by omega) (by omega) (.int .i64 l)).setNew (q := w.heap.size) 2 (by omega) (by omega) (by omega) (.int .i64 d)).setNew (q := w.heap.size) 3 (by omega) (by omega) (by omega) (.int .i64 r)).setNew (q := w.heap.size) 4 (by omega) (by omega) (by omega) (.int .i64 q)).setNew (q := w.heap.size) 5 (by omega) (by omega) (by omega) (.int .i64 s)).setNew (q := w.heap.size) 6 (by omega) (by omega) (by omega) (.slice (some ⟨gK, 0, none⟩) k cK)).setNew (q := w.heap.size) 7 (by omega) (by omega) (by omega) (.slice (some ⟨gO, 0, none⟩) m cO)).setNew (q := w.heap.size) 8 (by omega) (by omega) (by omega) (.int .i64 t))
    have nR : w.heap.size ≠ X := by omega
    go_wp2_with fail
    have HD : Hid (Drawn6 w.heap.size _ n l d r q s t k gK cK m gO cO) := ⟨⟨_, _, pK9, pO9⟩, by omega, by omega, by omega, by omega⟩
    have HS := And.intro (St.on hst st9) st9.step
    refine bodyPost_ret (v := wld n l d r q s (.slice (some ⟨gK, 0, none⟩) k cK) (.slice (some ⟨gO, 0, none⟩) m cO) t) (ret9 Tryz.results94 rfl RQ) rfl ⟨⟨n, l, d, r, q, s, t, k, gK, cK, m, gO, cO, rfl, HD⟩, HS⟩

end Go.Proofs.YtloicicgcdfgnaaGreat.Dr
