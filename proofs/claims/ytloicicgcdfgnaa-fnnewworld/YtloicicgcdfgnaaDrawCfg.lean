/-
  The draws of the fourth chapter: a config, right or any: each returns, and writes nothing that was there ahead of it but its cursor.
-/
import Derived.Test.YtloicicgcdfgnaaDrawAll
import Derived.Deep.CutRange
import Derived.Deep.DeepCutAuto
namespace Go.Proofs.Ytloicicgcdfgnaa.Dr
open Go.ChangeShapes Go.WideShapes Go.ChangeAt Go.RowKit
open Cf (cfg CP CR AM N1 L1 R1 P1)
set_option linter.unusedVariables false
set_option linter.unusedSimpArgs false

set_option maxHeartbeats 8000000 in
theorem l4Draw (w0 : World) (B p : Nat) (a : Option Addr) (len cap : Nat) (w : World) (st : St w0 B p a len cap w) :
    Calls Try.prog 142 #[.pointer (some ⟨p, 0, none⟩)] w fun e w' => (∃ n l d r q s : Int, e = .returned (cfg n l d r q s) ∧ Hid (CP n l d r q s = 0)) ∧ St w0 B p a len cap w' := by
  have hp := st.lt
  have hB := st.le
  have h0 := st.step.size
  have stA := st.obj (.cells zeros.toArray 28)
  have hR0 := Room.new w zeros 28
  go_enter Try.func142, Try.ntmps142
  go_wp2_with fail
  refine (l1Below' w0 B p a len cap 3 (by omega) (by omega) _ stA).mono ?_
  rintro e w1 ⟨⟨f, rfl, f0, f1⟩, st1, s1⟩
  have z1 := s1.size
  (try simp at z1)
  have hR1 := hR0.step s1 (by omega)
  go_wp2_with fail
  refine (l1Below' w0 B p a len cap 3 (by omega) (by omega) _ st1).mono ?_
  rintro e w2 ⟨⟨x, rfl, x0, x1⟩, st2, s2⟩
  have z2 := s2.size
  (try simp at z2)
  have hR2 := hR1.step s2 (by omega)
  go_wp2_with fail
  refine (l1Below' w0 B p a len cap 10 (by omega) (by omega) _ st2).mono ?_
  rintro e w3 ⟨⟨d, rfl, d0, d1⟩, st3, s3⟩
  have z3 := s3.size
  (try simp at z3)
  have hR3 := hR2.step s3 (by omega)
  go_wp2_with fail
  refine (l1Below' w0 B p a len cap 10 (by omega) (by omega) _ st3).mono ?_
  rintro e w4 ⟨⟨r, rfl, r0, r1⟩, st4, s4⟩
  have z4 := s4.size
  (try simp at z4)
  have hR4 := hR3.step s4 (by omega)
  go_wp2_with fail
  refine (l1Below' w0 B p a len cap 9 (by omega) (by omega) _ st4).mono ?_
  rintro e w5 ⟨⟨v, rfl, v0, v1⟩, st5, s5⟩
  have z5 := s5.size
  (try simp at z5)
  have hR5 := hR4.step s5 (by omega)
  have hx5 := st5.lt
  have stX := st5.obj (.cells (nums (3 * f + 1 + x) f d r 0 (2 + v)).toArray 28)
  have hX0 := Room.new w5 (nums (3 * f + 1 + x) f d r 0 (2 + v)) 28
  have hR6 := hR5.alloc (.cells (nums (3 * f + 1 + x) f d r 0 (2 + v)).toArray 28)
  clear st1 st2 st3 st4 stA hR1 hR2 hR3 hR4 hR0 s1 s2 s3 s4 s5
  go_wp2_with fail
  refine (l1Once' w0 B p a len cap 12 (by omega) (by omega) _ stX).mono ?_
  rintro e w6 ⟨⟨t, rfl⟩, st6, s6⟩
  have z6 := s6.size
  (try simp at z6)
  have hR7 := hR6.step s6 (by omega)
  have hX1 := hX0.step s6 (by omega)
  have y0 := hX1.cell 0 rfl
  have y1 := hX1.cell 1 rfl
  have y2 := hX1.cell 2 rfl
  have y3 := hX1.cell 3 rfl
  have y4 := hX1.cell 4 rfl
  have y5 := hX1.cell 5 rfl
  have g0 := hX1.froz 0 rfl
  have g1 := hX1.froz 1 rfl
  have g2 := hX1.froz 2 rfl
  have g3 := hX1.froz 3 rfl
  have g4 := hX1.froz 4 rfl
  have g5 := hX1.froz 5 rfl
  go_upto_if 23 with fail
  go_cut [4] (fun p4 wc => p4 = .pointer (some ⟨w5.heap.size, 0, none⟩) ∧ w5.heap.size < wc.heap.size ∧ ∃ n l : Int, (1 ≤ n ∧ n ≤ 16 ∧ 0 ≤ l ∧ 3 * l + 1 ≤ n) ∧ Hid (St w0 B p a len cap wc ∧ Room wc w5.heap.size (nums n l d r 0 (2 + v)) ∧ Room wc w.heap.size zeros))
  case first =>
    cases t with
    | true =>
      have st7 := (st6.setNew (q := w5.heap.size) 0 (by omega) (by omega) (by omega) (.int .i64 16)).setNew (q := w5.heap.size) 1 (by omega) (by omega) (by omega) (.int .i64 5)
      have hX2 := (hX1.set 0 (.int .i64 16)).set 1 (.int .i64 5)
      have hR8 := (hR7.setOther (q := w5.heap.size) (by omega) 0 (.int .i64 16)).setOther (q := w5.heap.size) (by omega) 1 (.int .i64 5)
      go_wp2_with fail
      go_meet
      case rel => exact ⟨rfl, by simp [World.setCell]; omega, 16, 5, by omega, st7, hX2, hR8⟩
    | false =>
      go_wp2_with fail
      go_meet
      case rel => exact ⟨rfl, by omega, _, _, by omega, st6, hX1, hR7⟩
  case rest =>
    obtain ⟨rfl, zc, n, l, ⟨n1, n2, l1, l2⟩, H⟩ := hcut
    obtain ⟨st7, hX2, hR8⟩ := H.out
    clear H st6 hX1 hR7 hX0 hR6 stX st5 hR5 s6 y0 g0 y1 g1 y2 g2 y3 g3 y4 g4 y5 g5
    go_wp2_with fail
    refine (l1Once' w0 B p a len cap 12 (by omega) (by omega) _ st7).mono ?_
    rintro e w8 ⟨⟨t, rfl⟩, st8, s8⟩
    have z8 := s8.size
    (try simp at z8)
    have hR9 := hR8.step s8 (by omega)
    have hX3 := hX2.step s8 (by omega)
    have y0 := hX3.cell 0 rfl
    have y1 := hX3.cell 1 rfl
    have y2 := hX3.cell 2 rfl
    have y3 := hX3.cell 3 rfl
    have y4 := hX3.cell 4 rfl
    have y5 := hX3.cell 5 rfl
    have g0 := hX3.froz 0 rfl
    have g1 := hX3.froz 1 rfl
    have g2 := hX3.froz 2 rfl
    have g3 := hX3.froz 3 rfl
    have g4 := hX3.froz 4 rfl
    have g5 := hX3.froz 5 rfl
    go_upto_if 27 with fail
    go_cut [4] (fun p4 wd => p4 = .pointer (some ⟨w5.heap.size, 0, none⟩) ∧ w5.heap.size < wd.heap.size ∧ ∃ d s : Int, (0 ≤ d ∧ d ≤ 1000000 ∧ 2 ≤ s ∧ s ≤ 100000) ∧ Hid (St w0 B p a len cap wd ∧ Room wd w5.heap.size (nums n l d r 0 s) ∧ Room wd w.heap.size zeros))
    case first =>
      cases t with
      | true =>
        have st9 := (st8.setNew (q := w5.heap.size) 2 (by omega) (by omega) (by omega) (.int .i64 1000000)).setNew (q := w5.heap.size) 5 (by omega) (by omega) (by omega) (.int .i64 100000)
        have hX4 := (hX3.set 2 (.int .i64 1000000)).set 5 (.int .i64 100000)
        have hRA := (hR9.setOther (q := w5.heap.size) (by omega) 2 (.int .i64 1000000)).setOther (q := w5.heap.size) (by omega) 5 (.int .i64 100000)
        go_wp2_with fail
        go_meet
        case rel => exact ⟨rfl, by simp [World.setCell]; omega, 1000000, 100000, by omega, st9, hX4, hRA⟩
      | false =>
        go_wp2_with fail
        go_meet
        case rel => exact ⟨rfl, by omega, _, _, by omega, st8, hX3, hR9⟩
    case rest =>
      obtain ⟨rfl, zd, d, s, ⟨d1, d2, s1, s2⟩, H⟩ := hcut
      obtain ⟨st9, hX4, hRA⟩ := H.out
      clear H st8 hX3 hR9 st7 hX2 hR8 s8 y0 g0 y1 g1 y2 g2 y3 g3 y4 g4 y5 g5
      have hC : CR n l d r s = 0 := Cf.cr_zero.2 ⟨Cf.n1_iff.2 ⟨by omega, by omega⟩, Cf.l1_iff.2 ⟨by omega, by omega⟩, Cf.r1_iff.2 ⟨⟨by omega, by omega⟩, ⟨by omega, by omega⟩, by omega, by omega⟩⟩
      have hA : AM n l d r s = 4 * d + 5 * r + 2 := if_pos hC
      have q1 := Cf.prod (g := 4 * d + 5 * r + 2) (s := s) (by omega) (by omega) (by omega) (by omega)
      obtain ⟨G, hG⟩ : ∃ G, 4 * d + 5 * r + 2 = G := ⟨_, rfl⟩
      rw [hG] at hA q1
      obtain ⟨Q, hQ⟩ : ∃ Q, G * s = Q := ⟨_, rfl⟩
      rw [hQ] at q1
      obtain ⟨Q0, Q1⟩ := q1
      have HP : Hid (∀ y : Int, 0 ≤ y → y < 100 → CP n l d r (Q + y) s = 0) := fun y y0 y1 => right (by omega) (by omega) (by omega) (by omega) (by omega) (by omega) (by omega) (by omega) (by omega) (by omega) y0 y1 (by rw [hG, hQ])
      clear hG hC
      have hw1 : IntKind.i64.wrap Q = Q := by rw [IntKind.wrap_i64]; omega
      have y0 := hX4.cell 0 rfl
      have y1 := hX4.cell 1 rfl
      have y2 := hX4.cell 2 rfl
      have y3 := hX4.cell 3 rfl
      have y4 := hX4.cell 4 rfl
      have y5 := hX4.cell 5 rfl
      go_wp2_with fail
      go_region_with (first | (go_at_call 144; refine (Cf.s_AdjustMost _ _ _ _ _ _ _).mono ?_; rintro e wA ⟨rfl, hbA⟩; have stB : St w0 B p a len cap wA := (by first | exact st9.below hbA | exact st9.drew'.below hbA); have hXB : Room wA w5.heap.size (nums n l d r 0 s) := (by first | exact hX4.below hbA | exact hX4.drew.below hbA); have hRB : Room wA w.heap.size zeros := (by first | exact hRA.below hbA | exact hRA.drew.below hbA); have zB := hbA.size; (try simp at zB); rw [hA]; have u0x := hXB.cell 0 rfl; have u1x := hXB.cell 1 rfl; have u2x := hXB.cell 2 rfl; have u3x := hXB.cell 3 rfl; have u4x := hXB.cell 4 rfl; have u5x := hXB.cell 5 rfl) | (go_at_call 117; refine (l1Below' w0 B p a len cap 100 (by omega) (by omega) _ (by first | exact stB | exact stB.drew')).mono ?_; rintro e wC ⟨⟨y, rfl, yy0, yy1⟩, stC, sC⟩; have hXC := hXB.step (w1 := wC) (by first | exact sC | exact (Step.refl _ _).drew.trans sC) (by omega); have hRC := hRB.step (w1 := wC) (by first | exact sC | exact (Step.refl _ _).drew.trans sC) (by omega); have zC := sC.size; (try simp at zC); have hw2 : IntKind.i64.wrap (Q + y) = Q + y := (by rw [IntKind.wrap_i64]; omega); have v0x := hXC.cell 0 rfl; have v1x := hXC.cell 1 rfl; have v2x := hXC.cell 2 rfl; have v3x := hXC.cell 3 rfl; have v4x := hXC.cell 4 rfl; have v5x := hXC.cell 5 rfl; have vg := hXC.froz 4 rfl))
      all_goals
        have hXD := hXC.set 4 (.int .i64 (Q + y))
        simp only [List.set_cons_zero, List.set_cons_succ] at hXD
        have hRD := hRC.setOther (q := w5.heap.size) (by omega) 4 (.int .i64 (Q + y))
        have stD := stC.setNew (q := w5.heap.size) 4 (by omega) (by omega) (by omega) (.int .i64 (Q + y))
        (try simp only [hw1, hw2])
        generalize wC.setCell ⟨w5.heap.size, 4, none⟩ (.int .i64 (Q + y)) = wD at hXD hRD stD ⊢
        clear stC sC hXC hRC hXB hRB stB hbA hA hw1 hw2 vg u0x v0x u1x v1x u2x v2x u3x v3x u4x v4x u5x v5x
        have y0d := hXD.cell 0 rfl
        have y1d := hXD.cell 1 rfl
        have y2d := hXD.cell 2 rfl
        have y3d := hXD.cell 3 rfl
        have y4d := hXD.cell 4 rfl
        have y5d := hXD.cell 5 rfl
        have r0d := hRD.cell 0 rfl
        have r1d := hRD.cell 1 rfl
        have r2d := hRD.cell 2 rfl
        have r3d := hRD.cell 3 rfl
        have r4d := hRD.cell 4 rfl
        have r5d := hRD.cell 5 rfl
        have f0d := hRD.froz 0 rfl
        have f1d := hRD.froz 1 rfl
        have f2d := hRD.froz 2 rfl
        have f3d := hRD.froz 3 rfl
        have f4d := hRD.froz 4 rfl
        have f5d := hRD.froz 5 rfl
        go_wp2_with fail
        have F6 := hRD.six (.int .i64 n) (.int .i64 l) (.int .i64 d) (.int .i64 r) (.int .i64 (Q + y)) (.int .i64 s)
        refine bodyPost_ret (v := cfg n l d r (Q + y) s) (by simp [results, Try.results142, go_sem, F6.cell 0 rfl, F6.cell 1 rfl, F6.cell 2 rfl, F6.cell 3 rfl, F6.cell 4 rfl, F6.cell 5 rfl]) rfl ⟨⟨_, _, _, _, _, _, rfl, HP.out y yy0 yy1⟩, stD.six (by omega) (by omega) (by omega) _ _ _ _ _ _⟩

end Go.Proofs.Ytloicicgcdfgnaa.Dr
