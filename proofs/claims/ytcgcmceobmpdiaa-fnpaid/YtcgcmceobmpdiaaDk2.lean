/-
  Clocks that are drawn: spec.l8Draw, spec.l8DrawAt, spec.DrawPaidWhen, spec.DrawCorrected.
-/
import Derived.Test.YtcgcmceobmpdiaaDk
namespace Go.Proofs.Ytcgcmceobmpdiaa.Dr
open Go.ChangeShapes Go.WideShapes Go.ChangeAt Go.RowKit
open Ck (clk c3)
set_option linter.unusedVariables false
set_option linter.unusedSimpArgs false

theorem l1From' (w0 : World) (B p : Nat) (a : Option Addr) (len cap : Nat) (lo hi : Int) (h1 : lo ≤ hi) (h2 : -4000000000 ≤ lo) (h3 : hi ≤ 4000000000) (w : World) (st : St w0 B p a len cap w) :
    Calls Try.prog 41 #[.pointer (some ⟨p, 0, none⟩), .int .i64 lo, .int .i64 hi] w fun e w' => (∃ x : Int, e = .returned (.int .i64 x) ∧ lo ≤ x ∧ x ≤ hi) ∧ St w0 B p a len cap w' ∧ Step p w w' :=
  (l1From w B p a len cap lo hi h1 h2 h3 w st.here).mono fun e w' ⟨h, s⟩ => ⟨h, St.on st.step s, s.step⟩

/-- A cursor, a clock, and a result's cells. -/
structure Kc (w : World) (B p : Nat) (a : Option Addr) (len cap r q : Nat) (h v o : Int) (w' : World) : Prop where
  st : St w B p a len cap w'
  R : Rm.Room w' q (c3 h v o)
  Q : Rm.Room w' r (c3 0 0 0)
  np : p < w.heap.size ∧ B ≤ p
  lr : w.heap.size ≤ r
  lq : w.heap.size ≤ q
  ne : r ≠ q
section
variable {w : World} {B p : Nat} {a : Option Addr} {len cap r q : Nat} {h v o : Int} {w1 w2 : World}
theorem Kc.below (z : Kc w B p a len cap r q h v o w1) (b : Below w1.heap.size w1 w2) : Kc w B p a len cap r q h v o w2 := ⟨z.st.below b, z.R.below b, z.Q.below b, z.np, z.lr, z.lq, z.ne⟩
theorem Kc.step (z : Kc w B p a len cap r q h v o w1) (s : St w B p a len cap w2) (t : Step p w1 w2) : Kc w B p a len cap r q h v o w2 :=
  have n := z.np; have l1 := z.lr; have l2 := z.lq
  ⟨s, z.R.block (t.block q (z.R.lt (by simp)) (by omega)), z.Q.block (t.block r (z.Q.lt (by simp)) (by omega)), z.np, z.lr, z.lq, z.ne⟩
theorem Kc.set0 (z : Kc w B p a len cap r q h v o w1) (x : Int) : Kc w B p a len cap r q x v o (w1.setCell ⟨q, 0, none⟩ (.int .i64 x)) :=
  have n := z.np; have l2 := z.lq
  ⟨z.st.setNew 0 z.lq (by omega) (by omega) _, z.R.set 0 _, z.Q.setOther (Ne.symm z.ne) 0 _, z.np, z.lr, z.lq, z.ne⟩
theorem Kc.set1 (z : Kc w B p a len cap r q h v o w1) (x : Int) : Kc w B p a len cap r q h x o (w1.setCell ⟨q, 1, none⟩ (.int .i64 x)) :=
  have n := z.np; have l2 := z.lq
  ⟨z.st.setNew 1 z.lq (by omega) (by omega) _, z.R.set 1 _, z.Q.setOther (Ne.symm z.ne) 1 _, z.np, z.lr, z.lq, z.ne⟩
theorem Kc.set2 (z : Kc w B p a len cap r q h v o w1) (x : Int) : Kc w B p a len cap r q h v x (w1.setCell ⟨q, 2, none⟩ (.int .i64 x)) :=
  have n := z.np; have l2 := z.lq
  ⟨z.st.setNew 2 z.lq (by omega) (by omega) _, z.R.set 2 _, z.Q.setOther (Ne.symm z.ne) 2 _, z.np, z.lr, z.lq, z.ne⟩
theorem Kc.over (z : Kc w B p a len cap r q h v o w1) (x y t : Int) : St w B p a len cap (((w1.setCell ⟨r, 0, none⟩ (.int .i64 x)).setCell ⟨r, 1, none⟩ (.int .i64 y)).setCell ⟨r, 2, none⟩ (.int .i64 t)) ∧ Rm.Room (((w1.setCell ⟨r, 0, none⟩ (.int .i64 x)).setCell ⟨r, 1, none⟩ (.int .i64 y)).setCell ⟨r, 2, none⟩ (.int .i64 t)) r (c3 x y t) :=
  have n := z.np; have l2 := z.lr
  ⟨((z.st.setNew 0 z.lr (by omega) (by omega) _).setNew 1 z.lr (by omega) (by omega) _).setNew 2 z.lr (by omega) (by omega) _, Ck.over3 z.Q _ _ _⟩
theorem Kc.drew (z : Kc w B p a len cap r q h v o w1) : Kc w B p a len cap r q h v o w1.drew := z.below (Below.refl _ _).drew
end

theorem ret4 {fn : Func} {ts : Array Value} {W : World} {R i q1 q2 : Nat} {a b c : Int} {u v : Value} (hf : fn.results = #[.cell i 29, .tmp q1, .tmp q2]) (h2 : ts[i]? = some (.pointer (some ⟨R, 0, none⟩))) (h3 : ts[q1]? = some u) (h4 : ts[q2]? = some v) (h : Rm.Room W R (c3 a b c)) :
    (results fn ts).run Try.prog W = .ok (.tuple #[clk a b c, u, v]) W := by
  have q0 := h.cell 0 rfl
  have q1 := h.cell 1 rfl
  have q2 := h.cell 2 rfl
  simp [results, hf, h2, h3, h4, go_sem, q0, q1, q2]
theorem ret5 {fn : Func} {ts : Array Value} {W : World} {R i q1 q2 q3 : Nat} {a b c : Int} {u v x : Value} (hf : fn.results = #[.cell i 29, .tmp q1, .tmp q2, .tmp q3]) (h2 : ts[i]? = some (.pointer (some ⟨R, 0, none⟩))) (h3 : ts[q1]? = some u) (h4 : ts[q2]? = some v) (h5 : ts[q3]? = some x) (h : Rm.Room W R (c3 a b c)) :
    (results fn ts).run Try.prog W = .ok (.tuple #[clk a b c, u, v, x]) W := by
  have q0 := h.cell 0 rfl
  have q1 := h.cell 1 rfl
  have q2 := h.cell 2 rfl
  simp [results, hf, h2, h3, h4, h5, go_sem, q0, q1, q2]

set_option maxHeartbeats 8000000 in
theorem l8Draw (w0 : World) (B p : Nat) (a : Option Addr) (len cap : Nat) (w : World) (st : St w0 B p a len cap w) :
    Calls Try.prog 35 #[.pointer (some ⟨p, 0, none⟩)] w fun e w' => (∃ h v o s : Int, e = .returned (.tuple #[clk h v o, .int .i64 s])) ∧ St w B p a len cap w' := by
  have hl0 := st.lt
  have hle := st.le
  have RR := Rm.Room.new w (c3 0 0 0) 29
  have s1 := st.here.obj (.cells #[.int .i64 0, .int .i64 0, .int .i64 0] 29)
  go_enter Try.func35, Try.ntmps35
  go_wp2_with fail
  refine (l1Below' w B p a len cap 100 (by omega) (by omega) _ s1).mono ?_
  rintro e w2 ⟨⟨h, rfl, h0, h1⟩, s2, p2⟩
  replace RR := RR.block (p2.block _ (RR.lt (by simp)) (by omega))
  go_wp2_with fail
  refine (l1From' w B p a len cap (-100) 100 (by omega) (by omega) (by omega) _ s2).mono ?_
  rintro e w3 ⟨⟨v, rfl, v0, v1⟩, s3, p3⟩
  replace RR := RR.block (p3.block _ (RR.lt (by simp)) (by omega))
  go_wp2_with fail
  refine (l1From' w B p a len cap (-12) 12 (by omega) (by omega) (by omega) _ s3).mono ?_
  rintro e w4 ⟨⟨o, rfl, o0, o1⟩, s4, p4⟩
  replace RR := RR.block (p4.block _ (RR.lt (by simp)) (by omega))
  have l4 := RR.lt (by simp)
  have NK : Kc w B p a len cap w.heap.size w4.heap.size h v o (w4.alloc (.cells #[.int .i64 h, .int .i64 v, .int .i64 o] 29)) := ⟨s4.obj _, Rm.Room.new w4 (c3 h v o) 29, RR.alloc _, ⟨hl0, hle⟩, Nat.le_refl _, by omega, by omega⟩
  clear s1 s2 s3 s4 p2 p3 p4 RR
  go_wp2_with fail
  generalize (w4.alloc (.cells #[.int .i64 h, .int .i64 v, .int .i64 o] 29)) = w5 at NK ⊢
  refine (l1Below' w B p a len cap 8 (by omega) (by omega) _ NK.st).mono ?_
  rintro e w6 ⟨⟨x, rfl, x0, x1⟩, sx, px⟩
  replace NK := NK.step sx px
  clear sx px
  go_wp2_with fail
  refine (l1Once' w B p a len cap 6 (by omega) (by omega) _ NK.st).mono ?_
  rintro e w7 ⟨⟨t, rfl⟩, sx, px⟩
  replace NK := NK.step sx px
  clear sx px
  cases t with
  | false =>
    have c0 := NK.R.cell 0 rfl
    have c1 := NK.R.cell 1 rfl
    have c2 := NK.R.cell 2 rfl
    have d0 := NK.Q.cell 0 rfl
    have d1 := NK.Q.cell 1 rfl
    have d2 := NK.Q.cell 2 rfl
    have f0 := NK.Q.froz 0 rfl
    have f1 := NK.Q.froz 1 rfl
    have f2 := NK.Q.froz 2 rfl
    go_wp2_with fail
    obtain ⟨sz, rz⟩ := NK.over h v o
    refine bodyPost_ret (v := .tuple #[clk h v o, .int .i64 (2 + x)]) (Ck.ret3 Try.results35 rfl rfl rz) rfl ⟨⟨h, v, o, (2 + x), rfl⟩, sz⟩
  | true =>
    go_wp2_with fail
    refine (l1Odd' w B p a len cap _ NK.st).mono ?_
    rintro e w8 ⟨⟨y, rfl, y0, y1⟩, sx, px⟩
    replace NK := NK.step sx px
    clear sx px
    go_wp2_with fail
    have b9 : Below w8.heap.size w8 (w8.alloc (.cells #[.int .i64 (1000000000000000), .int .i64 (999999999999999), .int .i64 (-1000000000000000), .int .i64 (1000000000000001), .int .i64 (-1), .int .i64 (y)] 2)) := (Below.refl _ w8).alloc (Nat.le_refl _) _
    refine (l1Below' w B p a len cap 6 (by omega) (by omega) _ (NK.below b9).st).mono ?_
    rintro e w9 ⟨⟨k, rfl, k0, k1⟩, sx, px⟩
    obtain ⟨k, rfl⟩ := Int.eq_ofNat_of_zero_le k0
    have hc := lit_cell NK.st px k
    replace NK := (NK.below b9).step sx px
    clear sx px b9
    obtain ⟨u, hu⟩ : ∃ u : Int, w9.cell? ⟨w8.heap.size, k, none⟩ = some (.int .i64 u) := by
      rw [hc]
      rcases (show k = 0 ∨ k = 1 ∨ k = 2 ∨ k = 3 ∨ k = 4 ∨ k = 5 by omega) with rfl | rfl | rfl | rfl | rfl | rfl
      all_goals exact ⟨_, rfl⟩
    clear hc
    go_wp2_with fail
    clear hu
    refine (l1Below' w B p a len cap 4 (by omega) (by omega) _ NK.st).mono ?_
    rintro e wz ⟨⟨m, rfl, m0, m1⟩, sx, px⟩
    replace NK := NK.step sx px
    clear sx px
    by_cases hm0 : m = 0
    · subst hm0
      have g0 := NK.R.cell 0 rfl
      have g1 := NK.R.froz 0 rfl
      replace NK := NK.set0 u
      have c0 := NK.R.cell 0 rfl
      have c1 := NK.R.cell 1 rfl
      have c2 := NK.R.cell 2 rfl
      have d0 := NK.Q.cell 0 rfl
      have d1 := NK.Q.cell 1 rfl
      have d2 := NK.Q.cell 2 rfl
      have f0 := NK.Q.froz 0 rfl
      have f1 := NK.Q.froz 1 rfl
      have f2 := NK.Q.froz 2 rfl
      go_wp2_with fail
      clear g0 g1
      obtain ⟨sz, rz⟩ := NK.over u v o
      refine bodyPost_ret (v := .tuple #[clk u v o, .int .i64 (2 + x)]) (Ck.ret3 Try.results35 rfl rfl rz) rfl ⟨⟨u, v, o, (2 + x), rfl⟩, sz⟩
    · have n0 : (m == 0) = false := by simp; omega
      by_cases hm1 : m = 1
      · subst hm1
        have g0 := NK.R.cell 1 rfl
        have g1 := NK.R.froz 1 rfl
        replace NK := NK.set1 u
        have c0 := NK.R.cell 0 rfl
        have c1 := NK.R.cell 1 rfl
        have c2 := NK.R.cell 2 rfl
        have d0 := NK.Q.cell 0 rfl
        have d1 := NK.Q.cell 1 rfl
        have d2 := NK.Q.cell 2 rfl
        have f0 := NK.Q.froz 0 rfl
        have f1 := NK.Q.froz 1 rfl
        have f2 := NK.Q.froz 2 rfl
        go_wp2_with fail
        clear g0 g1
        obtain ⟨sz, rz⟩ := NK.over h u o
        refine bodyPost_ret (v := .tuple #[clk h u o, .int .i64 (2 + x)]) (Ck.ret3 Try.results35 rfl rfl rz) rfl ⟨⟨h, u, o, (2 + x), rfl⟩, sz⟩
      · have n1 : (m == 1) = false := by simp; omega
        by_cases hm2 : m = 2
        · subst hm2
          have g0 := NK.R.cell 2 rfl
          have g1 := NK.R.froz 2 rfl
          replace NK := NK.set2 u
          have c0 := NK.R.cell 0 rfl
          have c1 := NK.R.cell 1 rfl
          have c2 := NK.R.cell 2 rfl
          have d0 := NK.Q.cell 0 rfl
          have d1 := NK.Q.cell 1 rfl
          have d2 := NK.Q.cell 2 rfl
          have f0 := NK.Q.froz 0 rfl
          have f1 := NK.Q.froz 1 rfl
          have f2 := NK.Q.froz 2 rfl
          go_wp2_with fail
          clear g0 g1
          obtain ⟨sz, rz⟩ := NK.over h v u
          refine bodyPost_ret (v := .tuple #[clk h v u, .int .i64 (2 + x)]) (Ck.ret3 Try.results35 rfl rfl rz) rfl ⟨⟨h, v, u, (2 + x), rfl⟩, sz⟩
        · have n2 : (m == 2) = false := by simp; omega
          have e3 : m = 3 := by omega
          subst e3
          go_wp2_with fail
          refine (l1Num' w B p a len cap 100000 (by omega) (by omega) _ NK.st).mono ?_
          rintro e wy ⟨⟨s, rfl⟩, sx, px⟩
          replace NK := NK.step sx px
          clear sx px
          have c0 := NK.R.cell 0 rfl
          have c1 := NK.R.cell 1 rfl
          have c2 := NK.R.cell 2 rfl
          have d0 := NK.Q.cell 0 rfl
          have d1 := NK.Q.cell 1 rfl
          have d2 := NK.Q.cell 2 rfl
          have f0 := NK.Q.froz 0 rfl
          have f1 := NK.Q.froz 1 rfl
          have f2 := NK.Q.froz 2 rfl
          go_wp2_with fail
          obtain ⟨sz, rz⟩ := NK.over h v o
          refine bodyPost_ret (v := .tuple #[clk h v o, .int .i64 s]) (Ck.ret3 Try.results35 rfl rfl rz) rfl ⟨⟨h, v, o, s, rfl⟩, sz⟩

theorem l8Draw' (w0 : World) (B p : Nat) (a : Option Addr) (len cap : Nat) (w : World) (st : St w0 B p a len cap w) :
    Calls Try.prog 35 #[.pointer (some ⟨p, 0, none⟩)] w fun e w' => (∃ h v o s : Int, e = .returned (.tuple #[clk h v o, .int .i64 s])) ∧ St w0 B p a len cap w' ∧ Step p w w' :=
  (l8Draw w0 B p a len cap w st).mono fun e w' ⟨h, s⟩ => ⟨h, St.on st.step s, s.step⟩

set_option maxHeartbeats 2000000 in
theorem drawPaid (B : Nat) (a : Option Addr) (len cap : Nat) (w : World) (hB : B ≤ w.heap.size) (hc : Code w B a len) :
    Calls Try.prog 19 #[.slice a len cap] w fun e w' => (∃ h v o s : Int, e = .returned (.tuple #[clk h v o, .int .i64 s])) ∧ Below w.heap.size w w' := by
  have R := Rm.Room.new w (c3 0 0 0) 29
  have B1 := (Below.refl w.heap.size w).alloc (Nat.le_refl _) (.cells #[.int .i64 0, .int .i64 0, .int .i64 0] 29)
  go_enter Try.func19, Try.ntmps19
  go_wp2_with fail
  refine (l1New B a len cap _ (by simp; omega) (hc.later (B1.mono hB))).mono ?_
  rintro e w1 ⟨rfl, st1⟩
  have q1 := st1.step.size
  replace R := R.block (st1.step.block _ (R.lt (by simp)) (by simp))
  simp only [World.size_alloc] at st1 q1
  go_wp2_with fail
  refine (l8Draw' _ B (w.heap.size + 1) a len cap w1 st1).mono ?_
  rintro e w2 ⟨⟨h, v, o, s, rfl⟩, st2, p2⟩
  replace R := R.block (p2.block _ (R.lt (by simp)) (by simp))
  have B2 : Below w.heap.size w w2 := B1.trans ((st2.step.fresh (by simp)).mono (by simp))
  have d0 := R.cell 0 rfl
  have d1 := R.cell 1 rfl
  have d2 := R.cell 2 rfl
  have f0 := R.froz 0 rfl
  have f1 := R.froz 1 rfl
  have f2 := R.froz 2 rfl
  go_wp2_with fail
  refine bodyPost_ret (v := .tuple #[clk h v o, .int .i64 s]) (Ck.ret3 Try.results19 rfl rfl (Ck.over3 R _ _ _)) rfl ⟨⟨h, v, o, s, rfl⟩, Ck.below3 B2 (Nat.le_refl _) _ _ _⟩

end Go.Proofs.Ytcgcmceobmpdiaa.Dr
