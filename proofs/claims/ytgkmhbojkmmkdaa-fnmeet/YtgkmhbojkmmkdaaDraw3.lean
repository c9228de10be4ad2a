/-
  The draws of the second chapter: each returns, and writes nothing that was there ahead of it.
-/
import Derived.Test.YtgkmhbojkmmkdaaDraw2
import Derived.Test.YtgkmhbojkmmkdaaSpan
namespace Go.Proofs.Ytgkmhbojkmmkdaa.Dr
open Go.ChangeShapes Go.WideShapes Go.ChangeAt Go.RowKit
open Sp (span)
set_option linter.unusedVariables false

theorem Step.keep {p : Nat} {w w' : World} (h : Step p w w') {b o : Nat} {v : Value} (hc : w.cell? ⟨b, o, none⟩ = some v) (hn : b ≠ p) : w'.cell? ⟨b, o, none⟩ = some v := by
  rw [h.cell (World.block_lt_of_cell? _ _ hc) hn]; exact hc
theorem Step.froz {p : Nat} {w w' : World} (h : Step p w w') {b o : Nat} (hb : b < w.heap.size) (hn : b ≠ p) : w'.frozen? ⟨b, o, none⟩ = w.frozen? ⟨b, o, none⟩ :=
  World.frozen?_of_block (h.block b hb hn)

/-- The result's room r, and a span at q. -/
structure Two (r q : Nat) (lo hi : Int) (w : World) : Prop where
  r0 : w.cell? ⟨r, 0, none⟩ = some (.int .i64 0)
  r1 : w.cell? ⟨r, 1, none⟩ = some (.int .i64 0)
  q0 : w.cell? ⟨q, 0, none⟩ = some (.int .i64 lo)
  q1 : w.cell? ⟨q, 1, none⟩ = some (.int .i64 hi)
  fr0 : w.frozen? ⟨r, 0, none⟩ = false
  fr1 : w.frozen? ⟨r, 1, none⟩ = false
  fq0 : w.frozen? ⟨q, 0, none⟩ = false
  fq1 : w.frozen? ⟨q, 1, none⟩ = false

theorem Two.step {p r q : Nat} {lo hi : Int} {w w' : World} (t : Two r q lo hi w) (s : Step p w w') (hr : r ≠ p) (hq : q ≠ p) : Two r q lo hi w' :=
  ⟨s.keep t.r0 hr, s.keep t.r1 hr, s.keep t.q0 hq, s.keep t.q1 hq,
   by rw [s.froz (World.block_lt_of_cell? _ _ t.r0) hr]; exact t.fr0, by rw [s.froz (World.block_lt_of_cell? _ _ t.r0) hr]; exact t.fr1,
   by rw [s.froz (World.block_lt_of_cell? _ _ t.q0) hq]; exact t.fq0, by rw [s.froz (World.block_lt_of_cell? _ _ t.q0) hq]; exact t.fq1⟩
theorem Two.set0 {r q : Nat} {lo hi : Int} {w : World} (t : Two r q lo hi w) (h : r ≠ q) (v : Int) : Two r q v hi (w.setCell ⟨q, 0, none⟩ (.int .i64 v)) :=
  ⟨by rw [World.cell?_setCell_other _ _ _ _ (by simp <;> omega)]; exact t.r0, by rw [World.cell?_setCell_other _ _ _ _ (by simp <;> omega)]; exact t.r1,
   World.cell?_setCell_same _ _ _ t.q0, by rw [World.cell?_setCell_other _ _ _ _ (by simp)]; exact t.q1,
   by rw [World.frozen?_setCell]; exact t.fr0, by rw [World.frozen?_setCell]; exact t.fr1, by rw [World.frozen?_setCell]; exact t.fq0, by rw [World.frozen?_setCell]; exact t.fq1⟩
theorem Two.set1 {r q : Nat} {lo hi : Int} {w : World} (t : Two r q lo hi w) (h : r ≠ q) (v : Int) : Two r q lo v (w.setCell ⟨q, 1, none⟩ (.int .i64 v)) :=
  ⟨by rw [World.cell?_setCell_other _ _ _ _ (by simp <;> omega)]; exact t.r0, by rw [World.cell?_setCell_other _ _ _ _ (by simp <;> omega)]; exact t.r1,
   by rw [World.cell?_setCell_other _ _ _ _ (by simp)]; exact t.q0, World.cell?_setCell_same _ _ _ t.q1,
   by rw [World.frozen?_setCell]; exact t.fr0, by rw [World.frozen?_setCell]; exact t.fr1, by rw [World.frozen?_setCell]; exact t.fq0, by rw [World.frozen?_setCell]; exact t.fq1⟩

/-- A store into a block that is new since w0, and not the cursor's. -/
theorem St.setOther {w0 : World} {B p : Nat} {a : Option Addr} {len cap : Nat} {w : World} (s : St w0 B p a len cap w) {q o : Nat} (hq : w0.heap.size ≤ q) (hp : p ≠ q) (hB : B ≤ q) (v : Value) : St w0 B p a len cap (w.setCell ⟨q, o, none⟩ v) := by
  obtain ⟨⟨i, h, c⟩, k⟩ := s
  refine ⟨⟨i, h, c.le, c.code.later ((Below.refl _ _).setCell hB _), ?_, ?_, ?_, ?_, ?_, c.i_le⟩, ?_⟩
  · rw [World.cell?_setCell_other _ _ _ _ (by simp <;> omega)]; exact c.c0
  · rw [World.cell?_setCell_other _ _ _ _ (by simp <;> omega)]; exact c.c1
  · rw [World.cell?_setCell_other _ _ _ _ (by simp <;> omega)]; exact c.c2
  · rw [World.frozen?_setCell]; exact c.f1
  · rw [World.frozen?_setCell]; exact c.f2
  · exact ⟨k.os, k.tape, k.output, by simpa [World.setCell] using k.size, fun j hj hn => by
      rw [Below.heap_setCell _ _ _ _ (by simp; omega)]; exact k.block j hj hn⟩

theorem two_new {w w2 : World} {p : Nat} {t t' : TypeId} (x y : Int) (s : Step p (w.alloc (.cells #[.int .i64 0, .int .i64 0] t)) w2) (hp : p < w.heap.size) : Two w.heap.size w2.heap.size x y (w2.alloc (.cells #[.int .i64 x, .int .i64 y] t')) := by
  have hs := s.size
  simp at hs
  have e : ∀ o, (w2.alloc (.cells #[.int .i64 x, .int .i64 y] t')).cell? ⟨w.heap.size, o, none⟩ = (#[.int .i64 0, .int .i64 0] : Array Value)[o]? := fun o => by
    rw [World.cell?_alloc_lt _ _ _ (by simp; omega), s.cell (by simp) (by omega)]
    exact World.cell?_alloc_new _ _ _ _
  have f : ∀ o, (w2.alloc (.cells #[.int .i64 x, .int .i64 y] t')).frozen? ⟨w.heap.size, o, none⟩ = false := fun o => by
    rw [frozen?_alloc_cells, s.froz (by simp) (by omega), frozen?_alloc_cells]
    simp [World.frozen?]
  have f' : ∀ o, (w2.alloc (.cells #[.int .i64 x, .int .i64 y] t')).frozen? ⟨w2.heap.size, o, none⟩ = false := fun o => by
    rw [frozen?_alloc_cells]
    simp [World.frozen?]
  exact ⟨e 0, e 1, World.cell?_alloc_new _ _ _ _, World.cell?_alloc_new _ _ _ _, f 0, f 1, f' 0, f' 1⟩

set_option maxHeartbeats 4000000 in
theorem l2Draw (w0 : World) (B p : Nat) (a : Option Addr) (len cap : Nat) (w : World) (st : St w0 B p a len cap w) :
    Calls Try.prog 26 #[.pointer (some ⟨p, 0, none⟩)] w fun e w' => (∃ x y : Int, e = .returned (span x y) ∧ (-9223372036854775808 ≤ x ∧ x ≤ 9223372036854775807) ∧ -9223372036854775808 ≤ y ∧ y ≤ 9223372036854775807) ∧ St w0 B p a len cap w' := by
  have hp := st.lt
  have hB : B ≤ p := st.cur.choose_spec.choose_spec.le
  have h0 := st.step.size
  go_enter Try.func26, Try.ntmps26
  go_wp2_with fail
  refine (l1From _ B p a len cap (-50) 50 (by omega) (by omega) (by omega) _ (st.alloc _ _).here).mono ?_
  rintro e w1 ⟨⟨x, rfl, x0, x1⟩, st1⟩
  go_wp2_with fail
  refine (l1Below _ B p a len cap 30 (by omega) (by omega) _ st1).mono ?_
  rintro e w2 ⟨⟨y, rfl, y0, y1⟩, st2⟩
  have hp2 := st2.lt
  have s2 := st2.step.size
  simp at s2
  have hrp : w.heap.size ≠ p := by omega
  have hqp : w2.heap.size ≠ p := by omega
  have hrq : w.heap.size ≠ w2.heap.size := by omega
  go_wp2_with fail
  have two := two_new (t' := 25) x (x + y) st2.step hp
  have sa := St.on (st.step.alloc _) st2
  have sb := sa.alloc #[.int .i64 x, .int .i64 (x + y)] 25
  refine (l1Once _ B p a len cap 6 (by omega) (by omega) _ sb.here).mono ?_
  rintro e w3 ⟨⟨t, rfl⟩, st3⟩
  have two3 := two.step st3.step hrp hqp
  have ⟨r0, r1, q0, q1, fr0, fr1, fq0, fq1⟩ := two3
  have sc := St.on sb.step st3
  clear two st1 st2 st3 sa sb
  cases t with
  | true =>
    go_wp2_with fail
    refine (l1DrawNs _ B p a len cap _ sc.here).mono ?_
    rintro e w4 ⟨⟨z, rfl, z0, z1⟩, st4⟩
    have two4 := two3.step st4.step hrp hqp
    have sc4 := St.on sc.step st4
    clear st4
    have ⟨r0, r1, q0, q1, fr0, fr1, fq0, fq1⟩ := two4
    have two5 := two4.set0 hrq z
    have sc5 := sc4.setOther (q := w2.heap.size) (o := 0) (by omega) (by omega) (by omega) (.int .i64 z)
    go_wp2_with fail
    refine (l1Once _ B p a len cap 6 (by omega) (by omega) _ sc5.here).mono ?_
    rintro e w6 ⟨⟨t, rfl⟩, st6⟩
    have two6 := two5.step st6.step hrp hqp
    have sc6 := St.on sc5.step st6
    clear st6
    have ⟨r0, r1, q0, q1, fr0, fr1, fq0, fq1⟩ := two6
    cases t with
    | true =>
      go_wp2_with fail
      refine (l1DrawNs _ B p a len cap _ sc6.here).mono ?_
      rintro e w7 ⟨⟨v, rfl, v0, v1⟩, st7⟩
      have two7 := two6.step st7.step hrp hqp
      have sc7 := St.on sc6.step st7
      clear st7
      have ⟨r0, r1, q0, q1, fr0, fr1, fq0, fq1⟩ := two7
      have two8 := two7.set1 hrq v
      have sc8 := sc7.setOther (q := w2.heap.size) (o := 1) (by omega) (by omega) (by omega) (.int .i64 v)
      have ⟨r0, r1, q0, q1, fr0, fr1, fq0, fq1⟩ := two8
      go_wp2
      refine bodyPost_ret (v := span z v) (by simp [results, Try.results26, go_sem, Sp.set_a r0, Sp.set_b r1]) rfl ⟨⟨_, _, rfl, ⟨z0, z1⟩, v0, v1⟩, ?_⟩
      exact (sc8.setOther (by omega) (by omega) (by omega) _).setOther (by omega) (by omega) (by omega) _
    | false =>
      have ⟨r0, r1, q0, q1, fr0, fr1, fq0, fq1⟩ := two6
      go_wp2
      refine bodyPost_ret (v := span z (x + y)) (by simp [results, Try.results26, go_sem, Sp.set_a r0, Sp.set_b r1]) rfl ⟨⟨_, _, rfl, ⟨z0, z1⟩, by omega, by omega⟩, ?_⟩
      exact (sc6.setOther (by omega) (by omega) (by omega) _).setOther (by omega) (by omega) (by omega) _
  | false =>
    go_wp2_with fail
    refine (l1Once _ B p a len cap 6 (by omega) (by omega) _ sc.here).mono ?_
    rintro e w6 ⟨⟨t, rfl⟩, st6⟩
    have two6 := two3.step st6.step hrp hqp
    have sc6 := St.on sc.step st6
    clear st6
    have ⟨r0, r1, q0, q1, fr0, fr1, fq0, fq1⟩ := two6
    cases t with
    | true =>
      go_wp2_with fail
      refine (l1DrawNs _ B p a len cap _ sc6.here).mono ?_
      rintro e w7 ⟨⟨v, rfl, v0, v1⟩, st7⟩
      have two7 := two6.step st7.step hrp hqp
      have sc7 := St.on sc6.step st7
      clear st7
      have ⟨r0, r1, q0, q1, fr0, fr1, fq0, fq1⟩ := two7
      have two8 := two7.set1 hrq v
      have sc8 := sc7.setOther (q := w2.heap.size) (o := 1) (by omega) (by omega) (by omega) (.int .i64 v)
      have ⟨r0, r1, q0, q1, fr0, fr1, fq0, fq1⟩ := two8
      go_wp2
      refine bodyPost_ret (v := span x v) (by simp [results, Try.results26, go_sem, Sp.set_a r0, Sp.set_b r1]) rfl ⟨⟨_, _, rfl, ⟨by omega, by omega⟩, v0, v1⟩, ?_⟩
      exact (sc8.setOther (by omega) (by omega) (by omega) _).setOther (by omega) (by omega) (by omega) _
    | false =>
      have ⟨r0, r1, q0, q1, fr0, fr1, fq0, fq1⟩ := two6
      go_wp2
      refine bodyPost_ret (v := span x (x + y)) (by simp [results, Try.results26, go_sem, Sp.set_a r0, Sp.set_b r1]) rfl ⟨⟨_, _, rfl, ⟨by omega, by omega⟩, by omega, by omega⟩, ?_⟩
      exact (sc6.setOther (by omega) (by omega) (by omega) _).setOther (by omega) (by omega) (by omega) _

theorem St.drew {w0 : World} {B p : Nat} {a : Option Addr} {len cap : Nat} {w : World} (s : St w0 B p a len cap w) : St w0 B p a len cap w.drew := by
  obtain ⟨⟨i, h, c⟩, k⟩ := s
  exact ⟨⟨i, h, c.le, c.code.later (Below.refl _ _).drew, c.c0, c.c1, c.c2, c.f1, c.f2, c.i_le⟩, k.trans ⟨rfl, rfl, rfl, Nat.le_refl _, fun _ _ _ => rfl⟩⟩
theorem Step.drew {p : Nat} {a w : World} (h : Step p a w) : Step p a w.drew := h.trans ⟨rfl, rfl, rfl, Nat.le_refl _, fun _ _ _ => rfl⟩
theorem Step.facts {p : Nat} {w w' : World} (h : Step p w w') : (∀ b o, b < w.heap.size → b ≠ p → w'.cell? ⟨b, o, none⟩ = w.cell? ⟨b, o, none⟩) ∧ (∀ b o, b < w.heap.size → b ≠ p → w'.frozen? ⟨b, o, none⟩ = w.frozen? ⟨b, o, none⟩) :=
  ⟨fun b o hb hn => h.cell hb hn, fun b o hb hn => h.froz hb hn⟩

set_option maxHeartbeats 4000000 in
theorem drawMeet (B : Nat) (a : Option Addr) (len cap : Nat) (w : World) (hB : B ≤ w.heap.size) (hc : Code w B a len) :
    Calls Try.prog 10 #[.slice a len cap] w fun e w' => (∃ x y u v : Int, e = .returned (.tuple #[span x y, span u v]) ∧ (-9223372036854775808 ≤ x ∧ x ≤ 9223372036854775807) ∧ (-9223372036854775808 ≤ y ∧ y ≤ 9223372036854775807)) ∧ Below w.heap.size w w' := by
  go_enter Try.func10, Try.ntmps10
  go_wp2_with fail
  refine (l1New B a len cap _ (by simp; omega) (hc.later (((Below.refl _ _).alloc hB _).alloc (by simp; omega) _))).mono ?_
  rintro e w1 ⟨rfl, st1⟩
  simp at st1
  go_wp2_with fail
  refine (l2Draw _ B (w.heap.size + 1 + 1) a len cap _ st1).mono ?_
  rintro e w2 ⟨⟨x, y, rfl, xb, yb⟩, st2⟩
  have s2 := st2.step.size
  have hp2 := st2.lt
  simp at s2
  have n0 : w.heap.size ≠ w.heap.size + 1 + 1 := by omega
  have n1 : w.heap.size + 1 ≠ w.heap.size + 1 + 1 := by omega
  have n2 : w2.heap.size ≠ w.heap.size + 1 + 1 := by omega
  have n3 : ¬ w2.heap.size = w.heap.size := by omega
  have n4 : ¬ w2.heap.size = w.heap.size + 1 := by omega
  have n5 : ¬ w.heap.size = w2.heap.size := by omega
  have n6 : ¬ w.heap.size + 1 = w2.heap.size := by omega
  obtain ⟨hc2, hf2⟩ := st2.step.facts
  have z0 : w.heap.size < w2.heap.size := by omega
  have z1 : w.heap.size + 1 < w2.heap.size := by omega
  go_wp2_with fail
  have sd := (st2.alloc #[.int .i64 x, .int .i64 y] 25).drew
  go_region_with (go_at_call 26; refine (l2Draw _ B (w.heap.size + 1 + 1) a len cap _ sd.here).mono ?_; rintro e w3 ⟨⟨u, v, rfl, ub, vb⟩, st3⟩; obtain ⟨hc3, hf3⟩ := st3.step.facts)
  all_goals
    have e0 : ∀ o, w3.cell? ⟨w.heap.size, o, none⟩ = (#[.int .i64 0, .int .i64 0] : Array Value)[o]? := fun o => by
      rw [hc3 _ _ (by simp; omega) n0]
      show (w2.alloc _).cell? _ = _
      rw [World.cell?_alloc_lt _ _ _ (by simp; omega), hc2 _ _ (by simp; omega) n0, World.cell?_alloc_lt _ _ _ (by simp)]
      exact World.cell?_alloc_new _ _ _ _
    have e1 : ∀ o, w3.cell? ⟨w.heap.size + 1, o, none⟩ = (#[.int .i64 0, .int .i64 0] : Array Value)[o]? := fun o => by
      rw [hc3 _ _ (by simp; omega) n1]
      show (w2.alloc _).cell? _ = _
      rw [World.cell?_alloc_lt _ _ _ (by simp; omega), hc2 _ _ (by simp) n1]
      exact Sp.cell_at _ _ _ _ _ (by simp)
    have q2 : ((w3.setCell ⟨w.heap.size, 0, none⟩ (.int .i64 x)).setCell ⟨w.heap.size, 1, none⟩ (.int .i64 y)).cell? ⟨w.heap.size + 1, 0, none⟩ = some (.int .i64 0) := by
      rw [World.cell?_setCell_other _ _ _ _ (by simp), World.cell?_setCell_other _ _ _ _ (by simp)]; exact e1 0
    have q3 : ((w3.setCell ⟨w.heap.size, 0, none⟩ (.int .i64 x)).setCell ⟨w.heap.size, 1, none⟩ (.int .i64 y)).cell? ⟨w.heap.size + 1, 1, none⟩ = some (.int .i64 0) := by
      rw [World.cell?_setCell_other _ _ _ _ (by simp), World.cell?_setCell_other _ _ _ _ (by simp)]; exact e1 1
    have bel : Below w.heap.size w w3 := ((((((Step.refl _ _).alloc _).alloc _).trans st2.step).alloc _).drew.trans st3.step).fresh (by omega)
    go_wp2_with fail
    refine bodyPost_ret (v := .tuple #[span x y, span u v]) (by simp [results, Try.results10, go_sem, Sp.set_a (e0 0), Sp.set_b (e0 1), Sp.set_a q2, Sp.set_b q3]) rfl ⟨⟨_, _, _, _, rfl, xb, yb⟩, ?_⟩
    exact (((bel.setCell (Nat.le_refl _) _).setCell (Nat.le_refl _) _).setCell (by simp) _).setCell (by simp) _

end Go.Proofs.Ytgkmhbojkmmkdaa.Dr
