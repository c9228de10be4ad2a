/-
  Small draws with what they leave as it was; a clock that lies beside the dice or beside a cursor.
-/
import Derived.Test.YtcgcmceobmpdiaaRoom
import Derived.Test.YtcgcmceobmpdiaaDice
import Derived.Test.YtcgcmceobmpdiaaCk5
import Derived.RegionTactic
import Derived.Deep.DeepCutAuto
namespace Go.Proofs.Ytcgcmceobmpdiaa.Dr
open Go.ChangeShapes Go.WideShapes Go.ChangeAt Go.RowKit
set_option linter.unusedVariables false
set_option linter.unusedSimpArgs false

theorem l1Below' (w0 : World) (B p : Nat) (a : Option Addr) (len cap : Nat) (n : Int) (hn : 0 < n) (hm : n ≤ 9223372036854775807) (w : World) (st : St w0 B p a len cap w) :
    Calls Try.prog 40 #[.pointer (some ⟨p, 0, none⟩), .int .i64 n] w fun e w' => (∃ x : Int, e = .returned (.int .i64 x) ∧ 0 ≤ x ∧ x < n) ∧ St w0 B p a len cap w' ∧ Step p w w' :=
  (l1Below w B p a len cap n hn hm w st.here).mono fun e w' ⟨h, s⟩ => ⟨h, St.on st.step s, s.step⟩
theorem l1Once' (w0 : World) (B p : Nat) (a : Option Addr) (len cap : Nat) (n : Int) (hn : 0 < n) (hm : n ≤ 9223372036854775807) (w : World) (st : St w0 B p a len cap w) :
    Calls Try.prog 38 #[.pointer (some ⟨p, 0, none⟩), .int .i64 n] w fun e w' => (∃ x : Bool, e = .returned (.bool x)) ∧ St w0 B p a len cap w' ∧ Step p w w' :=
  (l1Once w B p a len cap n hn hm w st.here).mono fun e w' ⟨h, s⟩ => ⟨h, St.on st.step s, s.step⟩
theorem l1Odd' (w0 : World) (B p : Nat) (a : Option Addr) (len cap : Nat) (w : World) (st : St w0 B p a len cap w) :
    Calls Try.prog 39 #[.pointer (some ⟨p, 0, none⟩)] w fun e w' => (∃ x : Int, e = .returned (.int .i64 x) ∧ -9223372036854775808 ≤ x ∧ x ≤ 9223372036854775807) ∧ St w0 B p a len cap w' ∧ Step p w w' :=
  (l1Odd w B p a len cap w st.here).mono fun e w' ⟨h, s⟩ => ⟨h, St.on st.step s, s.step⟩

set_option maxHeartbeats 2000000 in
theorem l1Num (w0 : World) (B p : Nat) (a : Option Addr) (len cap : Nat) (m : Int) (m0 : 0 ≤ m) (m1 : m ≤ 1000000000) (w : World) (st : St w0 B p a len cap w) :
    Calls Try.prog 46 #[.pointer (some ⟨p, 0, none⟩), .int .i64 m] w fun e w' => (∃ x : Int, e = .returned (.int .i64 x)) ∧ St w0 B p a len cap w' := by
  go_enter Try.func46, Try.ntmps46
  go_wp2_with fail
  refine (l1Once w0 B p a len cap 10 (by omega) (by omega) _ st).mono ?_
  rintro e w1 ⟨⟨t, rfl⟩, st1⟩
  cases t with
  | true =>
    go_wp2_with fail
    refine (l1Odd w0 B p a len cap _ st1).mono ?_
    rintro e w2 ⟨⟨y, rfl, y0, y1⟩, st2⟩
    go_wp2_with fail
    refine (l1Below _ B p a len cap 4 (by omega) (by omega) _ (st2.alloc _ _).here).mono ?_
    rintro e w3 ⟨⟨x, rfl, x0, x1⟩, st3⟩
    obtain ⟨k, rfl⟩ := Int.eq_ofNat_of_zero_le x0
    have hc := lit_cell st2 st3.step k
    obtain ⟨v, hv⟩ : ∃ v : Int, w3.cell? ⟨w2.heap.size, k, none⟩ = some (.int .i64 v) := by
      rw [hc]
      rcases (show k = 0 ∨ k = 1 ∨ k = 2 ∨ k = 3 by omega) with rfl | rfl | rfl | rfl
      all_goals exact ⟨_, rfl⟩
    clear hc
    have st4 := St.on ((st2.step.alloc _)) st3
    go_wp2
    go_ret
    exact ⟨⟨_, rfl⟩, st4⟩
  | false =>
    go_wp2_with fail
    refine (l1Once w0 B p a len cap 2 (by omega) (by omega) _ st1).mono ?_
    rintro e w2 ⟨⟨t, rfl⟩, st2⟩
    cases t with
    | true =>
      have hm0 : 0 ≤ min m 4 := by omega
      have hm1 : min m 4 ≤ 4 := by omega
      go_wp2_with fail
      refine (Sp.l1Min m 4 _).mono ?_
      rintro e w3 ⟨rfl, rfl⟩
      generalize min m 4 = q at hm0 hm1 ⊢
      go_wp2_with fail
      refine (l1Below w0 B p a len cap _ (by omega) (by omega) _ st2).mono ?_
      rintro e w4 ⟨⟨x, rfl, x0, x1⟩, st4⟩
      go_wp2
      go_ret
      exact ⟨⟨_, rfl⟩, st4⟩
    | false =>
      go_wp2_with fail
      refine (l1Below w0 B p a len cap _ (by omega) (by omega) _ st2).mono ?_
      rintro e w4 ⟨⟨x, rfl, x0, x1⟩, st4⟩
      go_wp2
      go_ret
      exact ⟨⟨_, rfl⟩, st4⟩

theorem l1Num' (w0 : World) (B p : Nat) (a : Option Addr) (len cap : Nat) (m : Int) (m0 : 0 ≤ m) (m1 : m ≤ 1000000000) (w : World) (st : St w0 B p a len cap w) :
    Calls Try.prog 46 #[.pointer (some ⟨p, 0, none⟩), .int .i64 m] w fun e w' => (∃ x : Int, e = .returned (.int .i64 x)) ∧ St w0 B p a len cap w' ∧ Step p w w' :=
  (l1Num w B p a len cap m m0 m1 w st.here).mono fun e w' ⟨h, s⟩ => ⟨h, St.on st.step s, s.step⟩

end Go.Proofs.Ytcgcmceobmpdiaa.Dr
namespace Go.Proofs.Ytcgcmceobmpdiaa.Di
open Go.ChangeShapes Go.WideShapes Go.ChangeAt Go.RowKit
open Dr (Step)
set_option linter.unusedVariables false

theorem St.lt {w0 : World} {B p : Nat} {a : Option Addr} {len cap : Nat} {w : World} (s : St w0 B p a len cap w) : p < w.heap.size := by
  obtain ⟨⟨i, h, c⟩, _⟩ := s
  exact World.block_lt_of_cell? _ _ c.c0
theorem St.here {w0 : World} {B p : Nat} {a : Option Addr} {len cap : Nat} {w : World} (s : St w0 B p a len cap w) : St w B p a len cap w := ⟨s.cur, Dr.Step.refl _ _⟩
theorem St.on {w0 w1 : World} {B p : Nat} {a : Option Addr} {len cap : Nat} {w : World} (k : Dr.Step p w0 w1) (s : St w1 B p a len cap w) : St w0 B p a len cap w := ⟨s.cur, k.trans s.step⟩
/-- Dice behind whatever has left its block, and all below, as they were. -/
theorem Cur.block {w w1 : World} {B p : Nat} {a : Option Addr} {len cap i : Nat} {h : Int} (c : Cur w B p a len cap i h) (hb : Below B w w1) (e : w1.heap[p]? = w.heap[p]?) : Cur w1 B p a len cap i h :=
  ⟨c.le, c.code.later hb, by rw [World.cell?_of_block (a := ⟨p, 0, none⟩) e]; exact c.c0, by rw [World.cell?_of_block (a := ⟨p, 1, none⟩) e]; exact c.c1, by rw [World.cell?_of_block (a := ⟨p, 2, none⟩) e]; exact c.c2,
    by rw [World.frozen?_of_block (a := ⟨p, 1, none⟩) e]; exact c.f1, by rw [World.frozen?_of_block (a := ⟨p, 2, none⟩) e]; exact c.f2, c.i_le⟩
theorem St.le {w0 : World} {B p : Nat} {a : Option Addr} {len cap : Nat} {w : World} (s : St w0 B p a len cap w) : B ≤ p := by
  obtain ⟨⟨i, h, c⟩, _⟩ := s
  exact c.le
theorem St.below {w0 : World} {B p : Nat} {a : Option Addr} {len cap : Nat} {w w1 : World} (s : St w0 B p a len cap w) (hb : Below w.heap.size w w1) : St w0 B p a len cap w1 := by
  have hl := s.lt
  obtain ⟨⟨i, h, c⟩, k⟩ := s
  exact ⟨⟨i, h, c.block (hb.mono (by have := c.le; omega)) (hb.block p hl)⟩, k.trans (Dr.Step.of_below hb)⟩
theorem St.drew' {w0 : World} {B p : Nat} {a : Option Addr} {len cap : Nat} {w : World} (s : St w0 B p a len cap w) : St w0 B p a len cap w.drew := s.below (Below.refl _ _).drew
theorem St.setNew {w0 : World} {B p : Nat} {a : Option Addr} {len cap : Nat} {w : World} (s : St w0 B p a len cap w) {q : Nat} (o : Nat) (hq : w0.heap.size ≤ q) (hp : q ≠ p) (hB : B ≤ q) (v : Value) : St w0 B p a len cap (w.setCell ⟨q, o, none⟩ v) := by
  obtain ⟨⟨i, h, c⟩, k⟩ := s
  exact ⟨⟨i, h, c.block ((Below.refl _ _).setCell hB _) (Below.heap_setCell _ _ _ _ (by simp; omega))⟩, k.setNew o hq v⟩
theorem St.obj {w0 : World} {B p : Nat} {a : Option Addr} {len cap : Nat} {w : World} (s : St w0 B p a len cap w) (o : Obj) : St w0 B p a len cap (w.alloc o) := s.below ((Below.refl _ _).alloc (Nat.le_refl _) _)
theorem St.six {w0 : World} {B p : Nat} {a : Option Addr} {len cap : Nat} {w : World} (s : St w0 B p a len cap w) {g : Nat} (hq : w0.heap.size ≤ g) (hp : g ≠ p) (hB : B ≤ g) (x0 x1 x2 x3 x4 x5 : Value) :
    St w0 B p a len cap ((((((w.setCell ⟨g, 0, none⟩ x0).setCell ⟨g, 1, none⟩ x1).setCell ⟨g, 2, none⟩ x2).setCell ⟨g, 3, none⟩ x3).setCell ⟨g, 4, none⟩ x4).setCell ⟨g, 5, none⟩ x5) :=
  (((((s.setNew 0 hq hp hB x0).setNew 1 hq hp hB x1).setNew 2 hq hp hB x2).setNew 3 hq hp hB x3).setNew 4 hq hp hB x4).setNew 5 hq hp hB x5

theorem below' (w0 : World) (B p : Nat) (a : Option Addr) (len cap : Nat) (n : Int) (hn : 0 < n) (hm : n ≤ 9223372036854775807) (w : World) (st : St w0 B p a len cap w) :
    Calls Try.prog 13 #[.pointer (some ⟨p, 0, none⟩), .int .i64 n] w fun e w' => (∃ x : Int, e = .returned (.int .i64 x) ∧ 0 ≤ x ∧ x < n) ∧ St w0 B p a len cap w' ∧ Dr.Step p w w' :=
  (below w B p a len cap n hn hm w st.here).mono fun e w' ⟨h, s⟩ => ⟨h, St.on st.step s, s.step⟩

theorem around' (w0 : World) (B p : Nat) (a : Option Addr) (len cap : Nat) (n : Int) (hn : 0 ≤ n) (hm : n ≤ 4000000000) (w : World) (st : St w0 B p a len cap w) :
    Calls Try.prog 14 #[.pointer (some ⟨p, 0, none⟩), .int .i64 n] w fun e w' => (∃ x : Int, e = .returned (.int .i64 x) ∧ -n ≤ x ∧ x ≤ n) ∧ St w0 B p a len cap w' ∧ Dr.Step p w w' :=
  (around w B p a len cap n hn hm w st.here).mono fun e w' ⟨h, s⟩ => ⟨h, St.on st.step s, s.step⟩

end Go.Proofs.Ytcgcmceobmpdiaa.Di
namespace Go.Proofs.Ytcgcmceobmpdiaa.Ck
open Go.ChangeShapes Go.WideShapes Go.ChangeAt Go.RowKit
open Rm (Room)
set_option linter.unusedVariables false

/-- Dice, and a clock beside them. -/
structure Kb (w : World) (p : Nat) (a : Option Addr) (len cap q : Nat) (h v o : Int) (w' : World) : Prop where
  st : Di.St w p p a len cap w'
  R : Room w' q (c3 h v o)
  ne : q ≠ p
theorem Kb.below {w : World} {p : Nat} {a : Option Addr} {len cap q : Nat} {h v o : Int} {w1 w2 : World} (z : Kb w p a len cap q h v o w1) (b : Below w1.heap.size w1 w2) : Kb w p a len cap q h v o w2 := ⟨z.st.below b, z.R.below b, z.ne⟩
theorem Kb.step {w : World} {p : Nat} {a : Option Addr} {len cap q : Nat} {h v o : Int} {w1 w2 : World} (z : Kb w p a len cap q h v o w1) (s : Di.St w p p a len cap w2) (t : Dr.Step p w1 w2) : Kb w p a len cap q h v o w2 := ⟨s, z.R.block (t.block q (z.R.lt (by simp)) z.ne), z.ne⟩
theorem Kb.out {w : World} {a : Option Addr} {len cap q : Nat} {h v o : Int} {w1 : World} (z : Kb w w.heap.size a len cap q h v o w1) : Below w.heap.size w w1 :=
  ⟨z.st.step.os, z.st.step.tape, z.st.step.output, z.st.step.size, fun k hk => z.st.step.block k hk (by omega)⟩

theorem ck_small {h v o s : Int} (h0 : 0 ≤ h ∧ h ≤ 2000) (v0 : -20000 ≤ v ∧ v ≤ 20000) (o0 : -100 ≤ o ∧ o ≤ 100) (s0 : 2 ≤ s ∧ s ≤ 100) : CK h v o s = true := ck_yes (by omega) (by omega) (by omega) (by omega)
theorem rv_here {h v o s : Int} (q : CK h v o s = true) : FR h v o s h = true ∧ RV h v o s h = v := by
  obtain ⟨h1, h2, h3, h4⟩ := ck_of q
  have f := fr_yes (a := h) q ⟨by omega, h1.2⟩
  refine ⟨f, ?_⟩
  rw [rv_yes f, Int.sub_self]
  have a := ab_bd h3
  have e : PN o s 0 = 0 := by unfold PN; rw [Int.zero_ediv]; omega
  unfold PD
  rw [e]
  split <;> omega
theorem fr_early {h v o s : Int} : FR h v o s (h - 1) = false := fr_no2 (by omega)
theorem div_step {E y s : Int} (hE : 0 ≤ E) (hy : 0 ≤ y) (hs : 2 ≤ s) : E / s ≤ (E + y) / s ∧ (E + y) / s ≤ E / s + y / s + 1 ∧ (E + y) / s ≤ E / s + y ∧ 0 ≤ y / s := by
  have m : E / s ≤ (E + y) / s := Int.ediv_le_ediv (by omega) (by omega)
  have a1 := Int.mul_ediv_add_emod E s
  have a2 := Int.emod_lt_of_pos E (b := s) (by omega)
  have b1 := Int.mul_ediv_add_emod (E + y) s
  have b2 := Int.emod_nonneg (E + y) (b := s) (by omega)
  have c1 := Int.mul_ediv_add_emod y s
  have c2 := Int.emod_nonneg y (b := s) (by omega)
  have c3 := Int.emod_lt_of_pos y (b := s) (by omega)
  have c0 := Int.ediv_nonneg hy (show (0 : Int) ≤ s by omega)
  generalize (E + y) / s = b at *
  generalize E / s = a at *
  generalize y / s = c at *
  have k2 : b ≤ a + c + 1 := by
    refine Int.not_lt.1 fun q => ?_
    have k := Int.mul_le_mul_of_nonneg_left (show a + c + 2 ≤ b by omega) (show (0 : Int) ≤ s by omega)
    rw [Int.mul_add, Int.mul_add] at k
    omega
  have d : 2 * c ≤ s * c := Int.mul_le_mul_of_nonneg_right hs c0
  refine ⟨m, k2, ?_, c0⟩
  by_cases y0 : y = 0
  · subst y0
    have k : b ≤ a := by
      refine Int.not_lt.1 fun q => ?_
      have k := Int.mul_le_mul_of_nonneg_left (show a + 1 ≤ b by omega) (show (0 : Int) ≤ s by omega)
      rw [Int.mul_add] at k
      omega
    omega
  · omega
/-- One step of a clock that is read. -/
theorem mono_step {h v o s T y : Int} (h0 : 0 ≤ h ∧ h ≤ 1000) (v0 : -10000 ≤ v ∧ v ≤ 10000) (o0 : -60 ≤ o ∧ o ≤ 60) (s0 : 2 ≤ s ∧ s ≤ 12) (t0 : h ≤ T ∧ T ≤ 2000) (y0 : 0 ≤ y ∧ y < 60) :
    FR h v o s (T + y) = true ∧ (-15000 ≤ RV h v o s (T + y) ∧ RV h v o s (T + y) ≤ 15000) ∧ 0 ≤ RV h v o s (T + y) - RV h v o s T ∧ RV h v o s (T + y) - RV h v o s T - y ≤ y / s + 1 ∧ y - (RV h v o s (T + y) - RV h v o s T) ≤ y / s + 1 ∧ (-15000 ≤ RV h v o s T ∧ RV h v o s T ≤ 15000) ∧ 0 ≤ y / s ∧ y / s ≤ y := by
  have q := ck_small (h := h) (v := v) (o := o) (s := s) (by omega) (by omega) (by omega) (by omega)
  have f1 := fr_yes (a := T) q ⟨t0.1, by omega⟩
  have f2 := fr_yes (a := T + y) q ⟨by omega, by omega⟩
  refine ⟨f2, ?_⟩
  rw [rv_yes f1, rv_yes f2]
  have d := div_step (E := T - h) (y := y) (s := s) (by omega) y0.1 s0.1
  have e : T + y - h = T - h + y := by omega
  rw [e]
  have p1 := pn_bd (o := o) (s := s) (e := T - h) (by omega) (by omega) s0.1
  have p2 := pn_bd (o := o) (s := s) (e := T - h + y) (by omega) (by omega) s0.1
  have yy := div_bd (e := y) (s := s) y0.1 s0.1
  have a1 : AB o ≤ 60 := by unfold AB; split <;> omega
  unfold PD
  unfold PN at *
  split <;> omega

end Go.Proofs.Ytcgcmceobmpdiaa.Ck
