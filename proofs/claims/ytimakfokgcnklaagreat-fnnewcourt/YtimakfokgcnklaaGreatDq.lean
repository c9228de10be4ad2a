/-
  Small draws with what they leave as it was, by a cursor and by dice.
-/
import Derived.Test.YtimakfokgcnklaaGreatRoom
import Derived.Test.YtimakfokgcnklaaGreatDice
import Derived.Test.YtimakfokgcnklaaGreatSpan
import Derived.RegionTactic
import Derived.Deep.DeepCutAuto
namespace Go.Proofs.YtimakfokgcnklaaGreat.Dr
open Go.ChangeShapes Go.WideShapes Go.ChangeAt Go.RowKit
set_option linter.unusedVariables false
set_option linter.unusedSimpArgs false

theorem l1Below' (w0 : World) (B p : Nat) (a : Option Addr) (len cap : Nat) (n : Int) (hn : 0 < n) (hm : n ≤ 9223372036854775807) (w : World) (st : St w0 B p a len cap w) :
    Calls Tryz.prog 87 #[.pointer (some ⟨p, 0, none⟩), .int .i64 n] w fun e w' => (∃ x : Int, e = .returned (.int .i64 x) ∧ 0 ≤ x ∧ x < n) ∧ St w0 B p a len cap w' ∧ Step p w w' :=
  (l1Below w B p a len cap n hn hm w st.here).mono fun e w' ⟨h, s⟩ => ⟨h, St.on st.step s, s.step⟩
theorem l1Once' (w0 : World) (B p : Nat) (a : Option Addr) (len cap : Nat) (n : Int) (hn : 0 < n) (hm : n ≤ 9223372036854775807) (w : World) (st : St w0 B p a len cap w) :
    Calls Tryz.prog 39 #[.pointer (some ⟨p, 0, none⟩), .int .i64 n] w fun e w' => (∃ x : Bool, e = .returned (.bool x)) ∧ St w0 B p a len cap w' ∧ Step p w w' :=
  (l1Once w B p a len cap n hn hm w st.here).mono fun e w' ⟨h, s⟩ => ⟨h, St.on st.step s, s.step⟩
theorem l1Odd' (w0 : World) (B p : Nat) (a : Option Addr) (len cap : Nat) (w : World) (st : St w0 B p a len cap w) :
    Calls Tryz.prog 40 #[.pointer (some ⟨p, 0, none⟩)] w fun e w' => (∃ x : Int, e = .returned (.int .i64 x) ∧ -9223372036854775808 ≤ x ∧ x ≤ 9223372036854775807) ∧ St w0 B p a len cap w' ∧ Step p w w' :=
  (l1Odd w B p a len cap w st.here).mono fun e w' ⟨h, s⟩ => ⟨h, St.on st.step s, s.step⟩

set_option maxHeartbeats 2000000 in
theorem l1Num (w0 : World) (B p : Nat) (a : Option Addr) (len cap : Nat) (m : Int) (m0 : 0 ≤ m) (m1 : m ≤ 1000000000) (w : World) (st : St w0 B p a len cap w) :
    Calls Tryz.prog 88 #[.pointer (some ⟨p, 0, none⟩), .int .i64 m] w fun e w' => (∃ x : Int, e = .returned (.int .i64 x)) ∧ St w0 B p a len cap w' := by
  go_enter Tryz.func88, Tryz.ntmps88
  go_wp2_with fail
  refine (l1Once w0 B p a len cap 10 (by omega) (by omega) _ st).mono ?_
  rintro e w1 ⟨⟨t, rfl⟩, st1⟩
  cases t with
  | true =>
    go_wp2_with fail
    refine (l1Odd w0 B p a len cap _ st1).mono ?_
    rintro e w2 ⟨⟨y, rfl, y0, y1⟩, st2⟩
    go_wp2_with fail
    refine (l1Below _ B p a len cap 4 (by omega) (by omega) _ (st2.alloc _ _).here).mono ?_
    rintro e w3 ⟨⟨x, rfl, x0, x1⟩, st3⟩
    obtain ⟨k, rfl⟩ := Int.eq_ofNat_of_zero_le x0
    have hc := lit_cell st2 st3.step k
    obtain ⟨v, hv⟩ : ∃ v : Int, w3.cell? ⟨w2.heap.size, k, none⟩ = some (.int .i64 v) := by
      rw [hc]
      rcases (show k = 0 ∨ k = 1 ∨ k = 2 ∨ k = 3 by omega) with rfl | rfl | rfl | rfl
      all_goals exact ⟨_, rfl⟩
    clear hc
    have st4 := St.on ((st2.step.alloc _)) st3
    go_wp2
    go_ret
    exact ⟨⟨_, rfl⟩, st4⟩
  | false =>
    go_wp2_with fail
    refine (l1Once w0 B p a len cap 2 (by omega) (by omega) _ st1).mono ?_
    rintro e w2 ⟨⟨t, rfl⟩, st2⟩
    cases t with
    | true =>
      have hm0 : 0 ≤ min m 4 := by omega
      have hm1 : min m 4 ≤ 4 := by omega
      go_wp2_with fail
      refine (Sp.l1Min m 4 _).mono ?_
      rintro e w3 ⟨rfl, rfl⟩
      generalize min m 4 = q at hm0 hm1 ⊢
      go_wp2_with fail
      refine (l1Below w0 B p a len cap _ (by omega) (by omega) _ st2).mono ?_
      rintro e w4 ⟨⟨x, rfl, x0, x1⟩, st4⟩
      go_wp2
      go_ret
      exact ⟨⟨_, rfl⟩, st4⟩
    | false =>
      go_wp2_with fail
      refine (l1Below w0 B p a len cap _ (by omega) (by omega) _ st2).mono ?_
      rintro e w4 ⟨⟨x, rfl, x0, x1⟩, st4⟩
      go_wp2
      go_ret
      exact ⟨⟨_, rfl⟩, st4⟩

theorem l1Num' (w0 : World) (B p : Nat) (a : Option Addr) (len cap : Nat) (m : Int) (m0 : 0 ≤ m) (m1 : m ≤ 1000000000) (w : World) (st : St w0 B p a len cap w) :
    Calls Tryz.prog 88 #[.pointer (some ⟨p, 0, none⟩), .int .i64 m] w fun e w' => (∃ x : Int, e = .returned (.int .i64 x)) ∧ St w0 B p a len cap w' ∧ Step p w w' :=
  (l1Num w B p a len cap m m0 m1 w st.here).mono fun e w' ⟨h, s⟩ => ⟨h, St.on st.step s, s.step⟩

end Go.Proofs.YtimakfokgcnklaaGreat.Dr
namespace Go.Proofs.YtimakfokgcnklaaGreat.Di
open Go.ChangeShapes Go.WideShapes Go.ChangeAt Go.RowKit
open Dr (Step)
set_option linter.unusedVariables false

theorem St.lt {w0 : World} {B p : Nat} {a : Option Addr} {len cap : Nat} {w : World} (s : St w0 B p a len cap w) : p < w.heap.size := by
  obtain ⟨⟨i, h, c⟩, _⟩ := s
  exact World.block_lt_of_cell? _ _ c.c0
theorem St.here {w0 : World} {B p : Nat} {a : Option Addr} {len cap : Nat} {w : World} (s : St w0 B p a len cap w) : St w B p a len cap w := ⟨s.cur, Dr.Step.refl _ _⟩
theorem St.on {w0 w1 : World} {B p : Nat} {a : Option Addr} {len cap : Nat} {w : World} (k : Dr.Step p w0 w1) (s : St w1 B p a len cap w) : St w0 B p a len cap w := ⟨s.cur, k.trans s.step⟩
/-- Dice behind whatever has left its block, and all below, as they were. -/
theorem Cur.block {w w1 : World} {B p : Nat} {a : Option Addr} {len cap i : Nat} {h : Int} (c : Cur w B p a len cap i h) (hb : Below B w w1) (e : w1.heap[p]? = w.heap[p]?) : Cur w1 B p a len cap i h :=
  ⟨c.le, c.code.later hb, by rw [World.cell?_of_block (a := ⟨p, 0, none⟩) e]; exact c.c0, by rw [World.cell?_of_block (a := ⟨p, 1, none⟩) e]; exact c.c1, by rw [World.cell?_of_block (a := ⟨p, 2, none⟩) e]; exact c.c2,
    by rw [World.frozen?_of_block (a := ⟨p, 1, none⟩) e]; exact c.f1, by rw [World.frozen?_of_block (a := ⟨p, 2, none⟩) e]; exact c.f2, c.i_le⟩
theorem St.le {w0 : World} {B p : Nat} {a : Option Addr} {len cap : Nat} {w : World} (s : St w0 B p a len cap w) : B ≤ p := by
  obtain ⟨⟨i, h, c⟩, _⟩ := s
  exact c.le
theorem St.below {w0 : World} {B p : Nat} {a : Option Addr} {len cap : Nat} {w w1 : World} (s : St w0 B p a len cap w) (hb : Below w.heap.size w w1) : St w0 B p a len cap w1 := by
  have hl := s.lt
  obtain ⟨⟨i, h, c⟩, k⟩ := s
  exact ⟨⟨i, h, c.block (hb.mono (by have := c.le; omega)) (hb.block p hl)⟩, k.trans (Dr.Step.of_below hb)⟩
theorem St.drew' {w0 : World} {B p : Nat} {a : Option Addr} {len cap : Nat} {w : World} (s : St w0 B p a len cap w) : St w0 B p a len cap w.drew := s.below (Below.refl _ _).drew
theorem St.setNew {w0 : World} {B p : Nat} {a : Option Addr} {len cap : Nat} {w : World} (s : St w0 B p a len cap w) {q : Nat} (o : Nat) (hq : w0.heap.size ≤ q) (hp : q ≠ p) (hB : B ≤ q) (v : Value) : St w0 B p a len cap (w.setCell ⟨q, o, none⟩ v) := by
  obtain ⟨⟨i, h, c⟩, k⟩ := s
  exact ⟨⟨i, h, c.block ((Below.refl _ _).setCell hB _) (Below.heap_setCell _ _ _ _ (by simp; omega))⟩, k.setNew o hq v⟩
theorem St.obj {w0 : World} {B p : Nat} {a : Option Addr} {len cap : Nat} {w : World} (s : St w0 B p a len cap w) (o : Obj) : St w0 B p a len cap (w.alloc o) := s.below ((Below.refl _ _).alloc (Nat.le_refl _) _)
theorem St.six {w0 : World} {B p : Nat} {a : Option Addr} {len cap : Nat} {w : World} (s : St w0 B p a len cap w) {g : Nat} (hq : w0.heap.size ≤ g) (hp : g ≠ p) (hB : B ≤ g) (x0 x1 x2 x3 x4 x5 : Value) :
    St w0 B p a len cap ((((((w.setCell ⟨g, 0, none⟩ x0).setCell ⟨g, 1, none⟩ x1).setCell ⟨g, 2, none⟩ x2).setCell ⟨g, 3, none⟩ x3).setCell ⟨g, 4, none⟩ x4).setCell ⟨g, 5, none⟩ x5) :=
  (((((s.setNew 0 hq hp hB x0).setNew 1 hq hp hB x1).setNew 2 hq hp hB x2).setNew 3 hq hp hB x3).setNew 4 hq hp hB x4).setNew 5 hq hp hB x5

end Go.Proofs.YtimakfokgcnklaaGreat.Di
