/-
  What becomes of slices that a call owns, of a cursor, of dice, behind a step, a store, an append.
-/
import Derived.Test.YtimakfokgcnklaaGreatDq
import Derived.Test.YtimakfokgcnklaaGreatOwnAt
import Derived.Test.YtimakfokgcnklaaGreatRm
namespace Go.Proofs.YtimakfokgcnklaaGreat.Dg
open Go.ChangeShapes Go.WideShapes Go.ChangeAt Go.RowKit
open Ls (el Row)
open Ow (Has Own ints)
open Dr (Step)
set_option linter.unusedVariables false
set_option linter.unusedSimpArgs false

theorem no_nil {v v' : Value} {p : Prop} {a : Addr} {n c : Nat} (h : v' = .slice none 0 0 ↔ v = .slice none 0 0 ∧ p) (hv : v = .slice (some a) n c) : v' ≠ .slice none 0 0 := fun e => by
  have := (h.1 e).1
  rw [hv] at this
  cases this

theorem one_new (w : World) (x : Int) (t : TypeId) (b : Nat) (hb : b = w.heap.size) : ∀ j u, (ints [x])[j]? = some u → (w.alloc (.cells #[.int .i64 x] t)).cell? ((⟨b, 0, none⟩ : Addr).add j) = some u := by
  intro j u hj
  subst hb
  match j, hj with
  | 0, hj =>
    rw [Ow.addr_add]
    simp [ints] at hj
    subst hj
    simp
  | j + 1, hj => simp [ints] at hj
theorem own_step {w w' : World} {p B g n c : Nat} {zs : List Int} (h : Own w B g n c zs) (s : Step p w w') (hne : g ≠ p) : Own w' B g n c zs := by
  obtain ⟨h1, h2⟩ := h
  refine ⟨h1, ?_⟩
  rcases h2 with h2 | ⟨g', cap', cur, e, hB, hb', rest⟩
  · exact .inl h2
  · cases e
    exact .inr ⟨g, c, cur, rfl, hB, by rw [s.block g (Array.getElem?_eq_some_iff.1 hb').1 hne]; exact hb', rest⟩
theorem room_step {p : Nat} {w w1 : World} {g : Nat} {vs : List Value} (h : Rm.Room w g vs) (s : Step p w w1) (hne : g ≠ p) : Rm.Room w1 g vs := Dr.Room.step h s hne
theorem step_grown {p g : Nat} {w0 w w' : World} (k : Step p w0 w) (hg : w.grownBy w' (some g)) (h0 : w0.heap.size ≤ g) : Step p w0 w' :=
  ⟨hg.os.trans k.os, hg.tape.trans k.tape, hg.output.trans k.output, Nat.le_trans k.size hg.size, fun j hj hn => by
    rw [hg.block j (Nat.lt_of_lt_of_le hj k.size) (by simp; omega)]; exact k.block j hj hn⟩
theorem dr_grown {w0 w w' : World} {B p g : Nat} {a : Option Addr} {len cap : Nat} (s : Dr.St w0 B p a len cap w) (hg : w.grownBy w' (some g)) (hp : g ≠ p) (hB : B ≤ g) (h0 : w0.heap.size ≤ g) : Dr.St w0 B p a len cap w' := by
  obtain ⟨⟨i, h, c⟩, k⟩ := s
  have hpl : p < w.heap.size := World.block_lt_of_cell? _ _ c.c0
  have e : w'.heap[p]? = w.heap[p]? := hg.block p hpl (by simp; omega)
  have ec : ∀ o, w'.cell? ⟨p, o, none⟩ = w.cell? ⟨p, o, none⟩ := fun o => World.cell?_of_block (a := ⟨p, o, none⟩) e
  have ef : ∀ o, w'.frozen? ⟨p, o, none⟩ = w.frozen? ⟨p, o, none⟩ := fun o => World.frozen?_of_block (a := ⟨p, o, none⟩) e
  exact ⟨⟨i, h, c.le, c.code.later ((Below.refl _ _).grown hg (by have := c.le; omega) (by intro j hj; cases hj; exact hB)), by rw [ec]; exact c.c0, by rw [ec]; exact c.c1, by rw [ec]; exact c.c2, by rw [ef]; exact c.f1, by rw [ef]; exact c.f2, c.i_le⟩, step_grown k hg h0⟩
theorem di_grown {w0 w w' : World} {B p g : Nat} {a : Option Addr} {len cap : Nat} (s : Di.St w0 B p a len cap w) (hg : w.grownBy w' (some g)) (hp : g ≠ p) (hB : B ≤ g) (h0 : w0.heap.size ≤ g) : Di.St w0 B p a len cap w' := by
  obtain ⟨⟨i, h, c⟩, k⟩ := s
  have hpl : p < w.heap.size := World.block_lt_of_cell? _ _ c.c0
  have e : w'.heap[p]? = w.heap[p]? := hg.block p hpl (by simp; omega)
  have ec : ∀ o, w'.cell? ⟨p, o, none⟩ = w.cell? ⟨p, o, none⟩ := fun o => World.cell?_of_block (a := ⟨p, o, none⟩) e
  have ef : ∀ o, w'.frozen? ⟨p, o, none⟩ = w.frozen? ⟨p, o, none⟩ := fun o => World.frozen?_of_block (a := ⟨p, o, none⟩) e
  exact ⟨⟨i, h, c.le, c.code.later ((Below.refl _ _).grown hg (by have := c.le; omega) (by intro j hj; cases hj; exact hB)), by rw [ec]; exact c.c0, by rw [ec]; exact c.c1, by rw [ec]; exact c.c2, by rw [ef]; exact c.f1, by rw [ef]; exact c.f2, c.i_le⟩, step_grown k hg h0⟩
theorem own_put {w : World} {B g n c j : Nat} {zs : List Int} (h : Own w B g n c zs) (hj : j < n) (x : Int) : Own (w.setCell ⟨g, j, none⟩ (.int .i64 x)) B g n c (zs.set j x) := by
  obtain ⟨h1, hB, h2, h2', cur, hb, h3, h4⟩ := h.data
  refine ⟨by simp [ints]; omega, .inr ⟨g, c, cur.setIfInBounds j (.int .i64 x), rfl, hB, ?_, h2, h2', by simp; omega, ?_⟩⟩
  · simp [World.setCell, Array.getElem?_modify, hb]
  · rw [Nat.mul_one, Array.toList_setIfInBounds, List.take_set, h4, ints, ints, List.map_set]
theorem grown {w0 w w' : World} {B p : Nat} {row : Option Nat} {a : Option Addr} {len cap : Nat} (s : Dr.St w0 B p a len cap w) (hg : w.grownBy w' row) (hr : ∀ g, row = some g → g ≠ p ∧ B ≤ g ∧ w0.heap.size ≤ g) : Dr.St w0 B p a len cap w' := by
  cases row with
  | some g => exact dr_grown s hg (hr g rfl).1 (hr g rfl).2.1 (hr g rfl).2.2
  | none => exact s.below ⟨hg.os, hg.tape, hg.output, hg.size, fun k hk => hg.block k hk (by simp)⟩
theorem grownd {w0 w w' : World} {B p : Nat} {row : Option Nat} {a : Option Addr} {len cap : Nat} (s : Di.St w0 B p a len cap w) (hg : w.grownBy w' row) (hr : ∀ g, row = some g → g ≠ p ∧ B ≤ g ∧ w0.heap.size ≤ g) : Di.St w0 B p a len cap w' := by
  cases row with
  | some g => exact di_grown s hg (hr g rfl).1 (hr g rfl).2.1 (hr g rfl).2.2
  | none => exact s.below ⟨hg.os, hg.tape, hg.output, hg.size, fun k hk => hg.block k hk (by simp)⟩
theorem l1From' (w0 : World) (B p : Nat) (a : Option Addr) (len cap : Nat) (lo hi : Int) (h1 : lo ≤ hi) (h2 : -4000000000 ≤ lo) (h3 : hi ≤ 4000000000) (w : World) (st : Dr.St w0 B p a len cap w) :
    Calls Tryz.prog 89 #[.pointer (some ⟨p, 0, none⟩), .int .i64 lo, .int .i64 hi] w fun e w' => (∃ y : Int, e = .returned (.int .i64 y) ∧ lo ≤ y ∧ y ≤ hi) ∧ Dr.St w0 B p a len cap w' ∧ Step p w w' :=
  (Dr.l1From w B p a len cap lo hi h1 h2 h3 w st.here).mono fun e w' ⟨h, s⟩ => ⟨h, Dr.St.on st.step s, s.step⟩

end Go.Proofs.YtimakfokgcnklaaGreat.Dg
