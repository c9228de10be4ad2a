/-
  A block of cells that can be read and written: what becomes of it behind a step, a call, a store.
-/
import Derived.Test.YtimakfokgcnklaaGreatDraw2
namespace Go.Proofs.YtimakfokgcnklaaGreat.Dr
open Go.ChangeShapes Go.WideShapes Go.ChangeAt Go.RowKit
set_option linter.unusedVariables false

/-- At block g, from its start on, lie these values, and can be written. -/
def Room (w : World) (g : Nat) (vs : List Value) : Prop := ∀ i v, vs[i]? = some v → w.cell? ⟨g, i, none⟩ = some v ∧ w.frozen? ⟨g, i, none⟩ = false

theorem Room.cell {w : World} {g : Nat} {vs : List Value} (h : Room w g vs) (i : Nat) {v : Value} (hv : vs[i]? = some v) : w.cell? ⟨g, i, none⟩ = some v := (h i v hv).1
theorem Room.froz {w : World} {g : Nat} {vs : List Value} (h : Room w g vs) (i : Nat) {v : Value} (hv : vs[i]? = some v) : w.frozen? ⟨g, i, none⟩ = false := (h i v hv).2
theorem Room.lt {w : World} {g : Nat} {vs : List Value} (h : Room w g vs) (hn : 0 < vs.length) : g < w.heap.size :=
  World.block_lt_of_cell? _ _ (h 0 _ (List.getElem?_eq_getElem hn)).1
theorem Room.block {w w1 : World} {g : Nat} {vs : List Value} (h : Room w g vs) (e : w1.heap[g]? = w.heap[g]?) : Room w1 g vs := fun i v hv => by
  obtain ⟨a, b⟩ := h i v hv
  exact ⟨by rw [World.cell?_of_block (a := ⟨g, i, none⟩) e]; exact a, by rw [World.frozen?_of_block (a := ⟨g, i, none⟩) e]; exact b⟩
theorem Room.step {p : Nat} {w w1 : World} {g : Nat} {vs : List Value} (h : Room w g vs) (s : Step p w w1) (hne : g ≠ p) : Room w1 g vs := by
  by_cases hn : 0 < vs.length
  · exact h.block (s.block g (h.lt hn) hne)
  · intro i v hv
    have : vs = [] := List.eq_nil_of_length_eq_zero (by omega)
    subst this; cases hv
theorem Room.below {w w1 : World} {g : Nat} {vs : List Value} (h : Room w g vs) (hb : Below w.heap.size w w1) : Room w1 g vs := by
  by_cases hn : 0 < vs.length
  · exact h.block (hb.block g (h.lt hn))
  · intro i v hv
    have : vs = [] := List.eq_nil_of_length_eq_zero (by omega)
    subst this; cases hv
theorem Room.set {w : World} {g : Nat} {vs : List Value} (h : Room w g vs) (i : Nat) (u : Value) : Room (w.setCell ⟨g, i, none⟩ u) g (vs.set i u) := fun j v hv => by
  by_cases e : i = j
  · subst e
    by_cases hi : i < vs.length
    · rw [List.getElem?_set_self hi] at hv
      cases hv
      have q := h i _ (List.getElem?_eq_getElem hi)
      exact ⟨World.cell?_setCell_same _ _ _ q.1, by rw [World.frozen?_setCell]; exact q.2⟩
    · rw [List.getElem?_eq_none (by simp; omega)] at hv; cases hv
  · rw [List.getElem?_set_ne e] at hv
    have q := h j v hv
    exact ⟨by rw [World.cell?_setCell_other _ _ _ _ (by simp <;> omega)]; exact q.1, by rw [World.frozen?_setCell]; exact q.2⟩
theorem Room.setOther {w : World} {g q : Nat} {vs : List Value} (h : Room w g vs) (hne : q ≠ g) (i : Nat) (u : Value) : Room (w.setCell ⟨q, i, none⟩ u) g vs := fun j v hv => by
  have k := h j v hv
  exact ⟨by rw [World.cell?_setCell_other _ _ _ _ (by simp <;> omega)]; exact k.1, by rw [World.frozen?_setCell]; exact k.2⟩
theorem Room.new (w : World) (vs : List Value) (t : TypeId) : Room (w.alloc (.cells vs.toArray t)) w.heap.size vs := fun i v hv =>
  ⟨by rw [World.cell?_alloc_new]; simpa using hv, by rw [frozen?_alloc_cells]; simp [World.frozen?]⟩
theorem Room.alloc {w : World} {g : Nat} {vs : List Value} (h : Room w g vs) (o : Obj) : Room (w.alloc o) g vs := by
  by_cases hn : 0 < vs.length
  · exact h.block (Below.heap_alloc _ _ _ (h.lt hn))
  · intro i v hv
    have : vs = [] := List.eq_nil_of_length_eq_zero (by omega)
    subst this; cases hv
theorem Room.drew {w : World} {g : Nat} {vs : List Value} (h : Room w g vs) : Room w.drew g vs := h
theorem Room.drewN {w : World} {g : Nat} {vs : List Value} (h : Room w g vs) (n : Nat) : Room (w.drewN n) g vs := h
/-- A whole struct of six stored. -/
theorem Room.six {w : World} {g : Nat} {a b c d e f : Value} (h : Room w g [a, b, c, d, e, f]) (x0 x1 x2 x3 x4 x5 : Value) :
    Room ((((((w.setCell ⟨g, 0, none⟩ x0).setCell ⟨g, 1, none⟩ x1).setCell ⟨g, 2, none⟩ x2).setCell ⟨g, 3, none⟩ x3).setCell ⟨g, 4, none⟩ x4).setCell ⟨g, 5, none⟩ x5) g [x0, x1, x2, x3, x4, x5] :=
  (((((h.set 0 x0).set 1 x1).set 2 x2).set 3 x3).set 4 x4).set 5 x5

theorem Step.of_below {p : Nat} {w w' : World} (h : Below w.heap.size w w') : Step p w w' := ⟨h.os, h.tape, h.output, h.size, fun k hk _ => h.block k hk⟩
theorem Step.drew {p : Nat} {a w : World} (h : Step p a w) : Step p a w.drew := h.trans ⟨rfl, rfl, rfl, Nat.le_refl _, fun _ _ _ => rfl⟩
theorem Step.setNew {p : Nat} {w0 w : World} (h : Step p w0 w) {q : Nat} (o : Nat) (hq : w0.heap.size ≤ q) (v : Value) : Step p w0 (w.setCell ⟨q, o, none⟩ v) :=
  ⟨h.os, h.tape, h.output, by simpa [World.setCell] using h.size, fun j hj hn => by
    rw [Below.heap_setCell _ _ _ _ (by simp; omega)]; exact h.block j hj hn⟩

/-- A cursor behind whatever has left its block, and all below, as they were. -/
theorem Cur.block {w w1 : World} {B p : Nat} {a : Option Addr} {len cap i : Nat} {h : Int} (c : Cur w B p a len cap i h) (hb : Below B w w1) (e : w1.heap[p]? = w.heap[p]?) : Cur w1 B p a len cap i h :=
  ⟨c.le, c.code.later hb, by rw [World.cell?_of_block (a := ⟨p, 0, none⟩) e]; exact c.c0, by rw [World.cell?_of_block (a := ⟨p, 1, none⟩) e]; exact c.c1, by rw [World.cell?_of_block (a := ⟨p, 2, none⟩) e]; exact c.c2,
    by rw [World.frozen?_of_block (a := ⟨p, 1, none⟩) e]; exact c.f1, by rw [World.frozen?_of_block (a := ⟨p, 2, none⟩) e]; exact c.f2, c.i_le⟩
theorem St.le {w0 : World} {B p : Nat} {a : Option Addr} {len cap : Nat} {w : World} (s : St w0 B p a len cap w) : B ≤ p := by
  obtain ⟨⟨i, h, c⟩, _⟩ := s
  exact c.le
theorem St.below {w0 : World} {B p : Nat} {a : Option Addr} {len cap : Nat} {w w1 : World} (s : St w0 B p a len cap w) (hb : Below w.heap.size w w1) : St w0 B p a len cap w1 := by
  have hl := s.lt
  obtain ⟨⟨i, h, c⟩, k⟩ := s
  exact ⟨⟨i, h, c.block (hb.mono (by have := c.le; omega)) (hb.block p hl)⟩, k.trans (Step.of_below hb)⟩
theorem St.drew' {w0 : World} {B p : Nat} {a : Option Addr} {len cap : Nat} {w : World} (s : St w0 B p a len cap w) : St w0 B p a len cap w.drew := s.below (Below.refl _ _).drew
theorem St.setNew {w0 : World} {B p : Nat} {a : Option Addr} {len cap : Nat} {w : World} (s : St w0 B p a len cap w) {q : Nat} (o : Nat) (hq : w0.heap.size ≤ q) (hp : q ≠ p) (hB : B ≤ q) (v : Value) : St w0 B p a len cap (w.setCell ⟨q, o, none⟩ v) := by
  obtain ⟨⟨i, h, c⟩, k⟩ := s
  exact ⟨⟨i, h, c.block ((Below.refl _ _).setCell hB _) (Below.heap_setCell _ _ _ _ (by simp; omega))⟩, k.setNew o hq v⟩
theorem St.obj {w0 : World} {B p : Nat} {a : Option Addr} {len cap : Nat} {w : World} (s : St w0 B p a len cap w) (o : Obj) : St w0 B p a len cap (w.alloc o) := s.below ((Below.refl _ _).alloc (Nat.le_refl _) _)
theorem St.six {w0 : World} {B p : Nat} {a : Option Addr} {len cap : Nat} {w : World} (s : St w0 B p a len cap w) {g : Nat} (hq : w0.heap.size ≤ g) (hp : g ≠ p) (hB : B ≤ g) (x0 x1 x2 x3 x4 x5 : Value) :
    St w0 B p a len cap ((((((w.setCell ⟨g, 0, none⟩ x0).setCell ⟨g, 1, none⟩ x1).setCell ⟨g, 2, none⟩ x2).setCell ⟨g, 3, none⟩ x3).setCell ⟨g, 4, none⟩ x4).setCell ⟨g, 5, none⟩ x5) :=
  (((((s.setNew 0 hq hp hB x0).setNew 1 hq hp hB x1).setNew 2 hq hp hB x2).setNew 3 hq hp hB x3).setNew 4 hq hp hB x4).setNew 5 hq hp hB x5

end Go.Proofs.YtimakfokgcnklaaGreat.Dr
