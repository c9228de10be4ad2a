/-
  Slices of int64s that nothing else holds: a copy of one, one that is marked, one whose marks are held.
-/
import Derived.Test.YtimakfokgcnklaaOwn
namespace Go.Proofs.Ytimakfokgcnklaa.Ow
open Go.ChangeShapes Go.WideShapes Go.ChangeAt Go.RowKit
open Ls (el Row)
set_option linter.unusedVariables false

/-- From cell off of block g on, which is no older than B, lie zs, and can be written. -/
def Has (w : World) (B g off n : Nat) (zs : List Int) : Prop :=
  zs.length = n ∧ B ≤ g ∧ g < w.heap.size ∧ (∀ k, k < n → w.cell? ⟨g, off + k, none⟩ = some (.int .i64 (el zs k))) ∧ ∀ k, k < n → w.frozen? ⟨g, off + k, none⟩ = false

theorem Has.row {w : World} {B g off n : Nat} {zs : List Int} (h : Has w B g off n zs) : Row w w.heap.size (some ⟨g, off, none⟩) n zs :=
  ⟨h.1, .inr ⟨g, off, rfl, h.2.2.1, h.2.2.2.1⟩⟩
theorem Has.later {w w' : World} {B B' g off n : Nat} {zs : List Int} (h : Has w B g off n zs) (hb : Below B' w w') (hg : g < B') : Has w' B g off n zs :=
  ⟨h.1, h.2.1, by have := hb.size; have := h.2.2.1; omega, fun k hk => by rw [hb.cell (p := ⟨g, off + k, none⟩) hg]; exact h.2.2.2.1 k hk, fun k hk => by rw [hb.frozen (p := ⟨g, off + k, none⟩) hg]; exact h.2.2.2.2 k hk⟩
theorem Has.kept {w w' : World} {B b g off n : Nat} {zs : List Int} (h : Has w B g off n zs) (hg : w.grownBy w' (some b)) (hne : g ≠ b) : Has w' B g off n zs := by
  have e : w'.heap[g]? = w.heap[g]? := hg.block g h.2.2.1 (by simpa using hne)
  exact ⟨h.1, h.2.1, by have := hg.size; have := h.2.2.1; omega, fun k hk => by rw [World.cell?_of_block (w := w) (a := ⟨g, off + k, none⟩) e]; exact h.2.2.2.1 k hk, fun k hk => by rw [World.frozen?_of_block (w := w) (a := ⟨g, off + k, none⟩) e]; exact h.2.2.2.2 k hk⟩
theorem Has.setOther {w : World} {B g off n : Nat} {zs : List Int} (h : Has w B g off n zs) {q : Nat} (hne : q ≠ g) (i : Nat) (u : Value) : Has (w.setCell ⟨q, i, none⟩ u) B g off n zs :=
  ⟨h.1, h.2.1, by simpa using h.2.2.1, fun k hk => by rw [World.cell?_setCell_other _ _ _ _ (by simp <;> omega)]; exact h.2.2.2.1 k hk, fun k hk => by rw [World.frozen?_setCell]; exact h.2.2.2.2 k hk⟩
theorem Has.mono {w : World} {B B' g off n : Nat} {zs : List Int} (h : Has w B g off n zs) (hB : B' ≤ B) : Has w B' g off n zs := ⟨h.1, by have := h.2.1; omega, h.2.2⟩
theorem Row.kept {w w' : World} {B b n : Nat} {a : Option Addr} {zs : List Int} (h : Row w B a n zs) (hg : w.grownBy w' (some b)) (hb : B ≤ b) (hB : B ≤ w.heap.size) : Row w' B a n zs := by
  obtain ⟨h1, h2⟩ := h
  refine ⟨h1, ?_⟩
  rcases h2 with h2 | ⟨g, off, e, hB1, hc⟩
  · exact .inl h2
  · refine .inr ⟨g, off, e, hB1, fun k hk => ?_⟩
    have e : w'.heap[g]? = w.heap[g]? := hg.block g (by omega) (by simp; omega)
    rw [World.cell?_of_block (w := w) (a := ⟨g, off + k, none⟩) e]
    exact hc k hk

theorem Own.part {w : World} {B g n cap : Nat} {zs : List Int} (h : Own w B g n cap zs) (f l : Nat) (hl : f + l ≤ n) : Has w B g f l ((zs.drop f).take l) := by
  have hz := h.data.1
  refine ⟨by simp; omega, h.data.2.1, h.lt, fun k hk => ?_, fun k hk => (h.cell (f + k) (by omega)).2⟩
  rw [(h.cell (f + k) (by omega)).1]
  simp [el, List.getD, hk]
theorem Own.has {w : World} {B g n cap : Nat} {zs : List Int} (h : Own w B g n cap zs) : Has w B g 0 n zs := by
  have := h.part 0 n (by omega)
  rw [List.drop_zero, List.take_of_length_le (by have := h.data.1; omega)] at this
  exact this

theorem has_new {w : World} {B b n : Nat} {zs : List Int} (hz : zs.length = n) (hB : B ≤ b) (h : w.rowIs b 2 n (Ls.part zs n)) : Has w B b 0 n zs :=
  ⟨hz, hB, h.lt, fun k hk => by rw [Nat.zero_add, h.cell hk, Ls.part, if_pos hk], fun k hk => h.frozen _⟩

/-- What is written when n are marked. -/
def marks (s : Int) (n : Nat) : List Int := (List.range n).map fun k : Nat => s + (k : Int)
theorem el_marks {s : Int} {n k : Nat} (h : k < n) : el (marks s n) k = s + (k : Int) := by simp [el, marks, List.getD, h]

theorem set_step {s : Int} {w wr : World} {g off k n : Nat} (hg : w.grownBy wr (some g)) (hk : k < n) (h1 : ∀ j, j < k → wr.cell? ⟨g, off + j, none⟩ = some (.int .i64 (s + (j : Int)))) (h2 : ∀ j, j < n → ∃ v, wr.cell? ⟨g, off + j, none⟩ = some v) (h3 : ∀ j, j < n → wr.frozen? ⟨g, off + j, none⟩ = false) (u : Value) (hu : u = .int .i64 (s + (k : Int))) :
    w.grownBy (wr.setCell ⟨g, off + k, none⟩ u) (some g) ∧ (∀ j, j < k + 1 → (wr.setCell ⟨g, off + k, none⟩ u).cell? ⟨g, off + j, none⟩ = some (.int .i64 (s + (j : Int)))) ∧ (∀ j, j < n → ∃ v, (wr.setCell ⟨g, off + k, none⟩ u).cell? ⟨g, off + j, none⟩ = some v) ∧ ∀ j, j < n → (wr.setCell ⟨g, off + k, none⟩ u).frozen? ⟨g, off + j, none⟩ = false := by
  subst hu
  obtain ⟨v0, hv0⟩ := h2 k hk
  refine ⟨⟨hg.os, hg.tape, hg.output, by have := hg.size; simpa using this, fun j hj hne => ?_⟩, fun j hj => ?_, fun j hj => ?_, fun j hj => ?_⟩
  · rw [Below.heap_setCell _ _ _ _ (by simpa using hne)]; exact hg.block j hj hne
  · by_cases e : j = k
    · subst e; exact World.cell?_setCell_same _ _ _ hv0
    · rw [World.cell?_setCell_other _ _ _ _ (by simp <;> omega)]; exact h1 j (by omega)
  · by_cases e : j = k
    · subst e; exact ⟨_, World.cell?_setCell_same _ _ _ hv0⟩
    · rw [World.cell?_setCell_other _ _ _ _ (by simp <;> omega)]; exact h2 j hj
  · rw [World.frozen?_setCell]; exact h3 j hj

end Go.Proofs.Ytimakfokgcnklaa.Ow
