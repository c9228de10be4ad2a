/-
  Slices of int64s that a call has made itself.
-/
import Derived.Test.YtimakfokgcnklaaGreatList
import Derived.OwnWalk
namespace Go.Proofs.YtimakfokgcnklaaGreat.Ow
open Go.ChangeShapes Go.WideShapes Go.ChangeAt Go.RowKit
open Ls (el Row)
set_option linter.unusedVariables false

def ints (zs : List Int) : List Value := zs.map (Value.int .i64)
theorem ints_len (zs : List Int) : (ints zs).length = zs.length := by simp [ints]

/-- The slice at block g, which is no older than B, holds zs. -/
abbrev Own (w : World) (B g n cap : Nat) (zs : List Int) : Prop := w.ownsRow B 2 1 (.slice (some ⟨g, 0, none⟩) n cap) n (ints zs)

theorem Own.data {w : World} {B g n cap : Nat} {zs : List Int} (h : Own w B g n cap zs) :
    zs.length = n ∧ B ≤ g ∧ n ≤ cap ∧ cap ≤ maxLen ∧ ∃ cur, w.heap[g]? = some (.cells cur 2 (0, 0)) ∧ cur.size = cap ∧ cur.toList.take n = ints zs := by
  obtain ⟨h1, h2⟩ := h
  rw [ints_len, Nat.mul_one] at h1
  rcases h2 with ⟨h2, _⟩ | ⟨g', cap', cur, e, hB, hb, h3, h4, h5, h6⟩
  · cases h2
  · cases e
    exact ⟨h1, hB, h3, h4, cur, hb, by omega, by rw [Nat.mul_one] at h6; exact h6⟩

theorem Own.lt {w : World} {B g n cap : Nat} {zs : List Int} (h : Own w B g n cap zs) : g < w.heap.size := by
  obtain ⟨_, _, _, _, cur, hb, _⟩ := h.data
  exact (Array.getElem?_eq_some_iff.1 hb).1

theorem Own.cell {w : World} {B g n cap : Nat} {zs : List Int} (h : Own w B g n cap zs) (k : Nat) (hk : k < n) :
    w.cell? ⟨g, k, none⟩ = some (.int .i64 (el zs k)) ∧ w.frozen? ⟨g, k, none⟩ = false := by
  obtain ⟨h1, _, _, _, cur, hb, h3, h4⟩ := h.data
  have hk' : k < zs.length := by omega
  refine ⟨?_, by simp [World.frozen?, hb]⟩
  have h5 : (cur.toList.take n)[k]? = (ints zs)[k]? := by rw [h4]
  rw [List.getElem?_take_of_lt hk] at h5
  simp only [World.cell?, hb]
  simp only [Option.isSome_none, Bool.false_eq_true, if_false]
  rw [← Array.getElem?_toList, h5]
  simp [ints, el, List.getD, hk']

theorem Own.row {w : World} {B g n cap : Nat} {zs : List Int} (h : Own w B g n cap zs) : Row w w.heap.size (some ⟨g, 0, none⟩) n zs :=
  ⟨h.data.1, .inr ⟨g, 0, rfl, h.lt, fun k hk => by rw [Nat.zero_add]; exact (h.cell k hk).1⟩⟩

theorem Own.take {w : World} {B g n cap : Nat} {zs : List Int} (h : Own w B g n cap zs) (k : Nat) (hk : k ≤ n) : Own w B g k cap (zs.take k) := by
  obtain ⟨h1, hB, h2, h2', cur, hb, h3, h4⟩ := h.data
  refine ⟨by simp [ints]; omega, .inr ⟨g, cap, cur, rfl, hB, hb, by omega, h2', by omega, ?_⟩⟩
  rw [Nat.mul_one, ints, List.map_take, ← ints, ← h4, List.take_take, Nat.min_eq_left hk]

theorem Own.later {w w' : World} {B B' g n cap : Nat} {zs : List Int} (h : Own w B g n cap zs) (hb : Below B' w w') (hg : g < B') : Own w' B g n cap zs := by
  obtain ⟨h1, h2⟩ := h
  refine ⟨h1, ?_⟩
  rcases h2 with h2 | ⟨g', cap', cur, e, hB, hb', rest⟩
  · exact .inl h2
  · cases e
    exact .inr ⟨g, cap, cur, rfl, hB, by rw [hb.block g hg]; exact hb', rest⟩

theorem Own.mono {w : World} {B B' g n cap : Nat} {zs : List Int} (h : Own w B g n cap zs) (hB : B' ≤ B) : Own w B' g n cap zs := by
  obtain ⟨h1, h2⟩ := h
  refine ⟨h1, ?_⟩
  rcases h2 with h2 | ⟨g', cap', cur, e, hB', rest⟩
  · exact .inl h2
  · exact .inr ⟨g', cap', cur, e, by omega, rest⟩

/-- A row that was appended to: no nil comes of it. -/
theorem own_of {w : World} {B n : Nat} {v : Value} {xs : List Value} {zs : List Int} (h : w.ownsRow B 2 1 v n xs) (hx : xs = ints zs) (hv : v ≠ .slice none 0 0) : ∃ g cap, v = .slice (some ⟨g, 0, none⟩) n cap ∧ Own w B g n cap zs := by
  subst hx
  rcases h.2 with ⟨h2, _⟩ | ⟨g', cap', cur, e, rest⟩
  · exact absurd h2 hv
  · exact ⟨g', cap', e, by rw [e] at h; exact h⟩

theorem addr_add (b off j : Nat) : (⟨b, off, none⟩ : Addr).add j = ⟨b, off + j, none⟩ := by
  unfold Addr.add; split <;> simp_all

theorem news {w : World} {b off n : Nat} {zs : List Int} (hz : zs.length = n) (h : ∀ k, k < n → w.cell? ⟨b, off + k, none⟩ = some (.int .i64 (el zs k))) :
    ∀ j u, (ints zs)[j]? = some u → w.cell? ((⟨b, off, none⟩ : Addr).add j) = some u := by
  intro j u hu
  rw [addr_add]
  have hj : j < zs.length := by
    have := (List.getElem?_eq_some_iff.1 hu).1
    rw [ints_len] at this
    exact this
  rw [h j (by omega), ← hu]
  simp [ints, el, List.getD, hj]

theorem one (zs : List Int) : ∀ u ∈ ints zs, u.oneCell' = true := ints_oneCell _ _

end Go.Proofs.YtimakfokgcnklaaGreat.Ow
