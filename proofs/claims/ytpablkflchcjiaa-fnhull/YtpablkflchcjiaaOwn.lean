/-
  Slices of int64s that a call has made itself; impl.inOrder and impl.Sorted: the sorted list, in new memory.
-/
import Derived.Test.YtpablkflchcjiaaList
import Derived.Test.YtpablkflchcjiaaSrt
import Derived.Sort.OwnSortedInts
import Derived.OwnWalk
namespace Go.Proofs.Ytpablkflchcjiaa.Ow
open Go.ChangeShapes Go.WideShapes Go.ChangeAt Go.RowKit Go.Sort
open Ls (el Row)
set_option linter.unusedVariables false

def ints (zs : List Int) : List Value := zs.map (Value.int .i64)
theorem ints_len (zs : List Int) : (ints zs).length = zs.length := by simp [ints]

/-- The slice at block g, which is no older than B, holds zs. -/
abbrev Own (w : World) (B g n cap : Nat) (zs : List Int) : Prop := w.ownsRow B 2 1 (.slice (some ⟨g, 0, none⟩) n cap) n (ints zs)

theorem Own.data {w : World} {B g n cap : Nat} {zs : List Int} (h : Own w B g n cap zs) :
    zs.length = n ∧ B ≤ g ∧ n ≤ cap ∧ cap ≤ maxLen ∧ ∃ cur, w.heap[g]? = some (.cells cur 2 (0, 0)) ∧ cur.size = cap ∧ cur.toList.take n = ints zs := by
  obtain ⟨h1, h2⟩ := h
  rw [ints_len, Nat.mul_one] at h1
  rcases h2 with ⟨h2, _⟩ | ⟨g', cap', cur, e, hB, hb, h3, h4, h5, h6⟩
  · cases h2
  · cases e
    exact ⟨h1, hB, h3, h4, cur, hb, by omega, by rw [Nat.mul_one] at h6; exact h6⟩

theorem Own.lt {w : World} {B g n cap : Nat} {zs : List Int} (h : Own w B g n cap zs) : g < w.heap.size := by
  obtain ⟨_, _, _, _, cur, hb, _⟩ := h.data
  exact (Array.getElem?_eq_some_iff.1 hb).1

theorem Own.cell {w : World} {B g n cap : Nat} {zs : List Int} (h : Own w B g n cap zs) (k : Nat) (hk : k < n) :
    w.cell? ⟨g, k, none⟩ = some (.int .i64 (el zs k)) ∧ w.frozen? ⟨g, k, none⟩ = false := by
  obtain ⟨h1, _, _, _, cur, hb, h3, h4⟩ := h.data
  have hH := holds_of_blockI (ss := zs) hb (by rw [h1]; exact h4) k (by simp; omega)
  rw [Nat.zero_add] at hH
  refine ⟨?_, hH.2⟩
  rw [hH.1]
  simp [el, List.getD, show k < zs.length by omega]

theorem Own.row {w : World} {B g n cap : Nat} {zs : List Int} (h : Own w B g n cap zs) : Row w w.heap.size (some ⟨g, 0, none⟩) n zs :=
  ⟨h.data.1, .inr ⟨g, 0, rfl, h.lt, fun k hk => by rw [Nat.zero_add]; exact (h.cell k hk).1⟩⟩

theorem Own.take {w : World} {B g n cap : Nat} {zs : List Int} (h : Own w B g n cap zs) (k : Nat) (hk : k ≤ n) : Own w B g k cap (zs.take k) := by
  obtain ⟨h1, hB, h2, h2', cur, hb, h3, h4⟩ := h.data
  refine ⟨by simp [ints]; omega, .inr ⟨g, cap, cur, rfl, hB, hb, by omega, h2', by omega, ?_⟩⟩
  rw [Nat.mul_one, ints, List.map_take, ← ints, ← h4, List.take_take, Nat.min_eq_left hk]

theorem Own.later {w w' : World} {B B' g n cap : Nat} {zs : List Int} (h : Own w B g n cap zs) (hb : Below B' w w') (hg : g < B') : Own w' B g n cap zs := by
  obtain ⟨h1, h2⟩ := h
  refine ⟨h1, ?_⟩
  rcases h2 with h2 | ⟨g', cap', cur, e, hB, hb', rest⟩
  · exact .inl h2
  · cases e
    exact .inr ⟨g, cap, cur, rfl, hB, by rw [hb.block g hg]; exact hb', rest⟩

theorem Own.mono {w : World} {B B' g n cap : Nat} {zs : List Int} (h : Own w B g n cap zs) (hB : B' ≤ B) : Own w B' g n cap zs := by
  obtain ⟨h1, h2⟩ := h
  refine ⟨h1, ?_⟩
  rcases h2 with h2 | ⟨g', cap', cur, e, hB', rest⟩
  · exact .inl h2
  · exact .inr ⟨g', cap', cur, e, by omega, rest⟩

/-- A row that was appended to: no nil comes of it. -/
theorem own_of {w : World} {B n : Nat} {v : Value} {xs : List Value} {zs : List Int} (h : w.ownsRow B 2 1 v n xs) (hx : xs = ints zs) (hv : v ≠ .slice none 0 0) : ∃ g cap, v = .slice (some ⟨g, 0, none⟩) n cap ∧ Own w B g n cap zs := by
  subst hx
  rcases h.2 with ⟨h2, _⟩ | ⟨g', cap', cur, e, rest⟩
  · exact absurd h2 hv
  · exact ⟨g', cap', e, by rw [e] at h; exact h⟩

theorem addr_add (b off j : Nat) : (⟨b, off, none⟩ : Addr).add j = ⟨b, off + j, none⟩ := by
  unfold Addr.add; split <;> simp_all

theorem news {w : World} {b off n : Nat} {zs : List Int} (hz : zs.length = n) (h : ∀ k, k < n → w.cell? ⟨b, off + k, none⟩ = some (.int .i64 (el zs k))) :
    ∀ j u, (ints zs)[j]? = some u → w.cell? ((⟨b, off, none⟩ : Addr).add j) = some u := by
  intro j u hu
  rw [addr_add]
  have hj : j < zs.length := by
    have := (List.getElem?_eq_some_iff.1 hu).1
    rw [ints_len] at this
    exact this
  rw [h j (by omega), ← hu]
  simp [ints, el, List.getD, hj]

theorem one (zs : List Int) : ∀ u ∈ ints zs, u.oneCell' = true := ints_oneCell _ _

theorem srt_len (zs : List Int) : (srt zs).length = zs.length := List.length_mergeSort zs

set_option maxHeartbeats 1000000 in
theorem inOrder (b off n cap : Nat) (zs : List Int) (w : World) (hz : zs.length = n) (hc : ∀ k, k < n → w.cell? ⟨b, off + k, none⟩ = some (.int .i64 (el zs k))) (hn : n ≤ 1048576) (hb : b < w.heap.size ∨ n = 0) :
    Calls Try.prog 44 #[.slice (some ⟨b, off, none⟩) n cap] w fun e w' => (∃ g c, e = .returned (.slice (some ⟨g, 0, none⟩) n c) ∧ Own w' w.heap.size g n c (srt zs)) ∧ Below w.heap.size w w' := by
  obtain ⟨i0, hi, hz0, hz1, hz2⟩ := info_parts Ls.info
  have hc' : ∀ o k, k < n → (w.alloc o).cell? ⟨b, off + k, none⟩ = some (.int .i64 (el zs k)) := fun o k hk => by
    rw [World.cell?_alloc_lt _ _ _ (by simp; omega)]; exact hc k hk
  have HN := fun o => news hz (hc' o)
  clear hc hc'
  go_enter Try.func44, Try.ntmps44
  go_wp2_with (at_builtin; refine wpList_append_own _ rfl _ _ 27 rfl w.heap.size 2 i0 (.int .i64 0) 1 8 Try.underlying27 hi hz0 hz1 hz2 rfl (by decide) _ _ _ rfl (World.ownsRow_made w #[] 0 (Nat.le_refl _) (by unfold maxLen; omega) rfl) ⟨b, off, none⟩ n cap (ints zs) rfl (by rw [ints_len]; omega) (HN _) (one _) (by unfold maxLen; omega) (by omega) (by simp) ?_; intro v1 w1 ho hg hnil)
  have hv : v1 ≠ .slice none 0 0 := fun e => by have := (hnil.1 e).1; cases this
  rw [Nat.zero_add, List.nil_append] at ho
  obtain ⟨g, c, rfl, ho2⟩ := own_of (zs := zs) ho rfl hv
  clear ho
  have hB : Below w.heap.size w w1 := ((Below.refl _ _).alloc (Nat.le_refl _) _).grown hg (by simp) (by intro k hk; have e : w.heap.size = k := Option.some.inj hk; omega)
  clear hg hnil hv HN
  obtain ⟨h1, h2, h3, h4, cur, hcur, h5, h6⟩ := ho2.data
  have hlt := ho2.lt
  clear ho2
  have hH : Holds (Value.int .i64) w1 g 0 zs.toArray := holds_of_blockI hcur (by rw [h1]; exact h6)
  have key := slices_Sort g 0 c zs w1 hH hlt (by omega)
  rw [hz] at key
  clear hH
  go_wp2_with (go_at_call 54; refine key.mono ?_; rintro e w2 ⟨rfl, nn, os, rfl⟩)
  go_ret
  have G := grownBy_sortedI (w := w1) (g := g) (n := nn) (os := os) (srt zs).toArray
  have R := ownsRow_sortedI (n := nn) (os := os) (base := w.heap.size) (ts := srt zs) (ss := zs) (srt_len zs) h2 hcur (by omega) h4 (by omega)
  rw [hz] at R
  exact ⟨⟨g, c, rfl, R⟩, hB.grown G (by have := hB.size; omega) (by intro k hk; cases hk; omega)⟩

theorem i_Sorted (b off n cap : Nat) (zs : List Int) (w : World) (hz : zs.length = n) (hc : ∀ k, k < n → w.cell? ⟨b, off + k, none⟩ = some (.int .i64 (el zs k))) (hn : n ≤ 1048576) (hb : b < w.heap.size ∨ n = 0) :
    Calls Try.prog 23 #[.slice (some ⟨b, off, none⟩) n cap] w fun e w' => (∃ g c, e = .returned (.slice (some ⟨g, 0, none⟩) n c) ∧ Own w' w.heap.size g n c (srt zs)) ∧ Below w.heap.size w w' := by
  have key := inOrder b off n cap zs w hz hc hn hb
  clear hc
  go_enter Try.func23, Try.ntmps23
  go_wp2_with (go_at_call 44; refine key.mono ?_; rintro e w2 ⟨⟨g, c, rfl, ho⟩, hB⟩)
  go_ret
  exact ⟨⟨g, c, rfl, ho⟩, hB⟩

end Go.Proofs.Ytpablkflchcjiaa.Ow
