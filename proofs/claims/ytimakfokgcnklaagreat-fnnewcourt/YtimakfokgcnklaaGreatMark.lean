/-
  Slices of int64s that nothing else holds: a copy of one, one that is marked, one whose marks are held.
-/
import Derived.Test.YtimakfokgcnklaaGreatOwn
namespace Go.Proofs.YtimakfokgcnklaaGreat.Ow
open Go.ChangeShapes Go.WideShapes Go.ChangeAt Go.RowKit
open Ls (el Row)
set_option linter.unusedVariables false

/-- From cell off of block g on, which is no older than B, lie zs, and can be written. -/
def Has (w : World) (B g off n : Nat) (zs : List Int) : Prop :=
  zs.length = n ∧ B ≤ g ∧ g < w.heap.size ∧ (∀ k, k < n → w.cell? ⟨g, off + k, none⟩ = some (.int .i64 (el zs k))) ∧ ∀ k, k < n → w.frozen? ⟨g, off + k, none⟩ = false

theorem Has.row {w : World} {B g off n : Nat} {zs : List Int} (h : Has w B g off n zs) : Row w w.heap.size (some ⟨g, off, none⟩) n zs :=
  ⟨h.1, .inr ⟨g, off, rfl, h.2.2.1, h.2.2.2.1⟩⟩
theorem Has.later {w w' : World} {B B' g off n : Nat} {zs : List Int} (h : Has w B g off n zs) (hb : Below B' w w') (hg : g < B') : Has w' B g off n zs :=
  ⟨h.1, h.2.1, by have := hb.size; have := h.2.2.1; omega, fun k hk => by rw [hb.cell (p := ⟨g, off + k, none⟩) hg]; exact h.2.2.2.1 k hk, fun k hk => by rw [hb.frozen (p := ⟨g, off + k, none⟩) hg]; exact h.2.2.2.2 k hk⟩
theorem Has.kept {w w' : World} {B b g off n : Nat} {zs : List Int} (h : Has w B g off n zs) (hg : w.grownBy w' (some b)) (hne : g ≠ b) : Has w' B g off n zs := by
  have e : w'.heap[g]? = w.heap[g]? := hg.block g h.2.2.1 (by simpa using hne)
  exact ⟨h.1, h.2.1, by have := hg.size; have := h.2.2.1; omega, fun k hk => by rw [World.cell?_of_block (w := w) (a := ⟨g, off + k, none⟩) e]; exact h.2.2.2.1 k hk, fun k hk => by rw [World.frozen?_of_block (w := w) (a := ⟨g, off + k, none⟩) e]; exact h.2.2.2.2 k hk⟩
theorem Has.setOther {w : World} {B g off n : Nat} {zs : List Int} (h : Has w B g off n zs) {q : Nat} (hne : q ≠ g) (i : Nat) (u : Value) : Has (w.setCell ⟨q, i, none⟩ u) B g off n zs :=
  ⟨h.1, h.2.1, by simpa using h.2.2.1, fun k hk => by rw [World.cell?_setCell_other _ _ _ _ (by simp <;> omega)]; exact h.2.2.2.1 k hk, fun k hk => by rw [World.frozen?_setCell]; exact h.2.2.2.2 k hk⟩
theorem Has.mono {w : World} {B B' g off n : Nat} {zs : List Int} (h : Has w B g off n zs) (hB : B' ≤ B) : Has w B' g off n zs := ⟨h.1, by have := h.2.1; omega, h.2.2⟩
theorem Row.kept {w w' : World} {B b n : Nat} {a : Option Addr} {zs : List Int} (h : Row w B a n zs) (hg : w.grownBy w' (some b)) (hb : B ≤ b) (hB : B ≤ w.heap.size) : Row w' B a n zs := by
  obtain ⟨h1, h2⟩ := h
  refine ⟨h1, ?_⟩
  rcases h2 with h2 | ⟨g, off, e, hB1, hc⟩
  · exact .inl h2
  · refine .inr ⟨g, off, e, hB1, fun k hk => ?_⟩
    have e : w'.heap[g]? = w.heap[g]? := hg.block g (by omega) (by simp; omega)
    rw [World.cell?_of_block (w := w) (a := ⟨g, off + k, none⟩) e]
    exact hc k hk

theorem Own.part {w : World} {B g n cap : Nat} {zs : List Int} (h : Own w B g n cap zs) (f l : Nat) (hl : f + l ≤ n) : Has w B g f l ((zs.drop f).take l) := by
  have hz := h.data.1
  refine ⟨by simp; omega, h.data.2.1, h.lt, fun k hk => ?_, fun k hk => (h.cell (f + k) (by omega)).2⟩
  rw [(h.cell (f + k) (by omega)).1]
  simp [el, List.getD, hk]
theorem Own.has {w : World} {B g n cap : Nat} {zs : List Int} (h : Own w B g n cap zs) : Has w B g 0 n zs := by
  have := h.part 0 n (by omega)
  rw [List.drop_zero, List.take_of_length_le (by have := h.data.1; omega)] at this
  exact this

theorem has_new {w : World} {B b n : Nat} {zs : List Int} (hz : zs.length = n) (hB : B ≤ b) (h : w.rowIs b 2 n (Ls.part zs n)) : Has w B b 0 n zs :=
  ⟨hz, hB, h.lt, fun k hk => by rw [Nat.zero_add, h.cell hk, Ls.part, if_pos hk], fun k hk => h.frozen _⟩

set_option maxHeartbeats 1000000 in
theorem copied (a : Option Addr) (n cap : Nat) (zs : List Int) (w : World) (hr : Row w w.heap.size a n zs) (hn : n ≤ 1048576) :
    Calls Tryz.prog 23 #[.slice a n cap] w fun e w' => (∃ g, e = .returned (.slice (some ⟨g, 0, none⟩) n n) ∧ Has w' w.heap.size g 0 n zs) ∧ Below w.heap.size w w' := by
  have hmk := run_make_row' (P := Tryz.prog) 26 2 (.int .i64 0) 8 Tryz.underlying26 Ls.info rfl .i64 .i64 n (by omega) (by omega)
  have ⟨hz, hrow⟩ := hr
  go_enter Tryz.func23, Tryz.ntmps23
  go_wp2
  go_loopw [4] (fun i w' => ∃ k : Nat, k ≤ n ∧ i = .int .i64 k ∧ w'.rowIs w.heap.size 2 n (Ls.part zs k) ∧ Below w.heap.size w w') (fun i _ => n - (intOf i).toNat)
  case atStart =>
    exact ⟨0, Nat.zero_le _, rfl, (World.rowIs_made w _ n _).congr (fun i _ => by simp [Ls.part]), (Below.refl _ _).alloc (Nat.le_refl _) _⟩
  case round =>
    obtain ⟨k, hk, rfl, hown, hb⟩ := hrel
    by_cases hlt : k < n
    · have hi : (k : Int) < n := by omega
      rcases hrow with hrow | ⟨b, off, rfl, hB, hc⟩
      · omega
      · have hc1 := hc k hlt
        rw [← hb.cell (p := ⟨b, off + k, none⟩) hB] at hc1
        have hc2 := hown.cell hlt
        have hf2 := hown.frozen k
        go_wp2
        go_roundw
        case rel => exact ⟨k + 1, by omega, by go_num, Ls.row_step hown, hb.setCell (Nat.le_refl _) _⟩
        case measure => simp [intOf]; omega
    · have hi : ¬ (k : Int) < n := by omega
      have e : k = n := by omega
      subst e
      go_wp2
      go_ret
      exact ⟨⟨_, rfl, has_new hz (Nat.le_refl _) hown⟩, hb⟩

/-- What is written when n are marked. -/
def marks (s : Int) (n : Nat) : List Int := (List.range n).map fun k : Nat => s + (k : Int)
theorem el_marks {s : Int} {n k : Nat} (h : k < n) : el (marks s n) k = s + (k : Int) := by simp [el, marks, List.getD, h]

theorem set_step {s : Int} {w wr : World} {g off k n : Nat} (hg : w.grownBy wr (some g)) (hk : k < n) (h1 : ∀ j, j < k → wr.cell? ⟨g, off + j, none⟩ = some (.int .i64 (s + (j : Int)))) (h2 : ∀ j, j < n → ∃ v, wr.cell? ⟨g, off + j, none⟩ = some v) (h3 : ∀ j, j < n → wr.frozen? ⟨g, off + j, none⟩ = false) (u : Value) (hu : u = .int .i64 (s + (k : Int))) :
    w.grownBy (wr.setCell ⟨g, off + k, none⟩ u) (some g) ∧ (∀ j, j < k + 1 → (wr.setCell ⟨g, off + k, none⟩ u).cell? ⟨g, off + j, none⟩ = some (.int .i64 (s + (j : Int)))) ∧ (∀ j, j < n → ∃ v, (wr.setCell ⟨g, off + k, none⟩ u).cell? ⟨g, off + j, none⟩ = some v) ∧ ∀ j, j < n → (wr.setCell ⟨g, off + k, none⟩ u).frozen? ⟨g, off + j, none⟩ = false := by
  subst hu
  obtain ⟨v0, hv0⟩ := h2 k hk
  refine ⟨⟨hg.os, hg.tape, hg.output, by have := hg.size; simpa using this, fun j hj hne => ?_⟩, fun j hj => ?_, fun j hj => ?_, fun j hj => ?_⟩
  · rw [Below.heap_setCell _ _ _ _ (by simpa using hne)]; exact hg.block j hj hne
  · by_cases e : j = k
    · subst e; exact World.cell?_setCell_same _ _ _ hv0
    · rw [World.cell?_setCell_other _ _ _ _ (by simp <;> omega)]; exact h1 j (by omega)
  · by_cases e : j = k
    · subst e; exact ⟨_, World.cell?_setCell_same _ _ _ hv0⟩
    · rw [World.cell?_setCell_other _ _ _ _ (by simp <;> omega)]; exact h2 j hj
  · rw [World.frozen?_setCell]; exact h3 j hj

set_option maxHeartbeats 1000000 in
theorem mark (s : Int) (B g off n cap : Nat) (zs : List Int) (w : World) (h : Has w B g off n zs) (hn : n ≤ 1048576) (hs0 : 0 ≤ s) (hs1 : s ≤ 100000000) :
    Calls Tryz.prog 27 #[.slice (some ⟨g, off, none⟩) n cap, .int .i64 s] w fun e w' => e = .returned (.int .i64 (s + (n : Int))) ∧ Has w' B g off n (marks s n) ∧ w.grownBy w' (some g) := by
  obtain ⟨hz, hB, hg, hc, hf⟩ := h
  have HC : Hid (∀ k, k < n → ∃ v, w.cell? ⟨g, off + k, none⟩ = some v) := fun k hk => ⟨_, hc k hk⟩
  have HF : Hid (∀ k, k < n → w.frozen? ⟨g, off + k, none⟩ = false) := hf
  clear hc hf
  go_enter Tryz.func27, Tryz.ntmps27
  go_wp2
  go_loopw [1, 5] (fun q i wr => ∃ k : Nat, k ≤ n ∧ i = .int .i64 k ∧ q = .int .i64 (s + (k : Int)) ∧ w.grownBy wr (some g) ∧ Hid (∀ j, j < k → wr.cell? ⟨g, off + j, none⟩ = some (.int .i64 (s + (j : Int)))) ∧ Hid (∀ j, j < n → ∃ v, wr.cell? ⟨g, off + j, none⟩ = some v) ∧ Hid (∀ j, j < n → wr.frozen? ⟨g, off + j, none⟩ = false)) (fun _ i _ => n - (intOf i).toNat)
  case atStart => exact ⟨0, Nat.zero_le _, rfl, by simp, World.grownBy.refl _ _, (fun j hj => by omega), HC, HF⟩
  case round =>
    obtain ⟨k, hk, rfl, rfl, hgr, h1, h2, h3⟩ := hrel
    by_cases hlt : k < n
    · have hi : (k : Int) < n := by omega
      obtain ⟨v0, hv0⟩ := h2.out k hlt
      have hf0 := h3.out k hlt
      go_wp2
      go_roundw
      case rel =>
        have S := set_step hgr hlt h1.out h2.out h3.out (.int .i64 (s + (k : Int))) rfl
        exact ⟨k + 1, by omega, by go_num, by go_num, S.1, S.2.1, S.2.2.1, S.2.2.2⟩
      case measure => simp [intOf]; omega
    · have hi : ¬ (k : Int) < n := by omega
      have e : k = n := by omega
      subst e
      go_wp2
      go_ret
      exact ⟨rfl, ⟨by simp [marks], hB, by have := hgr.size; omega, fun j hj => by rw [el_marks hj]; exact h1.out j hj, h3.out⟩, hgr⟩

set_option maxHeartbeats 1000000 in
theorem held (s : Int) (B g off n cap : Nat) (w : World) (h : Has w B g off n (marks s n)) (hn : n ≤ 1048576) (hs0 : 0 ≤ s) (hs1 : s ≤ 100000000) :
    Calls Tryz.prog 33 #[.slice (some ⟨g, off, none⟩) n cap, .int .i64 s] w fun e w' => e = .returned (.int .i64 (s + (n : Int))) ∧ w' = w := by
  obtain ⟨hz, hB, hg, hc, hf⟩ := h
  have HC : Hid (∀ k, k < n → w.cell? ⟨g, off + k, none⟩ = some (.int .i64 (s + (k : Int)))) := fun k hk => by rw [← el_marks hk]; exact hc k hk
  clear hc hf
  go_enter Tryz.func33, Tryz.ntmps33
  go_wp2
  go_loop [1, 5] (fun q i => ∃ k : Nat, k ≤ n ∧ i = .int .i64 k ∧ q = .int .i64 (s + (k : Int))) (fun _ i => n - (intOf i).toNat)
  case atStart => exact ⟨0, Nat.zero_le _, rfl, by simp⟩
  case round =>
    obtain ⟨k, hk, rfl, rfl⟩ := hrel
    by_cases hlt : k < n
    · have hi : (k : Int) < n := by omega
      have hc1 := HC.out k hlt
      go_wp2
      go_round
      case rel => exact ⟨k + 1, by omega, by go_num, by go_num⟩
      case measure => simp [intOf]; omega
    · have hi : ¬ (k : Int) < n := by omega
      have e : k = n := by omega
      subst e
      go_wp2
      go_ret
      exact ⟨rfl, rfl⟩

end Go.Proofs.YtimakfokgcnklaaGreat.Ow
