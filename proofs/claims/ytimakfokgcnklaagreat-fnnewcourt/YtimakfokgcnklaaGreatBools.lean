/-
  Slices of bools that nothing else holds: a copy of one, whether two are alike, one that is marked.
-/
import Derived.Test.YtimakfokgcnklaaGreatRd
import Derived.Test.YtimakfokgcnklaaGreatRm
namespace Go.Proofs.YtimakfokgcnklaaGreat.Bo
open Go.ChangeShapes Go.WideShapes Go.ChangeAt Go.RowKit
open Rd (Flags)
set_option linter.unusedVariables false

def eb (bs : List Bool) (k : Nat) : Bool := bs.getD k false
/-- From cell off of block g on, which is no older than B, lie bs, and can be written. -/
def HasB (w : World) (B g off n : Nat) (bs : List Bool) : Prop :=
  bs.length = n ∧ B ≤ g ∧ g < w.heap.size ∧ (∀ k, k < n → w.cell? ⟨g, off + k, none⟩ = some (.bool (eb bs k))) ∧ ∀ k, k < n → w.frozen? ⟨g, off + k, none⟩ = false
theorem HasB.row {w : World} {B g off n : Nat} {zs : List Bool} (h : HasB w B g off n zs) : Flags w w.heap.size (some ⟨g, off, none⟩) n zs :=
  ⟨h.1, .inr ⟨g, off, rfl, h.2.2.1, h.2.2.2.1⟩⟩
theorem HasB.later {w w' : World} {B B' g off n : Nat} {zs : List Bool} (h : HasB w B g off n zs) (hb : Below B' w w') (hg : g < B') : HasB w' B g off n zs :=
  ⟨h.1, h.2.1, by have := hb.size; have := h.2.2.1; omega, fun k hk => by rw [hb.cell (p := ⟨g, off + k, none⟩) hg]; exact h.2.2.2.1 k hk, fun k hk => by rw [hb.frozen (p := ⟨g, off + k, none⟩) hg]; exact h.2.2.2.2 k hk⟩
theorem HasB.kept {w w' : World} {B b g off n : Nat} {zs : List Bool} (h : HasB w B g off n zs) (hg : w.grownBy w' (some b)) (hne : g ≠ b) : HasB w' B g off n zs := by
  have e : w'.heap[g]? = w.heap[g]? := hg.block g h.2.2.1 (by simpa using hne)
  exact ⟨h.1, h.2.1, by have := hg.size; have := h.2.2.1; omega, fun k hk => by rw [World.cell?_of_block (w := w) (a := ⟨g, off + k, none⟩) e]; exact h.2.2.2.1 k hk, fun k hk => by rw [World.frozen?_of_block (w := w) (a := ⟨g, off + k, none⟩) e]; exact h.2.2.2.2 k hk⟩

theorem info : (Tryz.prog.info? 4).map (fun i => (i.zero, i.size, i.bytes)) = some (some (.bool false), 1, 1) := by kernel_rfl
/-- What a copy holds when k of them have been copied. -/
def part (zs : List Bool) (k i : Nat) : Value := .bool (if i < k then eb zs i else false)
theorem row_step {w : World} {b n k : Nat} {zs : List Bool} (h : w.rowIs b 4 n (part zs k)) : (w.setCell ⟨b, k, none⟩ (.bool (eb zs k))).rowIs b 4 n (part zs (k + 1)) :=
  (h.set k _).congr fun i hi => by
    unfold part
    by_cases e : i = k
    · subst e; simp
    · rw [if_neg e]
      by_cases h2 : i < k
      · rw [if_pos h2, if_pos (by omega)]
      · rw [if_neg h2, if_neg (by omega)]
theorem has_new {w : World} {B b n : Nat} {zs : List Bool} (hz : zs.length = n) (hB : B ≤ b) (h : w.rowIs b 4 n (part zs n)) : HasB w B b 0 n zs :=
  ⟨hz, hB, h.lt, fun k hk => by rw [Nat.zero_add, h.cell hk, part, if_pos hk], fun k hk => h.frozen _⟩

set_option maxHeartbeats 1000000 in
theorem copied (a : Option Addr) (n cap : Nat) (zs : List Bool) (w : World) (hr : Flags w w.heap.size a n zs) (hn : n ≤ 1048576) :
    Calls Tryz.prog 24 #[.slice a n cap] w fun e w' => (∃ g, e = .returned (.slice (some ⟨g, 0, none⟩) n n) ∧ HasB w' w.heap.size g 0 n zs) ∧ Below w.heap.size w w' := by
  have hmk := run_make_row' (P := Tryz.prog) 27 4 (.bool false) 1 Tryz.underlying27 info rfl .i64 .i64 n (by omega) (by omega)
  have ⟨hz, hrow⟩ := hr
  go_enter Tryz.func24, Tryz.ntmps24
  go_wp2
  go_loopw [4] (fun i w' => ∃ k : Nat, k ≤ n ∧ i = .int .i64 k ∧ w'.rowIs w.heap.size 4 n (part zs k) ∧ Below w.heap.size w w') (fun i _ => n - (intOf i).toNat)
  case atStart =>
    exact ⟨0, Nat.zero_le _, rfl, (World.rowIs_made w _ n _).congr (fun i _ => by simp [part]), (Below.refl _ _).alloc (Nat.le_refl _) _⟩
  case round =>
    obtain ⟨k, hk, rfl, hown, hb⟩ := hrel
    by_cases hlt : k < n
    · have hi : (k : Int) < n := by omega
      rcases hrow with hrow | ⟨b, off, rfl, hB, hc⟩
      · omega
      · have hc1 : w.cell? ⟨b, off + k, none⟩ = some (.bool (eb zs k)) := hc k hlt
        rw [← hb.cell (p := ⟨b, off + k, none⟩) hB] at hc1
        have hc2 := hown.cell hlt
        have hf2 := hown.frozen k
        go_wp2
        go_roundw
        case rel => exact ⟨k + 1, by omega, by go_num, row_step hown, hb.setCell (Nat.le_refl _) _⟩
        case measure => simp [intOf]; omega
    · have hi : ¬ (k : Int) < n := by omega
      have e : k = n := by omega
      subst e
      go_wp2
      go_ret
      exact ⟨⟨_, rfl, has_new hz (Nat.le_refl _) hown⟩, hb⟩

set_option maxHeartbeats 1000000 in
theorem eqBoolS (a b : Option Addr) (n cap cap' : Nat) (zs : List Bool) (w : World) (hr : Flags w w.heap.size a n zs) (hs : Flags w w.heap.size b n zs) (hn : n ≤ 1048576) :
    Calls Tryz.prog 26 #[.slice a n cap, .slice b n cap'] w fun e w' => e = .returned (.bool true) ∧ Below w.heap.size w w' := by
  have ⟨hz, hrow⟩ := hr
  have ⟨_, hrow'⟩ := hs
  go_enter Tryz.func26, Tryz.ntmps26
  go_wp2
  go_loopw [5] (fun i w' => ∃ k : Nat, k ≤ n ∧ i = .int .i64 k ∧ Below w.heap.size w w') (fun i _ => n - (intOf i).toNat)
  case atStart => exact ⟨0, Nat.zero_le _, rfl, Below.refl _ _⟩
  case round =>
    obtain ⟨k, hk, rfl, hb⟩ := hrel
    by_cases hlt : k < n
    · have hi : (k : Int) < n := by omega
      rcases hrow with hrow | ⟨b1, off, rfl, hB, hc⟩
      · omega
      · rcases hrow' with hrow' | ⟨b2, off', rfl, hB', hc'⟩
        · omega
        · have hc1 : w.cell? ⟨b1, off + k, none⟩ = some (.bool (eb zs k)) := hc k hlt
          rw [← hb.cell (p := ⟨b1, off + k, none⟩) hB] at hc1
          have hc2 : w.cell? ⟨b2, off' + k, none⟩ = some (.bool (eb zs k)) := hc' k hlt
          rw [← hb.cell (p := ⟨b2, off' + k, none⟩) hB'] at hc2
          generalize eb zs k = x at hc1 hc2
          go_wp2
          go_quiet (fail)
          go_wp2
          go_roundw
          case rel => exact ⟨k + 1, by omega, by go_num, below_drewN hb _⟩
          case measure => simp [intOf]; omega
    · have hi : ¬ (k : Int) < n := by omega
      go_wp2
      go_ret
      exact ⟨rfl, hb⟩

theorem set_step {w wr : World} {g off k n : Nat} (hg : w.grownBy wr (some g)) (h2 : ∀ j, j < n → ∃ v, wr.cell? ⟨g, off + j, none⟩ = some v) (h3 : ∀ j, j < n → wr.frozen? ⟨g, off + j, none⟩ = false) (u : Value) :
    w.grownBy (wr.setCell ⟨g, off + k, none⟩ u) (some g) ∧ (∀ j, j < n → ∃ v, (wr.setCell ⟨g, off + k, none⟩ u).cell? ⟨g, off + j, none⟩ = some v) ∧ ∀ j, j < n → (wr.setCell ⟨g, off + k, none⟩ u).frozen? ⟨g, off + j, none⟩ = false := by
  refine ⟨⟨hg.os, hg.tape, hg.output, by have := hg.size; simpa using this, fun j hj hne => ?_⟩, fun j hj => ?_, fun j hj => ?_⟩
  · rw [Below.heap_setCell _ _ _ _ (by simpa using hne)]; exact hg.block j hj hne
  · obtain ⟨v0, hv0⟩ := h2 j hj
    by_cases e : j = k
    · subst e; exact ⟨_, World.cell?_setCell_same _ _ _ hv0⟩
    · rw [World.cell?_setCell_other _ _ _ _ (by simp <;> omega)]; exact ⟨_, hv0⟩
  · rw [World.frozen?_setCell]; exact h3 j hj

set_option maxHeartbeats 1000000 in
theorem mark (s : Int) (B g off n cap : Nat) (zs : List Bool) (w : World) (h : HasB w B g off n zs) (hn : n ≤ 1048576) (hs0 : 0 ≤ s) (hs1 : s ≤ 100000000) :
    Calls Tryz.prog 28 #[.slice (some ⟨g, off, none⟩) n cap, .int .i64 s] w fun e w' => e = .returned (.int .i64 (s + (n : Int))) ∧ w.grownBy w' (some g) := by
  obtain ⟨hz, hB, hg, hc, hf⟩ := h
  have HC : Hid (∀ k, k < n → ∃ v, w.cell? ⟨g, off + k, none⟩ = some v) := fun k hk => ⟨_, hc k hk⟩
  have HF : Hid (∀ k, k < n → w.frozen? ⟨g, off + k, none⟩ = false) := hf
  clear hc hf
  go_enter Tryz.func28, Tryz.ntmps28
  go_wp2
  go_loopw [1, 5] (fun q i wr => ∃ k : Nat, k ≤ n ∧ i = .int .i64 k ∧ q = .int .i64 (s + (k : Int)) ∧ w.grownBy wr (some g) ∧ Hid (∀ j, j < n → ∃ v, wr.cell? ⟨g, off + j, none⟩ = some v) ∧ Hid (∀ j, j < n → wr.frozen? ⟨g, off + j, none⟩ = false)) (fun _ i _ => n - (intOf i).toNat)
  case atStart => exact ⟨0, Nat.zero_le _, rfl, by simp, World.grownBy.refl _ _, HC, HF⟩
  case round =>
    obtain ⟨k, hk, rfl, rfl, hgr, h2, h3⟩ := hrel
    by_cases hlt : k < n
    · have hi : (k : Int) < n := by omega
      obtain ⟨v0, hv0⟩ := h2.out k hlt
      have hf0 := h3.out k hlt
      go_wp2
      go_roundw
      case rel =>
        have S := fun u => set_step (k := k) hgr h2.out h3.out u
        exact ⟨k + 1, by omega, by go_num, by go_num, (S _).1, (S _).2.1, (S _).2.2⟩
      case measure => simp [intOf]; omega
    · have hi : ¬ (k : Int) < n := by omega
      have e : k = n := by omega
      subst e
      go_wp2
      go_ret
      exact ⟨rfl, hgr⟩

end Go.Proofs.YtimakfokgcnklaaGreat.Bo
