/-
  Slices of int64s: a copy of one; whether two are alike; each writes nothing that was there ahead of it.
-/
import Derived.Test.YtimakfokgcnklaaGreatRows
import Derived.WalkKit
import Derived.ProofKit
import Derived.OpenShut
import Derived.Below
import Derived.WalkSmall
import Derived.Deep.QuietTactic
import Derived.BigQuiet
import Derived.Deep.OwnRows
namespace Go.Proofs.YtimakfokgcnklaaGreat.Ls
open Go.ChangeShapes Go.WideShapes Go.ChangeAt Go.RowKit
set_option linter.unusedVariables false

def el (zs : List Int) (k : Nat) : Int := zs.getD k 0
/-- A slice of int64s: its first n cells hold zs, below block B. -/
def Row (w : World) (B : Nat) (a : Option Addr) (n : Nat) (zs : List Int) : Prop :=
  zs.length = n ∧ (n = 0 ∨ ∃ b off, a = some ⟨b, off, none⟩ ∧ b < B ∧ ∀ k, k < n → w.cell? ⟨b, off + k, none⟩ = some (.int .i64 (el zs k)))

theorem Row.later {w w' : World} {B B' : Nat} {a : Option Addr} {n : Nat} {zs : List Int} (h : Row w B a n zs) (hb : Below B' w w') (hB : B ≤ B') : Row w' B a n zs := by
  obtain ⟨h1, h2⟩ := h
  refine ⟨h1, ?_⟩
  rcases h2 with h2 | ⟨b, off, e, hB1, hc⟩
  · exact .inl h2
  · exact .inr ⟨b, off, e, hB1, fun k hk => by rw [hb.cell (p := ⟨b, off + k, none⟩) (by simp; omega)]; exact hc k hk⟩

theorem Row.more {w : World} {B B' : Nat} {a : Option Addr} {n : Nat} {zs : List Int} (h : Row w B a n zs) (hB : B ≤ B') : Row w B' a n zs := by
  obtain ⟨h1, h2⟩ := h
  refine ⟨h1, ?_⟩
  rcases h2 with h2 | ⟨b, off, e, hB1, hc⟩
  · exact .inl h2
  · exact .inr ⟨b, off, e, by omega, hc⟩

theorem info : (Tryz.prog.info? 2).map (fun i => (i.zero, i.size, i.bytes)) = some (some (.int .i64 0), 1, 8) := by kernel_rfl

/-- What a copy holds when k of them have been copied. -/
def part (zs : List Int) (k i : Nat) : Value := .int .i64 (if i < k then el zs i else 0)

theorem row_new {w : World} {b n : Nat} {zs : List Int} (hz : zs.length = n) (h : w.rowIs b 2 n (part zs n)) : Row w w.heap.size (some ⟨b, 0, none⟩) n zs :=
  ⟨hz, .inr ⟨b, 0, rfl, h.lt, fun k hk => by rw [Nat.zero_add, h.cell hk, part, if_pos hk]⟩⟩

theorem row_step {w : World} {b n k : Nat} {zs : List Int} (h : w.rowIs b 2 n (part zs k)) : (w.setCell ⟨b, k, none⟩ (.int .i64 (el zs k))).rowIs b 2 n (part zs (k + 1)) :=
  (h.set k _).congr fun i hi => by
    unfold part
    by_cases e : i = k
    · subst e; simp
    · rw [if_neg e]
      by_cases h2 : i < k
      · rw [if_pos h2, if_pos (by omega)]
      · rw [if_neg h2, if_neg (by omega)]

set_option maxHeartbeats 1000000 in
theorem toInt64S (a : Option Addr) (n cap : Nat) (zs : List Int) (w : World) (hr : Row w w.heap.size a n zs) (hn : n ≤ 1048576) :
    Calls Tryz.prog 23 #[.slice a n cap] w fun e w' => (∃ g, e = .returned (.slice (some ⟨g, 0, none⟩) n n) ∧ w.heap.size ≤ g ∧ Row w' w'.heap.size (some ⟨g, 0, none⟩) n zs) ∧ Below w.heap.size w w' := by
  have hmk := run_make_row' (P := Tryz.prog) 26 2 (.int .i64 0) 8 Tryz.underlying26 info rfl .i64 .i64 n (by omega) (by omega)
  have ⟨hz, hrow⟩ := hr
  go_enter Tryz.func23, Tryz.ntmps23
  go_wp2
  go_loopw [4] (fun i w' => ∃ k : Nat, k ≤ n ∧ i = .int .i64 k ∧ w'.rowIs w.heap.size 2 n (part zs k) ∧ Below w.heap.size w w') (fun i _ => n - (intOf i).toNat)
  case atStart =>
    exact ⟨0, Nat.zero_le _, rfl, (World.rowIs_made w _ n _).congr (fun i _ => by simp [part]), (Below.refl _ _).alloc (Nat.le_refl _) _⟩
  case round =>
    obtain ⟨k, hk, rfl, hown, hb⟩ := hrel
    by_cases hlt : k < n
    · have hi : (k : Int) < n := by omega
      rcases hrow with hrow | ⟨b, off, rfl, hB, hc⟩
      · omega
      · have hc1 := hc k hlt
        rw [← hb.cell (p := ⟨b, off + k, none⟩) hB] at hc1
        have hc2 := hown.cell hlt
        have hf2 := hown.frozen k
        go_wp2
        go_roundw
        case rel => exact ⟨k + 1, by omega, by go_num, row_step hown, hb.setCell (Nat.le_refl _) _⟩
        case measure => simp [intOf]; omega
    · have hi : ¬ (k : Int) < n := by omega
      have e : k = n := by omega
      subst e
      go_wp2
      go_ret
      exact ⟨⟨_, rfl, Nat.le_refl _, row_new hz hown⟩, hb⟩

set_option maxHeartbeats 1000000 in
theorem eqInt64S (a b : Option Addr) (n cap cap' : Nat) (zs : List Int) (w : World) (hr : Row w w.heap.size a n zs) (hs : Row w w.heap.size b n zs) (hn : n ≤ 1048576) :
    Calls Tryz.prog 25 #[.slice a n cap, .slice b n cap'] w fun e w' => e = .returned (.bool true) ∧ Below w.heap.size w w' := by
  have ⟨hz, hrow⟩ := hr
  have ⟨_, hrow'⟩ := hs
  go_enter Tryz.func25, Tryz.ntmps25
  go_wp2
  go_loopw [5] (fun i w' => ∃ k : Nat, k ≤ n ∧ i = .int .i64 k ∧ Below w.heap.size w w') (fun i _ => n - (intOf i).toNat)
  case atStart => exact ⟨0, Nat.zero_le _, rfl, Below.refl _ _⟩
  case round =>
    obtain ⟨k, hk, rfl, hb⟩ := hrel
    by_cases hlt : k < n
    · have hi : (k : Int) < n := by omega
      rcases hrow with hrow | ⟨b1, off, rfl, hB, hc⟩
      · omega
      · rcases hrow' with hrow' | ⟨b2, off', rfl, hB', hc'⟩
        · omega
        · have hc1 := hc k hlt
          rw [← hb.cell (p := ⟨b1, off + k, none⟩) hB] at hc1
          have hc2 := hc' k hlt
          rw [← hb.cell (p := ⟨b2, off' + k, none⟩) hB'] at hc2
          go_wp2
          go_quiet (fail)
          go_wp2
          go_roundw
          case rel => exact ⟨k + 1, by omega, by go_num, below_drewN hb _⟩
          case measure => simp [intOf]; omega
    · have hi : ¬ (k : Int) < n := by omega
      go_wp2
      go_ret
      exact ⟨rfl, hb⟩

end Go.Proofs.YtimakfokgcnklaaGreat.Ls
