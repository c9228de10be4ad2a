/-
  A new cursor, and the draws of the first chapter: each returns numbers that fit, and writes nothing that was there ahead of it.
-/
import Derived.Test.YtimakfokgcnklaaGreatDraw
namespace Go.Proofs.YtimakfokgcnklaaGreat.Dr
open Go.ChangeShapes Go.WideShapes Go.ChangeAt Go.RowKit
set_option linter.unusedVariables false

theorem Step.fresh {p : Nat} {w w' : World} (h : Step p w w') (hp : w.heap.size ≤ p) : Below w.heap.size w w' :=
  ⟨h.os, h.tape, h.output, h.size, fun k hk => h.block k hk (by omega)⟩

theorem new_cur (w : World) (B : Nat) (a : Option Addr) (len cap : Nat) (h : Int) (t : TypeId) (hB : B ≤ w.heap.size) (hc : Code w B a len) :
    St w B w.heap.size a len cap (w.alloc (.cells #[.slice a len cap, .int .i64 0, .int .i64 h] t)) := by
  refine ⟨⟨0, h, hB, hc.later ((Below.refl _ _).alloc hB _), by simp, by simp, by simp, ?_, ?_, by omega⟩, (Step.refl _ _).alloc _⟩
  all_goals (rw [frozen?_alloc_cells]; simp [World.frozen?])

set_option maxHeartbeats 1000000 in
theorem l1New (B : Nat) (a : Option Addr) (len cap : Nat) (w : World) (hB : B ≤ w.heap.size) (hc : Code w B a len) :
    Calls Tryz.prog 34 #[.slice a len cap] w fun e w' => e = .returned (.pointer (some ⟨w.heap.size, 0, none⟩)) ∧ St w B w.heap.size a len cap w' := by
  have ⟨l4, cd⟩ := hc
  go_enter Tryz.func34, Tryz.ntmps34
  go_wp2
  go_loop [3, 4] (fun h i => ∃ (k : Nat) (x : Int), k ≤ len ∧ i = .int .i64 k ∧ h = .int .i64 x ∧ 0 ≤ x ∧ x ≤ 1073741823) (fun _ i => len - (intOf i).toNat)
  case atStart => exact ⟨0, _, Nat.zero_le _, rfl, rfl, by omega, by omega⟩
  case round =>
    obtain ⟨k, x, hk, rfl, rfl, x0, x1⟩ := hrel
    by_cases hlt : k < len
    · rcases cd with cd | ⟨b, off, rfl, hb, hz⟩
      · omega
      · obtain ⟨z, hz, z0, z1⟩ := hz k hlt
        have hi : (k : Int) < len := by omega
        go_wp2
        go_round
        case rel => exact ⟨k + 1, _, by omega, by go_num, rfl, and_i64 _ 1073741823 (by decide)⟩
        case measure => simp [intOf]; omega
    · have hi : ¬ (k : Int) < len := by omega
      go_wp2
      go_ret
      exact ⟨rfl, new_cur w B a len cap _ _ hB hc⟩

end Go.Proofs.YtimakfokgcnklaaGreat.Dr
