/-
  A new cursor, and the draws of the first chapter: each returns numbers that fit, and writes nothing that was there ahead of it.
-/
import Derived.Test.YtcdmabjebohlgabDraw
namespace Go.Proofs.Ytcdmabjebohlgab.Dr
open Go.ChangeShapes Go.WideShapes Go.ChangeAt Go.RowKit
set_option linter.unusedVariables false

theorem Step.fresh {p : Nat} {w w' : World} (h : Step p w w') (hp : w.heap.size ≤ p) : Below w.heap.size w w' :=
  ⟨h.os, h.tape, h.output, h.size, fun k hk => h.block k hk (by omega)⟩

theorem new_cur (w : World) (B : Nat) (a : Option Addr) (len cap : Nat) (h : Int) (t : TypeId) (hB : B ≤ w.heap.size) (hc : Code w B a len) :
    St w B w.heap.size a len cap (w.alloc (.cells #[.slice a len cap, .int .i64 0, .int .i64 h] t)) := by
  refine ⟨⟨0, h, hB, hc.later ((Below.refl _ _).alloc hB _), by simp, by simp, by simp, ?_, ?_, by omega⟩, (Step.refl _ _).alloc _⟩
  all_goals (rw [frozen?_alloc_cells]; simp [World.frozen?])

set_option maxHeartbeats 1000000 in
theorem l1New (B : Nat) (a : Option Addr) (len cap : Nat) (w : World) (hB : B ≤ w.heap.size) (hc : Code w B a len) :
    Calls Try.prog 24 #[.slice a len cap] w fun e w' => e = .returned (.pointer (some ⟨w.heap.size, 0, none⟩)) ∧ St w B w.heap.size a len cap w' := by
  have ⟨l4, cd⟩ := hc
  go_enter Try.func24, Try.ntmps24
  go_wp2
  go_loop [3, 4] (fun h i => ∃ (k : Nat) (x : Int), k ≤ len ∧ i = .int .i64 k ∧ h = .int .i64 x ∧ 0 ≤ x ∧ x ≤ 1073741823) (fun _ i => len - (intOf i).toNat)
  case atStart => exact ⟨0, _, Nat.zero_le _, rfl, rfl, by omega, by omega⟩
  case round =>
    obtain ⟨k, x, hk, rfl, rfl, x0, x1⟩ := hrel
    by_cases hlt : k < len
    · rcases cd with cd | ⟨b, off, rfl, hb, hz⟩
      · omega
      · obtain ⟨z, hz, z0, z1⟩ := hz k hlt
        have hi : (k : Int) < len := by omega
        go_wp2
        go_round
        case rel => exact ⟨k + 1, _, by omega, by go_num, rfl, and_i64 _ 1073741823 (by decide)⟩
        case measure => simp [intOf]; omega
    · have hi : ¬ (k : Int) < len := by omega
      go_wp2
      go_ret
      exact ⟨rfl, new_cur w B a len cap _ _ hB hc⟩

set_option maxHeartbeats 1000000 in
theorem drawAddNs (B : Nat) (a : Option Addr) (len cap : Nat) (w : World) (hB : B ≤ w.heap.size) (hc : Code w B a len) :
    Calls Try.prog 12 #[.slice a len cap] w fun e w' => (∃ x y : Int, e = .returned (.tuple #[.int .i64 x, .int .i64 y]) ∧ (-9223372036854775808 ≤ x ∧ x ≤ 9223372036854775807) ∧ -9223372036854775808 ≤ y ∧ y ≤ 9223372036854775807) ∧ Below w.heap.size w w' := by
  go_enter Try.func12, Try.ntmps12
  go_wp2_with fail
  refine (l1New B a len cap w hB hc).mono ?_
  rintro e w1 ⟨rfl, st1⟩
  go_wp2_with fail
  refine (l1DrawNs w B w.heap.size a len cap _ st1).mono ?_
  rintro e w2 ⟨⟨x, rfl, x0, x1⟩, st2⟩
  go_wp2_with fail
  refine (l1DrawNs w B w.heap.size a len cap _ st2).mono ?_
  rintro e w3 ⟨⟨y, rfl, y0, y1⟩, st3⟩
  go_wp2
  go_ret2
  exact ⟨⟨_, _, rfl, ⟨x0, x1⟩, y0, y1⟩, st3.step.fresh (Nat.le_refl _)⟩

set_option maxHeartbeats 1000000 in
theorem drawFloorDiv (B : Nat) (a : Option Addr) (len cap : Nat) (w : World) (hB : B ≤ w.heap.size) (hc : Code w B a len) :
    Calls Try.prog 19 #[.slice a len cap] w fun e w' => (∃ x y : Int, e = .returned (.tuple #[.int .i64 x, .int .i64 y]) ∧ (-9223372036854775808 ≤ x ∧ x ≤ 9223372036854775807) ∧ -9223372036854775808 ≤ y ∧ y ≤ 9223372036854775807) ∧ Below w.heap.size w w' := by
  go_enter Try.func19, Try.ntmps19
  go_wp2_with fail
  refine (l1New B a len cap w hB hc).mono ?_
  rintro e w1 ⟨rfl, st1⟩
  go_wp2_with fail
  refine (l1DrawNs w B w.heap.size a len cap _ st1).mono ?_
  rintro e w2 ⟨⟨x, rfl, x0, x1⟩, st2⟩
  go_wp2_with fail
  refine (l1Once w B w.heap.size a len cap 4 (by omega) (by omega) _ st2).mono ?_
  rintro e w3 ⟨⟨t, rfl⟩, st3⟩
  cases t with
  | true =>
    go_wp2_with fail
    refine (l1Odd w B w.heap.size a len cap _ st3).mono ?_
    rintro e w4 ⟨⟨y, rfl, y0, y1⟩, st4⟩
    go_wp2
    go_ret2
    exact ⟨⟨_, _, rfl, ⟨x0, x1⟩, y0, y1⟩, st4.step.fresh (Nat.le_refl _)⟩
  | false =>
    go_wp2_with fail
    refine (l1From w B w.heap.size a len cap 0 9 (by omega) (by omega) (by omega) _ st3).mono ?_
    rintro e w4 ⟨⟨y, rfl, y0, y1⟩, st4⟩
    go_wp2
    go_ret2
    exact ⟨⟨_, _, rfl, ⟨x0, x1⟩, by omega, by omega⟩, st4.step.fresh (Nat.le_refl _)⟩

set_option maxHeartbeats 1000000 in
theorem drawMulDiv (B : Nat) (a : Option Addr) (len cap : Nat) (w : World) (hB : B ≤ w.heap.size) (hc : Code w B a len) :
    Calls Try.prog 10 #[.slice a len cap] w fun e w' => (∃ x y z : Int, e = .returned (.tuple #[.int .i64 x, .int .i64 y, .int .i64 z])) ∧ Below w.heap.size w w' := by
  go_enter Try.func10, Try.ntmps10
  go_wp2_with fail
  refine (l1New B a len cap w hB hc).mono ?_
  rintro e w1 ⟨rfl, st1⟩
  go_wp2_with fail
  refine (l1DrawNs w B w.heap.size a len cap _ st1).mono ?_
  rintro e w2 ⟨⟨x, rfl, x0, x1⟩, st2⟩
  go_wp2_with fail
  refine (l1DrawNs w B w.heap.size a len cap _ st2).mono ?_
  rintro e w3 ⟨⟨y, rfl, y0, y1⟩, st3⟩
  go_wp2_with fail
  refine (l1DrawNs w B w.heap.size a len cap _ st3).mono ?_
  rintro e w4 ⟨⟨z, rfl, z0, z1⟩, st4⟩
  by_cases hz : z < 0
  · go_wp2_with fail
    refine (l1Once w B w.heap.size a len cap 6 (by omega) (by omega) _ st4).mono ?_
    rintro e w5 ⟨⟨t, rfl⟩, st5⟩
    cases t with
    | true =>
      go_wp2
      go_ret3
      exact ⟨⟨_, _, _, rfl⟩, st5.step.fresh (Nat.le_refl _)⟩
    | false =>
      go_wp2
      go_ret3
      exact ⟨⟨_, _, _, rfl⟩, st5.step.fresh (Nat.le_refl _)⟩
  · go_wp2
    go_ret3
    exact ⟨⟨_, _, _, rfl⟩, st4.step.fresh (Nat.le_refl _)⟩

end Go.Proofs.Ytcdmabjebohlgab.Dr
