/-
  Worlds of the laws: how great one is, a copy of one, whether two are alike, one that is marked, one whose marks are held.
-/
import Derived.Test.YtcgcmceobmpdiaaGreatBase
import Derived.Test.YtcgcmceobmpdiaaGreatToCfg
namespace Go.Proofs.YtcgcmceobmpdiaaGreat.Wl
open Go.ChangeShapes Go.WideShapes Go.ChangeAt Go.RowKit
open Ls (el Row)
open Rm (Room)
open Ow (Has Own)
open Cf (cfg)
set_option linter.unusedVariables false

/-- The nine cells of a world. -/
abbrev c9 (n l d r p s : Int) (K O : Value) (t : Int) : List Value := [.int .i64 n, .int .i64 l, .int .i64 d, .int .i64 r, .int .i64 p, .int .i64 s, K, O, .int .i64 t]
abbrev wld (n l d r p s : Int) (K O : Value) (t : Int) : Value := .agg #[.int .i64 n, .int .i64 l, .int .i64 d, .int .i64 r, .int .i64 p, .int .i64 s, K, O, .int .i64 t]

theorem sz_yes (a : Option Addr) (n cap : Nat) (k : Int) (w : World) (h0 : (n : Int) ≤ k) (h1 : k ≤ 1048576) :
    Calls Tryz.prog 15 #[.slice a n cap, .int .i64 k] w fun e w' => e = .returned (.int .i64 (k - n)) ∧ w' = w := by
  have h2 : decide (k - (n : Int) < 0) = false := by simp; omega
  go_enter Tryz.func15, Tryz.ntmps15
  go_wp2
  go_ret
  exact ⟨rfl, rfl⟩
theorem sz_no (a : Option Addr) (n cap : Nat) (k : Int) (w : World) (h0 : k < (n : Int)) (h1 : 0 ≤ k) (h2 : n ≤ maxLen) :
    Calls Tryz.prog 15 #[.slice a n cap, .int .i64 k] w fun e w' => e = .returned (.int .i64 (-1)) ∧ w' = w := by
  have h3 : decide (k - (n : Int) < 0) = true := by simp; omega
  unfold maxLen at h2
  go_enter Tryz.func15, Tryz.ntmps15
  go_wp2
  go_ret
  exact ⟨rfl, rfl⟩

set_option maxHeartbeats 1000000 in
theorem szWorld_yes (n l d r p s t : Int) (a b : Option Addr) (k ka m mb : Nat) (w : World) (h : k + m ≤ 1048576) :
    Calls Tryz.prog 4 #[wld n l d r p s (.slice a k ka) (.slice b m mb) t, .int .i64 1048576] w fun e w' => (∃ x : Int, e = .returned (.int .i64 x) ∧ 0 ≤ x) ∧ Below w.heap.size w w' := by
  have h1 : decide ((1048576 : Int) - (k : Int) < 0) = false := by simp; omega
  have h2 : decide ((1048576 : Int) - (k : Int) - (m : Int) < 0) = false := by simp; omega
  go_enter Tryz.func4, Tryz.ntmps4
  go_wp2_with fail
  refine (sz_yes a k ka 1048576 _ (by omega) (by omega)).mono ?_
  rintro e w ⟨rfl, rfl⟩
  go_wp2_with fail
  refine (sz_yes b m mb _ _ (by omega) (by omega)).mono ?_
  rintro e w ⟨rfl, rfl⟩
  go_wp2
  go_ret
  exact ⟨⟨_, rfl, by omega⟩, (Below.refl _ _).alloc (Nat.le_refl _) _⟩

set_option maxHeartbeats 1000000 in
theorem szWorld_no (n l d r p s t : Int) (a b : Option Addr) (k ka m mb : Nat) (w : World) (h : ¬ k + m ≤ 1048576) (hk : k ≤ maxLen) (hm : m ≤ maxLen) :
    Calls Tryz.prog 4 #[wld n l d r p s (.slice a k ka) (.slice b m mb) t, .int .i64 1048576] w fun e w' => e = .returned (.int .i64 (-1)) ∧ Below w.heap.size w w' := by
  by_cases h0 : k ≤ 1048576
  · have h1 : decide ((1048576 : Int) - (k : Int) < 0) = false := by simp; omega
    go_enter Tryz.func4, Tryz.ntmps4
    go_wp2_with fail
    refine (sz_yes a k ka 1048576 _ (by omega) (by omega)).mono ?_
    rintro e w ⟨rfl, rfl⟩
    go_wp2_with fail
    refine (sz_no b m mb _ _ (by omega) (by omega) hm).mono ?_
    rintro e w ⟨rfl, rfl⟩
    go_wp2
    go_ret
    exact ⟨rfl, (Below.refl _ _).alloc (Nat.le_refl _) _⟩
  · go_enter Tryz.func4, Tryz.ntmps4
    go_wp2_with fail
    refine (sz_no a k ka 1048576 _ (by omega) (by omega) hk).mono ?_
    rintro e w ⟨rfl, rfl⟩
    go_wp2
    go_ret
    exact ⟨rfl, (Below.refl _ _).alloc (Nat.le_refl _) _⟩

end Go.Proofs.YtcgcmceobmpdiaaGreat.Wl
