/-
  A peer of a new court (spec.l12Peer).
-/
import Derived.Test.YtimakfokgcnklaaGreatCt1
import Derived.Deep.RegionHeld3
namespace Go.Proofs.YtimakfokgcnklaaGreat.Ct
open Go.ChangeShapes Go.WideShapes Go.ChangeAt Go.RowKit
open Ls (el Row)
open Rm (Room)
open Rd (Flags)
open Sp (LK retb reti)
open Sl (KO sl lk_yes)
set_option linter.unusedVariables false
set_option linter.unusedSimpArgs false

abbrev c13 (n f p a l m : Int) (K L P : Value) : List Value := [.int .i64 n, .int .i64 f, .int .i64 p, .int .i64 a, .int .i64 l, .int .i64 m, K, L, P, .slice none 0 0, .int .i64 0, .slice none 0 0, .slice none 0 0]
abbrev crt (n f p a l m : Int) (K L P : Value) : Value := .agg #[.int .i64 n, .int .i64 f, .int .i64 p, .int .i64 a, .int .i64 l, .int .i64 m, K, L, P, .slice none 0 0, .int .i64 0, .slice none 0 0, .slice none 0 0]
abbrev per (x : Int) : Value := .agg #[.int .i64 x, .int .i64 1, .bool false, .slice none 0 0]
abbrev c4 (x : Int) : List Value := [.int .i64 x, .int .i64 1, .bool false, .slice none 0 0]

set_option maxHeartbeats 4000000 in
theorem peer (n f p a l m x : Int) (aK : Option Addr) (k cK : Nat) (zs : List Int) (L P : Value) (w : World) (hr : Row w w.heap.size aK k zs) (hk : KO zs k = true) (hx : -1000000000000000 ≤ x ∧ x ≤ 1000000000000000) :
    Calls Tryz.prog 64 #[crt n f p a l m (.slice aK k cK) L P, per x] w fun e w' => e = .returned (.bool true) ∧ Below w.heap.size w w' := by
  have R := (Room.new w (c13 n f p a l m (.slice aK k cK) L P) 35).alloc (.cells #[.int .i64 x, .int .i64 1, .bool false, .slice none 0 0] 44)
  have Q := Room.at (w.alloc (.cells #[.int .i64 n, .int .i64 f, .int .i64 p, .int .i64 a, .int .i64 l, .int .i64 m, .slice aK k cK, L, P, .slice none 0 0, .int .i64 0, .slice none 0 0, .slice none 0 0] 35)) (c4 x) 44 (w.heap.size + 1) (by simp)
  have B := ((Below.refl w.heap.size w).alloc (Nat.le_refl _) (.cells #[.int .i64 n, .int .i64 f, .int .i64 p, .int .i64 a, .int .i64 l, .int .i64 m, .slice aK k cK, L, P, .slice none 0 0, .int .i64 0, .slice none 0 0, .slice none 0 0] 35)).alloc (by simp) (.cells #[.int .i64 x, .int .i64 1, .bool false, .slice none 0 0] 44)
  have HK : Hid (KO zs k = true) := hk
  clear hk
  go_enter Tryz.func64, Tryz.ntmps64
  go_wp2_with fail
  generalize (w.alloc (.cells #[.int .i64 n, .int .i64 f, .int .i64 p, .int .i64 a, .int .i64 l, .int .i64 m, .slice aK k cK, L, P, .slice none 0 0, .int .i64 0, .slice none 0 0, .slice none 0 0] 35)).alloc (.cells #[.int .i64 x, .int .i64 1, .bool false, .slice none 0 0] 44) = w1 at R Q B ⊢
  have q0 := Q.cell 0 rfl
  have q1 := Q.cell 1 rfl
  have q3 := Q.cell 3 rfl
  have r6 := R.cell 6 rfl
  go_loop [5] (fun i => i = .int .i64 0) (fun i => 0)
  case atStart => rfl
  case round =>
    subst hrel
    go_wp2_with fail
    refine (l5Off x hx _).mono ?_
    rintro e w2 ⟨rfl, rfl⟩
    go_wp2_with fail
    refine (Sp.s_l1In 1 1000 1 _).mono ?_
    rintro e w3 ⟨rfl, rfl⟩
    rw [lk_yes (by omega)]
    go_wp2_with fail
    refine (merged aK k cK zs _ ((hr.later B (Nat.le_refl _)).more B.size) HK.out).mono ?_
    rintro e w4 ⟨rfl, b4⟩
    go_wp2
    go_ret
    exact ⟨rfl, B.trans (b4.mono B.size)⟩

end Go.Proofs.YtimakfokgcnklaaGreat.Ct
