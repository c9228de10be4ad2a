/-
  A new court (spec.CourtOk and what it calls): what is asked of one ahead of all that is nil in it.
-/
import Derived.Test.YtimakfokgcnklaaGreatSl2
import Derived.Test.YtimakfokgcnklaaGreatRd
import Derived.Test.YtimakfokgcnklaaGreatTk
namespace Go.Proofs.YtimakfokgcnklaaGreat.Ct
open Go.ChangeShapes Go.WideShapes Go.ChangeAt Go.RowKit
open Ls (el Row)
open Rm (Room)
open Rd (Flags)
open Sp (LK retb reti)
open Sl (KO sl lk_yes)
set_option linter.unusedVariables false
set_option linter.unusedSimpArgs false

/-- A right rule. -/
def RK (n f p a l m : Int) : Prop := (1 ≤ n ∧ n ≤ 16) ∧ (0 ≤ f ∧ 2 * f + 1 ≤ n) ∧ (1 ≤ l ∧ l ≤ 1000) ∧ (l ≤ m ∧ m ≤ 1000) ∧ (1 ≤ p ∧ p ≤ 100000) ∧ 0 ≤ a ∧ a + m < p
abbrev r6 (n f p a l m : Int) : List Value := [.int .i64 n, .int .i64 f, .int .i64 p, .int .i64 a, .int .i64 l, .int .i64 m]
abbrev rul (n f p a l m : Int) : Value := .agg #[.int .i64 n, .int .i64 f, .int .i64 p, .int .i64 a, .int .i64 l, .int .i64 m]

set_option maxHeartbeats 2000000 in
theorem ruleOk (n f p a l m : Int) (h : RK n f p a l m) (w : World) :
    Calls Tryz.prog 13 #[rul n f p a l m] w fun e w' => e = .returned (.bool true) ∧ Below w.heap.size w w' := by
  obtain ⟨h1, h2, h3, h4, h5, h6, h7⟩ := h
  have R := Room.new w (r6 n f p a l m) 25
  have B := (Below.refl w.heap.size w).alloc (Nat.le_refl _) (.cells #[.int .i64 n, .int .i64 f, .int .i64 p, .int .i64 a, .int .i64 l, .int .i64 m] 25)
  go_enter Tryz.func13, Tryz.ntmps13
  have c0 := R.cell 0 rfl
  have c1 := R.cell 1 rfl
  have c2 := R.cell 2 rfl
  have c3 := R.cell 3 rfl
  have c4 := R.cell 4 rfl
  have c5 := R.cell 5 rfl
  go_wp2_with fail
  refine (Sp.s_l1In 1 16 n _).mono ?_
  rintro e w1 ⟨rfl, rfl⟩
  rw [lk_yes h1]
  go_wp2_with fail
  refine (Sp.s_l1In 0 16 f _).mono ?_
  rintro e w1 ⟨rfl, rfl⟩
  rw [lk_yes (by omega)]
  go_wp2_with fail
  refine (Sp.s_l1In 1 1000 l _).mono ?_
  rintro e w1 ⟨rfl, rfl⟩
  rw [lk_yes h3]
  go_wp2_with fail
  refine (Sp.s_l1In l 1000 m _).mono ?_
  rintro e w1 ⟨rfl, rfl⟩
  rw [lk_yes h4]
  go_wp2_with fail
  refine (Sp.s_l1In 1 100000 p _).mono ?_
  rintro e w1 ⟨rfl, rfl⟩
  rw [lk_yes h5]
  go_wp2_with fail
  refine (Sp.s_l1In 0 p a _).mono ?_
  rintro e w1 ⟨rfl, rfl⟩
  rw [lk_yes (by omega)]
  go_wp2_with fail
  go_ret
  exact ⟨rfl, B⟩

theorem l5Off (x : Int) (h : -1000000000000000 ≤ x ∧ x ≤ 1000000000000000) (w : World) :
    Calls Tryz.prog 107 #[.int .i64 x] w fun e w' => e = .returned (.bool true) ∧ w' = w := by
  go_enter Tryz.func107, Tryz.ntmps107
  go_wp2_with fail
  refine (Sp.s_l1In (-1000000000000000) 1000000000000000 x _).mono ?_
  rintro e w1 ⟨rfl, rfl⟩
  rw [lk_yes h]
  go_wp2
  go_ret
  exact ⟨rfl, rfl⟩

def eb (bs : List Bool) (k : Nat) : Bool := bs.getD k false
/-- How many of the first k are true. -/
def CT (bs : List Bool) : Nat → Nat
  | 0 => 0
  | k + 1 => CT bs k + if eb bs k then 1 else 0
theorem ct_le (bs : List Bool) (k : Nat) : CT bs k ≤ k := by
  induction k with
  | zero => exact Nat.le_refl _
  | succ k ih => rw [CT]; split <;> omega

set_option maxHeartbeats 1000000 in
theorem count (a : Option Addr) (n cap : Nat) (bs : List Bool) (w : World) (hr : Flags w w.heap.size a n bs) (hn : n ≤ 1048576) :
    Calls Tryz.prog 62 #[.slice a n cap] w fun e w' => e = .returned (.int .i64 (CT bs n)) ∧ w' = w := by
  obtain ⟨hz, hrow⟩ := hr
  go_enter Tryz.func62, Tryz.ntmps62
  go_wp2
  go_loop [3, 4] (fun c i => ∃ k : Nat, k ≤ n ∧ i = .int .i64 k ∧ c = .int .i64 (CT bs k)) (fun _ i => n - (intOf i).toNat)
  case atStart => exact ⟨0, Nat.zero_le _, rfl, rfl⟩
  case round =>
    obtain ⟨k, hk, rfl, rfl⟩ := hrel
    have hbk := ct_le bs k
    by_cases hlt : k < n
    · have hi : (k : Int) < n := by omega
      rcases hrow with hrow | ⟨b, off, rfl, hB, hc⟩
      · omega
      have hc1 : w.cell? ⟨b, off + k, none⟩ = some (.bool (eb bs k)) := hc k hlt
      clear hc
      cases h0 : eb bs k with
      | false =>
        have E : Hid (CT bs (k + 1) = CT bs k) := by show CT bs k + (if eb bs k then 1 else 0) = CT bs k; rw [h0]; rfl
        rw [h0] at hc1
        clear h0
        go_wp2
        go_round
        case rel => exact ⟨k + 1, by omega, by go_num, by rw [E.out]⟩
        case measure => simp [intOf]; omega
      | true =>
        have E : Hid (CT bs (k + 1) = CT bs k + 1) := by show CT bs k + (if eb bs k then 1 else 0) = CT bs k + 1; rw [h0]; rfl
        rw [h0] at hc1
        clear h0
        go_wp2
        go_round
        case rel => exact ⟨k + 1, by omega, by go_num, by rw [E.out]; go_num⟩
        case measure => simp [intOf]; omega
    · have hi : ¬ (k : Int) < n := by omega
      have e : k = n := by omega
      subst e
      go_wp2
      go_ret
      exact ⟨rfl, rfl⟩

/-! Where there is no seal. -/
theorem like (g c : Nat) (w : World) :
    Calls Tryz.prog 105 #[.slice none 0 0, .slice (some ⟨g, 0, none⟩) 0 c] w fun e w' => e = .returned (.bool true) ∧ w' = w := by
  go_enter Tryz.func105, Tryz.ntmps105
  go_wp2
  go_loop [5] (fun i => i = .int .i64 0) (fun i => 0)
  case atStart => rfl
  case round =>
    subst hrel
    go_wp2
    go_ret
    exact ⟨rfl, rfl⟩

theorem merged0 (a : Option Addr) (n cap g c : Nat) (zs : List Int) (w : World) (hr : Row w w.heap.size a n zs) (hk : KO zs n = true) :
    Calls Tryz.prog 106 #[.slice a n cap, .slice none 0 0, .slice (some ⟨g, 0, none⟩) 0 c] w fun e w' => e = .returned (.slice (some ⟨w.heap.size, 0, none⟩) 0 0) ∧ Below w.heap.size w w' := by
  have hn := (Sl.ko_of hk).1
  have B := (Below.refl w.heap.size w).alloc (Nat.le_refl _) (.cells #[] 125)
  have HK : Hid (KO zs n = true) := hk
  clear hk
  go_enter Tryz.func106, Tryz.ntmps106
  go_wp2_with fail
  refine (Sl.s_KeysOk a n cap zs _ ((hr.later B (Nat.le_refl _)).more B.size) (by omega)).mono ?_
  rintro e w1 ⟨rfl, rfl⟩
  rw [HK.out]
  go_wp2
  go_loop [7, 8, 9] (fun v i _ => i = .int .i64 0 ∧ v = .slice (some ⟨w.heap.size, 0, none⟩) 0 0) (fun _ i _ => 0)
  case atStart => exact ⟨rfl, rfl⟩
  case round =>
    obtain ⟨rfl, rfl⟩ := hrel
    go_wp2
    go_ret
    exact ⟨rfl, B⟩

theorem merged (a : Option Addr) (n cap : Nat) (zs : List Int) (w : World) (hr : Row w w.heap.size a n zs) (hk : KO zs n = true) :
    Calls Tryz.prog 63 #[.slice a n cap, .slice none 0 0] w fun e w' => e = .returned (.bool true) ∧ Below w.heap.size w w' := by
  have B := (Below.refl w.heap.size w).alloc (Nat.le_refl _) (.cells #[] 125)
  have HK : Hid (KO zs n = true) := hk
  clear hk
  go_enter Tryz.func63, Tryz.ntmps63
  go_wp2_with fail
  refine (merged0 a n cap _ _ zs _ ((hr.later B (Nat.le_refl _)).more B.size) HK.out).mono ?_
  rintro e w1 ⟨rfl, b1⟩
  replace B := B.trans (b1.mono B.size)
  go_wp2_with fail
  refine (like _ _ _).mono ?_
  rintro e w2 ⟨rfl, rfl⟩
  go_wp2
  go_ret
  exact ⟨rfl, B⟩

end Go.Proofs.YtimakfokgcnklaaGreat.Ct
