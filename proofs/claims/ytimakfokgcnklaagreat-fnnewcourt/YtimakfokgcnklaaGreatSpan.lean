/-
  The Go functions of the second chapter, impl's and spec's, each by one answer, at every span and number; each writes nothing that was there ahead of it.
-/
import Derived.Test.YtimakfokgcnklaaGreatAdd
import Derived.WalkSmall
import Derived.Deep.QuietTactic
import Derived.BigQuiet
import Derived.Deep.RegionHeld3
namespace Go.Proofs.YtimakfokgcnklaaGreat.Sp
open Go.ChangeShapes Go.WideShapes Go.ChangeAt Go.RowKit
open Ad (Tm)
set_option linter.unusedVariables false

theorem bcell {W w1 : World} (hb : Below W.heap.size W w1) : (∀ b o, b < W.heap.size → w1.cell? ⟨b, o, none⟩ = W.cell? ⟨b, o, none⟩) ∧ (∀ b o, b < W.heap.size → w1.frozen? ⟨b, o, none⟩ = W.frozen? ⟨b, o, none⟩) :=
  ⟨fun b o h => hb.cell (p := ⟨b, o, none⟩) h, fun b o h => hb.frozen (p := ⟨b, o, none⟩) h⟩

abbrev span (lo hi : Int) : Value := .agg #[.int .i64 lo, .int .i64 hi]
def OK (lo hi : Int) : Bool := decide (Tm lo ∧ Tm hi ∧ lo ≤ hi)
theorem ok_yes {lo hi : Int} (h1 : Tm lo) (h2 : Tm hi) (h3 : lo ≤ hi) : OK lo hi = true := decide_eq_true ⟨h1, h2, h3⟩
theorem ok_no {lo hi : Int} (h : ¬ (Tm lo ∧ Tm hi ∧ lo ≤ hi)) : OK lo hi = false := decide_eq_false h

theorem retb {a b : Bool} (h : a = b) : Ending.returned (.bool a) = .returned (.bool b) := by rw [h]
theorem reti {a b : Int} (h : a = b) : Ending.returned (.int .i64 a) = .returned (.int .i64 b) := by rw [h]
/-- Outside the span's ends. -/
def LK (lo hi n : Int) : Bool := !(decide (lo ≤ n) && decide (n ≤ hi))
theorem lt_le (hi n : Int) : decide (hi < n) = !(true && decide (n ≤ hi)) := by
  by_cases h2 : n ≤ hi
  · rw [decide_eq_true h2, decide_eq_false (show ¬ hi < n by omega)]; rfl
  · rw [decide_eq_false h2, decide_eq_true (show hi < n by omega)]; rfl
theorem set_a {w : World} {p : Nat} {v : Value} (h : w.cell? ⟨p, 0, none⟩ = some v) (u : Value) : (w.setCell ⟨p, 0, none⟩ u).cell? ⟨p, 0, none⟩ = some u := World.cell?_setCell_same _ _ _ h
theorem set_b {w : World} {p : Nat} {v : Value} (h : w.cell? ⟨p, 1, none⟩ = some v) (x u : Value) : ((w.setCell ⟨p, 0, none⟩ x).setCell ⟨p, 1, none⟩ u).cell? ⟨p, 1, none⟩ = some u :=
  World.cell?_setCell_same _ _ _ (by rw [World.cell?_setCell_other _ _ _ _ (by simp)]; exact h)
theorem cell_at (w : World) (cs : Array Value) (t : TypeId) (n j : Nat) (hn : n = w.heap.size) : (w.alloc (.cells cs t)).cell? ⟨n, j, none⟩ = cs[j]? := by
  subst hn; exact World.cell?_alloc_new _ _ _ _
def pk (t : Bool) (x : Int) : Int := if t then x else 0
theorem pk_t (x : Int) : pk true x = x := rfl
theorem pk_f (x : Int) : pk false x = 0 := rfl

theorem i_ok (lo hi : Int) (w : World) :
    Calls Tryz.prog 90 #[span lo hi] w fun e w' => e = .returned (.bool (OK lo hi)) ∧ Below w.heap.size w w' := by
  by_cases h1 : Tm lo
  · have d1 : decide (Tm lo) = true := decide_eq_true h1
    by_cases h2 : Tm hi
    · have d2 : decide (Tm hi) = true := decide_eq_true h2
      by_cases h3 : lo ≤ hi
      · have d3 : decide (lo ≤ hi) = true := decide_eq_true h3
        rw [ok_yes h1 h2 h3]
        go_enter Tryz.func90, Tryz.ntmps90
        go_wp2_with (go_at_call 118; refine (Ad.io _ _).mono ?_; rintro e w2 ⟨rfl, rfl⟩)
        go_ret
        exact ⟨rfl, (Below.refl _ _).alloc (Nat.le_refl _) _⟩
      · have d3 : decide (lo ≤ hi) = false := decide_eq_false h3
        rw [ok_no (fun h => h3 h.2.2)]
        clear h3
        go_enter Tryz.func90, Tryz.ntmps90
        go_wp2_with (go_at_call 118; refine (Ad.io _ _).mono ?_; rintro e w2 ⟨rfl, rfl⟩)
        go_ret
        exact ⟨rfl, (Below.refl _ _).alloc (Nat.le_refl _) _⟩
    · have d2 : decide (Tm hi) = false := decide_eq_false h2
      rw [ok_no (fun h => h2 h.2.1)]
      go_enter Tryz.func90, Tryz.ntmps90
      go_wp2_with (go_at_call 118; refine (Ad.io _ _).mono ?_; rintro e w2 ⟨rfl, rfl⟩)
      go_ret
      exact ⟨rfl, (Below.refl _ _).alloc (Nat.le_refl _) _⟩
  · have d1 : decide (Tm lo) = false := decide_eq_false h1
    rw [ok_no (fun h => h1 h.1)]
    go_enter Tryz.func90, Tryz.ntmps90
    go_wp2_with (go_at_call 118; refine (Ad.io _ _).mono ?_; rintro e w2 ⟨rfl, rfl⟩)
    go_ret
    exact ⟨rfl, (Below.refl _ _).alloc (Nat.le_refl _) _⟩

theorem i_lacks (lo hi n : Int) (w : World) :
    Calls Tryz.prog 91 #[span lo hi, .int .i64 n] w fun e w' => e = .returned (.bool (LK lo hi n)) ∧ Below w.heap.size w w' := by
  by_cases h1 : n < lo
  · have d1 : LK lo hi n = true := by unfold LK; rw [decide_eq_false (show ¬ lo ≤ n by omega)]; rfl
    rw [d1]
    have d2 : decide (n < lo) = true := decide_eq_true h1
    go_enter Tryz.func91, Tryz.ntmps91
    go_wp2
    go_ret
    exact ⟨rfl, (Below.refl _ _).alloc (Nat.le_refl _) _⟩
  · have d2 : decide (n < lo) = false := decide_eq_false h1
    have d1 : decide (hi < n) = LK lo hi n := by unfold LK; rw [decide_eq_true (show lo ≤ n by omega)]; exact lt_le hi n
    have HD : Hid (decide (hi < n) = LK lo hi n) := d1
    clear d1
    go_enter Tryz.func91, Tryz.ntmps91
    go_wp2
    go_ret
    exact ⟨retb HD.out, (Below.refl _ _).alloc (Nat.le_refl _) _⟩

theorem s_l1In (lo hi n : Int) (w : World) :
    Calls Tryz.prog 48 #[.int .i64 n, .int .i64 lo, .int .i64 hi] w fun e w' => e = .returned (.bool (!LK lo hi n)) ∧ w' = w := by
  have HD : Hid ((decide (lo ≤ n) && decide (n ≤ hi)) = !LK lo hi n) := by unfold LK Hid; simp
  by_cases h1 : lo ≤ n
  · have d1 : decide (lo ≤ n) = true := decide_eq_true h1
    go_enter Tryz.func48, Tryz.ntmps48
    go_wp2
    go_ret
    exact ⟨retb (by have := HD.out; rw [d1] at this; exact this), rfl⟩
  · have d1 : decide (lo ≤ n) = false := decide_eq_false h1
    have e : (!LK lo hi n) = false := by have := HD.out; rw [d1] at this; exact this.symm
    rw [e]
    go_enter Tryz.func48, Tryz.ntmps48
    go_wp2
    go_ret
    exact ⟨rfl, rfl⟩

def IN (lo hi n : Int) : Bool := OK lo hi && !LK lo hi n

theorem i_InSpan (lo hi n : Int) (w : World) :
    Calls Tryz.prog 47 #[span lo hi, .int .i64 n] w fun e w' => e = .returned (.bool (IN lo hi n)) ∧ Below w.heap.size w w' := by
  unfold IN
  cases h : OK lo hi with
  | true =>
    go_enter Tryz.func47, Tryz.ntmps47
    go_wp2_with fail
    refine (i_ok _ _ _).mono ?_
    rintro e w2 ⟨rfl, hb⟩
    obtain ⟨hc, hf⟩ := bcell hb
    have hz := hb.size
    go_wp2_with fail
    refine (i_lacks _ _ _ _).mono ?_
    rintro e w3 ⟨rfl, hb3⟩
    go_wp2
    go_ret
    exact ⟨rfl, (((Below.refl _ _).alloc (Nat.le_refl _) _).trans (hb.mono (by simp))).trans (hb3.mono (by simp at hz; omega))⟩
  | false =>
    go_enter Tryz.func47, Tryz.ntmps47
    go_wp2_with fail
    refine (i_ok _ _ _).mono ?_
    rintro e w2 ⟨rfl, hb⟩
    go_wp2
    go_ret
    exact ⟨rfl, ((Below.refl _ _).alloc (Nat.le_refl _) _).trans (hb.mono (by simp))⟩

theorem l1Max (a b : Int) (w : World) :
    Calls Tryz.prog 36 #[.int .i64 a, .int .i64 b] w fun e w' => e = .returned (.int .i64 (max a b)) ∧ w' = w := by
  by_cases h : b < a
  · go_enter Tryz.func36, Tryz.ntmps36
    go_wp2
    go_ret
    exact ⟨reti (by omega), rfl⟩
  · go_enter Tryz.func36, Tryz.ntmps36
    go_wp2
    go_ret
    exact ⟨reti (by omega), rfl⟩

theorem l1Min (a b : Int) (w : World) :
    Calls Tryz.prog 37 #[.int .i64 a, .int .i64 b] w fun e w' => e = .returned (.int .i64 (min a b)) ∧ w' = w := by
  by_cases h : a < b
  · go_enter Tryz.func37, Tryz.ntmps37
    go_wp2
    go_ret
    exact ⟨reti (by omega), rfl⟩
  · go_enter Tryz.func37, Tryz.ntmps37
    go_wp2
    go_ret
    exact ⟨reti (by omega), rfl⟩

end Go.Proofs.YtimakfokgcnklaaGreat.Sp
