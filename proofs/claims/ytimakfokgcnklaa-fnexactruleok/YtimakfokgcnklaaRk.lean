/-
  A rule: right or not (spec.RuleOk), at whatever arguments.
-/
import Derived.Test.YtimakfokgcnklaaSpan
import Derived.Test.YtimakfokgcnklaaRm
namespace Go.Proofs.Ytimakfokgcnklaa.Cd
open Go.ChangeShapes Go.WideShapes Go.ChangeAt Go.RowKit
open Rm (Room)
open Sp (LK retb)
set_option linter.unusedVariables false
set_option linter.unusedSimpArgs false

theorem lk_yes {lo hi n : Int} (h3 : lo ≤ n ∧ n ≤ hi) : LK lo hi n = false := by
  unfold LK
  rw [decide_eq_true h3.1, decide_eq_true h3.2]; rfl
theorem lk_no {lo hi n : Int} (h3 : ¬ (lo ≤ n ∧ n ≤ hi)) : LK lo hi n = true := by
  unfold LK
  by_cases h1 : lo ≤ n
  · rw [decide_eq_true h1, decide_eq_false (show ¬ n ≤ hi by omega)]; rfl
  · rw [decide_eq_false h1]; rfl

def RK (n f p a l m : Int) : Prop := (1 ≤ n ∧ n ≤ 16) ∧ (0 ≤ f ∧ 2 * f + 1 ≤ n) ∧ (1 ≤ l ∧ l ≤ 1000) ∧ (l ≤ m ∧ m ≤ 1000) ∧ (1 ≤ p ∧ p ≤ 100000) ∧ 0 ≤ a ∧ a + m < p
instance (n f p a l m : Int) : Decidable (RK n f p a l m) := by unfold RK; infer_instance
def RO (n f p a l m : Int) : Bool := decide (RK n f p a l m)

set_option maxHeartbeats 4000000 in
theorem ruleS (n f p a l m : Int) (w : World) :
    Calls Try.prog 4 #[.agg #[.int .i64 n, .int .i64 f, .int .i64 p, .int .i64 a, .int .i64 l, .int .i64 m]] w fun e w' => e = .returned (.bool (RO n f p a l m)) ∧ Below w.heap.size w w' := by
  have R := Room.new w [.int .i64 n, .int .i64 f, .int .i64 p, .int .i64 a, .int .i64 l, .int .i64 m] 25
  have B := (Below.refl w.heap.size w).alloc (Nat.le_refl _) (.cells #[.int .i64 n, .int .i64 f, .int .i64 p, .int .i64 a, .int .i64 l, .int .i64 m] 25)
  by_cases h0 : 1 ≤ n ∧ n ≤ 16
  · by_cases h1 : 0 ≤ f ∧ f ≤ 16
    · by_cases h2 : 2 * f + 1 ≤ n
      · by_cases h3 : 1 ≤ l ∧ l ≤ 1000
        · by_cases h4 : l ≤ m ∧ m ≤ 1000
          · by_cases h5 : 1 ≤ p ∧ p ≤ 100000
            · by_cases h6 : 0 ≤ a ∧ a ≤ p
              · by_cases h7 : a + m < p
                · have HV : Hid (RO n f p a l m = true) := decide_eq_true (by unfold RK; omega)
                  have hw1 : IntKind.i64.wrap (2 * f) = 2 * f := by rw [IntKind.wrap_i64]; omega
                  have hw2 : IntKind.i64.wrap (2 * f + 1) = 2 * f + 1 := by rw [IntKind.wrap_i64]; omega
                  have hw3 : IntKind.i64.wrap (a + m) = a + m := by rw [IntKind.wrap_i64]; omega
                  go_enter Try.func4, Try.ntmps4
                  have c0 := R.cell 0 rfl
                  have c1 := R.cell 1 rfl
                  have c2 := R.cell 2 rfl
                  have c3 := R.cell 3 rfl
                  have c4 := R.cell 4 rfl
                  have c5 := R.cell 5 rfl
                  go_wp2_with fail
                  refine (Sp.s_l1In 1 16 n _).mono ?_
                  rintro e w1 ⟨rfl, rfl⟩
                  rw [lk_yes h0]
                  go_wp2_with fail
                  refine (Sp.s_l1In 0 16 f _).mono ?_
                  rintro e w1 ⟨rfl, rfl⟩
                  rw [lk_yes h1]
                  go_wp2_with fail
                  refine (Sp.s_l1In 1 1000 l _).mono ?_
                  rintro e w1 ⟨rfl, rfl⟩
                  rw [lk_yes h3]
                  go_wp2_with fail
                  refine (Sp.s_l1In l 1000 m _).mono ?_
                  rintro e w1 ⟨rfl, rfl⟩
                  rw [lk_yes h4]
                  go_wp2_with fail
                  refine (Sp.s_l1In 1 100000 p _).mono ?_
                  rintro e w1 ⟨rfl, rfl⟩
                  rw [lk_yes h5]
                  go_wp2_with fail
                  refine (Sp.s_l1In 0 p a _).mono ?_
                  rintro e w1 ⟨rfl, rfl⟩
                  rw [lk_yes h6]
                  go_wp2
                  go_ret
                  exact ⟨retb HV.out.symm, B⟩
                · have HV : Hid (RO n f p a l m = false) := decide_eq_false (by unfold RK; omega)
                  have hw1 : IntKind.i64.wrap (2 * f) = 2 * f := by rw [IntKind.wrap_i64]; omega
                  have hw2 : IntKind.i64.wrap (2 * f + 1) = 2 * f + 1 := by rw [IntKind.wrap_i64]; omega
                  have hw3 : IntKind.i64.wrap (a + m) = a + m := by rw [IntKind.wrap_i64]; omega
                  have d7 : decide (p > a + m) = false := decide_eq_false (by omega)
                  go_enter Try.func4, Try.ntmps4
                  have c0 := R.cell 0 rfl
                  have c1 := R.cell 1 rfl
                  have c2 := R.cell 2 rfl
                  have c3 := R.cell 3 rfl
                  have c4 := R.cell 4 rfl
                  have c5 := R.cell 5 rfl
                  go_wp2_with fail
                  refine (Sp.s_l1In 1 16 n _).mono ?_
                  rintro e w1 ⟨rfl, rfl⟩
                  rw [lk_yes h0]
                  go_wp2_with fail
                  refine (Sp.s_l1In 0 16 f _).mono ?_
                  rintro e w1 ⟨rfl, rfl⟩
                  rw [lk_yes h1]
                  go_wp2_with fail
                  refine (Sp.s_l1In 1 1000 l _).mono ?_
                  rintro e w1 ⟨rfl, rfl⟩
                  rw [lk_yes h3]
                  go_wp2_with fail
                  refine (Sp.s_l1In l 1000 m _).mono ?_
                  rintro e w1 ⟨rfl, rfl⟩
                  rw [lk_yes h4]
                  go_wp2_with fail
                  refine (Sp.s_l1In 1 100000 p _).mono ?_
                  rintro e w1 ⟨rfl, rfl⟩
                  rw [lk_yes h5]
                  go_wp2_with fail
                  refine (Sp.s_l1In 0 p a _).mono ?_
                  rintro e w1 ⟨rfl, rfl⟩
                  rw [lk_yes h6]
                  go_wp2
                  go_ret
                  exact ⟨retb HV.out.symm, B⟩
              · have HV : Hid (RO n f p a l m = false) := decide_eq_false (by unfold RK; omega)
                have hw1 : IntKind.i64.wrap (2 * f) = 2 * f := by rw [IntKind.wrap_i64]; omega
                have hw2 : IntKind.i64.wrap (2 * f + 1) = 2 * f + 1 := by rw [IntKind.wrap_i64]; omega
                go_enter Try.func4, Try.ntmps4
                have c0 := R.cell 0 rfl
                have c1 := R.cell 1 rfl
                have c2 := R.cell 2 rfl
                have c3 := R.cell 3 rfl
                have c4 := R.cell 4 rfl
                have c5 := R.cell 5 rfl
                go_wp2_with fail
                refine (Sp.s_l1In 1 16 n _).mono ?_
                rintro e w1 ⟨rfl, rfl⟩
                rw [lk_yes h0]
                go_wp2_with fail
                refine (Sp.s_l1In 0 16 f _).mono ?_
                rintro e w1 ⟨rfl, rfl⟩
                rw [lk_yes h1]
                go_wp2_with fail
                refine (Sp.s_l1In 1 1000 l _).mono ?_
                rintro e w1 ⟨rfl, rfl⟩
                rw [lk_yes h3]
                go_wp2_with fail
                refine (Sp.s_l1In l 1000 m _).mono ?_
                rintro e w1 ⟨rfl, rfl⟩
                rw [lk_yes h4]
                go_wp2_with fail
                refine (Sp.s_l1In 1 100000 p _).mono ?_
                rintro e w1 ⟨rfl, rfl⟩
                rw [lk_yes h5]
                go_wp2_with fail
                refine (Sp.s_l1In 0 p a _).mono ?_
                rintro e w1 ⟨rfl, rfl⟩
                rw [lk_no h6]
                go_wp2
                go_ret
                exact ⟨retb HV.out.symm, B⟩
            · have HV : Hid (RO n f p a l m = false) := decide_eq_false (by unfold RK; omega)
              have hw1 : IntKind.i64.wrap (2 * f) = 2 * f := by rw [IntKind.wrap_i64]; omega
              have hw2 : IntKind.i64.wrap (2 * f + 1) = 2 * f + 1 := by rw [IntKind.wrap_i64]; omega
              go_enter Try.func4, Try.ntmps4
              have c0 := R.cell 0 rfl
              have c1 := R.cell 1 rfl
              have c2 := R.cell 2 rfl
              have c3 := R.cell 3 rfl
              have c4 := R.cell 4 rfl
              have c5 := R.cell 5 rfl
              go_wp2_with fail
              refine (Sp.s_l1In 1 16 n _).mono ?_
              rintro e w1 ⟨rfl, rfl⟩
              rw [lk_yes h0]
              go_wp2_with fail
              refine (Sp.s_l1In 0 16 f _).mono ?_
              rintro e w1 ⟨rfl, rfl⟩
              rw [lk_yes h1]
              go_wp2_with fail
              refine (Sp.s_l1In 1 1000 l _).mono ?_
              rintro e w1 ⟨rfl, rfl⟩
              rw [lk_yes h3]
              go_wp2_with fail
              refine (Sp.s_l1In l 1000 m _).mono ?_
              rintro e w1 ⟨rfl, rfl⟩
              rw [lk_yes h4]
              go_wp2_with fail
              refine (Sp.s_l1In 1 100000 p _).mono ?_
              rintro e w1 ⟨rfl, rfl⟩
              rw [lk_no h5]
              go_wp2
              go_ret
              exact ⟨retb HV.out.symm, B⟩
          · have HV : Hid (RO n f p a l m = false) := decide_eq_false (by unfold RK; omega)
            have hw1 : IntKind.i64.wrap (2 * f) = 2 * f := by rw [IntKind.wrap_i64]; omega
            have hw2 : IntKind.i64.wrap (2 * f + 1) = 2 * f + 1 := by rw [IntKind.wrap_i64]; omega
            go_enter Try.func4, Try.ntmps4
            have c0 := R.cell 0 rfl
            have c1 := R.cell 1 rfl
            have c2 := R.cell 2 rfl
            have c3 := R.cell 3 rfl
            have c4 := R.cell 4 rfl
            have c5 := R.cell 5 rfl
            go_wp2_with fail
            refine (Sp.s_l1In 1 16 n _).mono ?_
            rintro e w1 ⟨rfl, rfl⟩
            rw [lk_yes h0]
            go_wp2_with fail
            refine (Sp.s_l1In 0 16 f _).mono ?_
            rintro e w1 ⟨rfl, rfl⟩
            rw [lk_yes h1]
            go_wp2_with fail
            refine (Sp.s_l1In 1 1000 l _).mono ?_
            rintro e w1 ⟨rfl, rfl⟩
            rw [lk_yes h3]
            go_wp2_with fail
            refine (Sp.s_l1In l 1000 m _).mono ?_
            rintro e w1 ⟨rfl, rfl⟩
            rw [lk_no h4]
            go_wp2
            go_ret
            exact ⟨retb HV.out.symm, B⟩
        · have HV : Hid (RO n f p a l m = false) := decide_eq_false (by unfold RK; omega)
          have hw1 : IntKind.i64.wrap (2 * f) = 2 * f := by rw [IntKind.wrap_i64]; omega
          have hw2 : IntKind.i64.wrap (2 * f + 1) = 2 * f + 1 := by rw [IntKind.wrap_i64]; omega
          go_enter Try.func4, Try.ntmps4
          have c0 := R.cell 0 rfl
          have c1 := R.cell 1 rfl
          have c2 := R.cell 2 rfl
          have c3 := R.cell 3 rfl
          have c4 := R.cell 4 rfl
          have c5 := R.cell 5 rfl
          go_wp2_with fail
          refine (Sp.s_l1In 1 16 n _).mono ?_
          rintro e w1 ⟨rfl, rfl⟩
          rw [lk_yes h0]
          go_wp2_with fail
          refine (Sp.s_l1In 0 16 f _).mono ?_
          rintro e w1 ⟨rfl, rfl⟩
          rw [lk_yes h1]
          go_wp2_with fail
          refine (Sp.s_l1In 1 1000 l _).mono ?_
          rintro e w1 ⟨rfl, rfl⟩
          rw [lk_no h3]
          go_wp2
          go_ret
          exact ⟨retb HV.out.symm, B⟩
      · have HV : Hid (RO n f p a l m = false) := decide_eq_false (by unfold RK; omega)
        have hw1 : IntKind.i64.wrap (2 * f) = 2 * f := by rw [IntKind.wrap_i64]; omega
        have hw2 : IntKind.i64.wrap (2 * f + 1) = 2 * f + 1 := by rw [IntKind.wrap_i64]; omega
        have d2 : decide (n ≥ 2 * f + 1) = false := decide_eq_false (by omega)
        go_enter Try.func4, Try.ntmps4
        have c0 := R.cell 0 rfl
        have c1 := R.cell 1 rfl
        have c2 := R.cell 2 rfl
        have c3 := R.cell 3 rfl
        have c4 := R.cell 4 rfl
        have c5 := R.cell 5 rfl
        go_wp2_with fail
        refine (Sp.s_l1In 1 16 n _).mono ?_
        rintro e w1 ⟨rfl, rfl⟩
        rw [lk_yes h0]
        go_wp2_with fail
        refine (Sp.s_l1In 0 16 f _).mono ?_
        rintro e w1 ⟨rfl, rfl⟩
        rw [lk_yes h1]
        go_wp2
        go_ret
        exact ⟨retb HV.out.symm, B⟩
    · have HV : Hid (RO n f p a l m = false) := decide_eq_false (by unfold RK; omega)
      go_enter Try.func4, Try.ntmps4
      have c0 := R.cell 0 rfl
      have c1 := R.cell 1 rfl
      have c2 := R.cell 2 rfl
      have c3 := R.cell 3 rfl
      have c4 := R.cell 4 rfl
      have c5 := R.cell 5 rfl
      go_wp2_with fail
      refine (Sp.s_l1In 1 16 n _).mono ?_
      rintro e w1 ⟨rfl, rfl⟩
      rw [lk_yes h0]
      go_wp2_with fail
      refine (Sp.s_l1In 0 16 f _).mono ?_
      rintro e w1 ⟨rfl, rfl⟩
      rw [lk_no h1]
      go_wp2
      go_ret
      exact ⟨retb HV.out.symm, B⟩
  · have HV : Hid (RO n f p a l m = false) := decide_eq_false (by unfold RK; omega)
    go_enter Try.func4, Try.ntmps4
    have c0 := R.cell 0 rfl
    have c1 := R.cell 1 rfl
    have c2 := R.cell 2 rfl
    have c3 := R.cell 3 rfl
    have c4 := R.cell 4 rfl
    have c5 := R.cell 5 rfl
    go_wp2_with fail
    refine (Sp.s_l1In 1 16 n _).mono ?_
    rintro e w1 ⟨rfl, rfl⟩
    rw [lk_no h0]
    go_wp2
    go_ret
    exact ⟨retb HV.out.symm, B⟩

end Go.Proofs.Ytimakfokgcnklaa.Cd
