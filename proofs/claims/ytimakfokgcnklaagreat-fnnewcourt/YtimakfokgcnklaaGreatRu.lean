/-
  A rule: right or not (impl.RuleOk), at whatever arguments.
-/
import Derived.Test.YtimakfokgcnklaaGreatCs2
namespace Go.Proofs.YtimakfokgcnklaaGreat.Cd
open Go.ChangeShapes Go.WideShapes Go.ChangeAt Go.RowKit
open Ad (Tm)
open Rm (Room)
open Sp (IN OK LK retb)
open Sl (lk_yes lk_no)
set_option linter.unusedVariables false
set_option linter.unusedSimpArgs false

theorem in_yes {lo hi n : Int} (h1 : Tm lo) (h2 : Tm hi) (h3 : lo ≤ n ∧ n ≤ hi) : IN lo hi n = true := by
  unfold IN
  rw [Sp.ok_yes h1 h2 (by omega), lk_yes h3]; rfl
theorem in_no {lo hi n : Int} (h : ¬ (lo ≤ n ∧ n ≤ hi)) : IN lo hi n = false := by
  unfold IN
  rw [lk_no h]; simp

set_option maxHeartbeats 4000000 in
theorem i_RuleOk (n f p a l m : Int) (w : World) :
    Calls Tryz.prog 12 #[.agg #[.int .i64 n, .int .i64 f, .int .i64 p, .int .i64 a, .int .i64 l, .int .i64 m]] w fun e w' => e = .returned (.bool (RO n f p a l m)) ∧ Below w.heap.size w w' := by
  have R := Room.new w [.int .i64 n, .int .i64 f, .int .i64 p, .int .i64 a, .int .i64 l, .int .i64 m] 25
  have B := (Below.refl w.heap.size w).alloc (Nat.le_refl _) (.cells #[.int .i64 n, .int .i64 f, .int .i64 p, .int .i64 a, .int .i64 l, .int .i64 m] 25)
  by_cases h0 : 1 ≤ n ∧ n ≤ 16
  · by_cases h1 : 0 ≤ f ∧ f ≤ (n - 1).tdiv 2
    · by_cases h2 : 1 ≤ l ∧ l ≤ 1000
      · by_cases h3 : l ≤ m ∧ m ≤ 1000
        · by_cases h4 : 1 ≤ p ∧ p ≤ 100000
          · by_cases h5 : 0 ≤ a ∧ a ≤ p - m - 1
            · have t1 : (n - 1).tdiv 2 = (n - 1) / 2 := Int.tdiv_eq_ediv_of_nonneg (by omega)
              have HV : Hid (RO n f p a l m = true) := decide_eq_true (by unfold RK; omega)
              have hw1 : IntKind.i64.wrap (n - 1) = n - 1 := by rw [IntKind.wrap_i64]; omega
              have hw2 : IntKind.i64.wrap ((n - 1).tdiv 2) = (n - 1).tdiv 2 := by rw [IntKind.wrap_i64]; omega
              have hw3 : IntKind.i64.wrap (p - m) = p - m := by rw [IntKind.wrap_i64]; omega
              have hw4 : IntKind.i64.wrap (p - m - 1) = p - m - 1 := by rw [IntKind.wrap_i64]; omega
              have e0 : Hid (IN 1 16 n = true) := in_yes (by unfold Tm; omega) (by unfold Tm; omega) h0
              have e1 : Hid (IN 0 ((n - 1).tdiv 2) f = true) := in_yes (by unfold Tm; omega) (by unfold Tm; omega) h1
              have e2 : Hid (IN 1 1000 l = true) := in_yes (by unfold Tm; omega) (by unfold Tm; omega) h2
              have e3 : Hid (IN l 1000 m = true) := in_yes (by unfold Tm; omega) (by unfold Tm; omega) h3
              have e4 : Hid (IN 1 100000 p = true) := in_yes (by unfold Tm; omega) (by unfold Tm; omega) h4
              have e5 : Hid (IN 0 (p - m - 1) a = true) := in_yes (by unfold Tm; omega) (by unfold Tm; omega) h5
              clear t1
              go_enter Tryz.func12, Tryz.ntmps12
              have c0 := R.cell 0 rfl
              have c1 := R.cell 1 rfl
              have c2 := R.cell 2 rfl
              have c3 := R.cell 3 rfl
              have c4 := R.cell 4 rfl
              have c5 := R.cell 5 rfl
              go_wp2_with fail
              refine (Sp.i_InSpan 1 16 n _).mono ?_
              rintro e w1 ⟨rfl, b1⟩
              rw [e0.out]
              replace R := R.below (b1.mono (Nat.le_refl _))
              replace B := B.trans (b1.mono B.size)
              clear b1 c0 c1 c2 c3 c4 c5
              have c0 := R.cell 0 rfl
              have c1 := R.cell 1 rfl
              have c2 := R.cell 2 rfl
              have c3 := R.cell 3 rfl
              have c4 := R.cell 4 rfl
              have c5 := R.cell 5 rfl
              go_wp2_with fail
              refine (Sp.i_InSpan 0 ((n - 1).tdiv 2) f _).mono ?_
              rintro e w1 ⟨rfl, b1⟩
              rw [e1.out]
              replace R := R.below (b1.mono (Nat.le_refl _))
              replace B := B.trans (b1.mono B.size)
              clear b1 c0 c1 c2 c3 c4 c5
              have c0 := R.cell 0 rfl
              have c1 := R.cell 1 rfl
              have c2 := R.cell 2 rfl
              have c3 := R.cell 3 rfl
              have c4 := R.cell 4 rfl
              have c5 := R.cell 5 rfl
              go_wp2_with fail
              refine (Sp.i_InSpan 1 1000 l _).mono ?_
              rintro e w1 ⟨rfl, b1⟩
              rw [e2.out]
              replace R := R.below (b1.mono (Nat.le_refl _))
              replace B := B.trans (b1.mono B.size)
              clear b1 c0 c1 c2 c3 c4 c5
              have c0 := R.cell 0 rfl
              have c1 := R.cell 1 rfl
              have c2 := R.cell 2 rfl
              have c3 := R.cell 3 rfl
              have c4 := R.cell 4 rfl
              have c5 := R.cell 5 rfl
              go_wp2_with fail
              refine (Sp.i_InSpan l 1000 m _).mono ?_
              rintro e w1 ⟨rfl, b1⟩
              rw [e3.out]
              replace R := R.below (b1.mono (Nat.le_refl _))
              replace B := B.trans (b1.mono B.size)
              clear b1 c0 c1 c2 c3 c4 c5
              have c0 := R.cell 0 rfl
              have c1 := R.cell 1 rfl
              have c2 := R.cell 2 rfl
              have c3 := R.cell 3 rfl
              have c4 := R.cell 4 rfl
              have c5 := R.cell 5 rfl
              go_wp2_with fail
              refine (Sp.i_InSpan 1 100000 p _).mono ?_
              rintro e w1 ⟨rfl, b1⟩
              rw [e4.out]
              replace R := R.below (b1.mono (Nat.le_refl _))
              replace B := B.trans (b1.mono B.size)
              clear b1 c0 c1 c2 c3 c4 c5
              have c0 := R.cell 0 rfl
              have c1 := R.cell 1 rfl
              have c2 := R.cell 2 rfl
              have c3 := R.cell 3 rfl
              have c4 := R.cell 4 rfl
              have c5 := R.cell 5 rfl
              go_wp2_with fail
              refine (Sp.i_InSpan 0 (p - m - 1) a _).mono ?_
              rintro e w1 ⟨rfl, b1⟩
              rw [e5.out]
              replace R := R.below (b1.mono (Nat.le_refl _))
              replace B := B.trans (b1.mono B.size)
              clear b1 c0 c1 c2 c3 c4 c5
              go_wp2
              go_ret
              exact ⟨retb HV.out.symm, B⟩
            · have t1 : (n - 1).tdiv 2 = (n - 1) / 2 := Int.tdiv_eq_ediv_of_nonneg (by omega)
              have HV : Hid (RO n f p a l m = false) := decide_eq_false (by unfold RK; omega)
              have hw1 : IntKind.i64.wrap (n - 1) = n - 1 := by rw [IntKind.wrap_i64]; omega
              have hw2 : IntKind.i64.wrap ((n - 1).tdiv 2) = (n - 1).tdiv 2 := by rw [IntKind.wrap_i64]; omega
              have hw3 : IntKind.i64.wrap (p - m) = p - m := by rw [IntKind.wrap_i64]; omega
              have hw4 : IntKind.i64.wrap (p - m - 1) = p - m - 1 := by rw [IntKind.wrap_i64]; omega
              have e0 : Hid (IN 1 16 n = true) := in_yes (by unfold Tm; omega) (by unfold Tm; omega) h0
              have e1 : Hid (IN 0 ((n - 1).tdiv 2) f = true) := in_yes (by unfold Tm; omega) (by unfold Tm; omega) h1
              have e2 : Hid (IN 1 1000 l = true) := in_yes (by unfold Tm; omega) (by unfold Tm; omega) h2
              have e3 : Hid (IN l 1000 m = true) := in_yes (by unfold Tm; omega) (by unfold Tm; omega) h3
              have e4 : Hid (IN 1 100000 p = true) := in_yes (by unfold Tm; omega) (by unfold Tm; omega) h4
              have e5 : Hid (IN 0 (p - m - 1) a = false) := in_no h5
              clear t1
              clear h5
              go_enter Tryz.func12, Tryz.ntmps12
              have c0 := R.cell 0 rfl
              have c1 := R.cell 1 rfl
              have c2 := R.cell 2 rfl
              have c3 := R.cell 3 rfl
              have c4 := R.cell 4 rfl
              have c5 := R.cell 5 rfl
              go_wp2_with fail
              refine (Sp.i_InSpan 1 16 n _).mono ?_
              rintro e w1 ⟨rfl, b1⟩
              rw [e0.out]
              replace R := R.below (b1.mono (Nat.le_refl _))
              replace B := B.trans (b1.mono B.size)
              clear b1 c0 c1 c2 c3 c4 c5
              have c0 := R.cell 0 rfl
              have c1 := R.cell 1 rfl
              have c2 := R.cell 2 rfl
              have c3 := R.cell 3 rfl
              have c4 := R.cell 4 rfl
              have c5 := R.cell 5 rfl
              go_wp2_with fail
              refine (Sp.i_InSpan 0 ((n - 1).tdiv 2) f _).mono ?_
              rintro e w1 ⟨rfl, b1⟩
              rw [e1.out]
              replace R := R.below (b1.mono (Nat.le_refl _))
              replace B := B.trans (b1.mono B.size)
              clear b1 c0 c1 c2 c3 c4 c5
              have c0 := R.cell 0 rfl
              have c1 := R.cell 1 rfl
              have c2 := R.cell 2 rfl
              have c3 := R.cell 3 rfl
              have c4 := R.cell 4 rfl
              have c5 := R.cell 5 rfl
              go_wp2_with fail
              refine (Sp.i_InSpan 1 1000 l _).mono ?_
              rintro e w1 ⟨rfl, b1⟩
              rw [e2.out]
              replace R := R.below (b1.mono (Nat.le_refl _))
              replace B := B.trans (b1.mono B.size)
              clear b1 c0 c1 c2 c3 c4 c5
              have c0 := R.cell 0 rfl
              have c1 := R.cell 1 rfl
              have c2 := R.cell 2 rfl
              have c3 := R.cell 3 rfl
              have c4 := R.cell 4 rfl
              have c5 := R.cell 5 rfl
              go_wp2_with fail
              refine (Sp.i_InSpan l 1000 m _).mono ?_
              rintro e w1 ⟨rfl, b1⟩
              rw [e3.out]
              replace R := R.below (b1.mono (Nat.le_refl _))
              replace B := B.trans (b1.mono B.size)
              clear b1 c0 c1 c2 c3 c4 c5
              have c0 := R.cell 0 rfl
              have c1 := R.cell 1 rfl
              have c2 := R.cell 2 rfl
              have c3 := R.cell 3 rfl
              have c4 := R.cell 4 rfl
              have c5 := R.cell 5 rfl
              go_wp2_with fail
              refine (Sp.i_InSpan 1 100000 p _).mono ?_
              rintro e w1 ⟨rfl, b1⟩
              rw [e4.out]
              replace R := R.below (b1.mono (Nat.le_refl _))
              replace B := B.trans (b1.mono B.size)
              clear b1 c0 c1 c2 c3 c4 c5
              have c0 := R.cell 0 rfl
              have c1 := R.cell 1 rfl
              have c2 := R.cell 2 rfl
              have c3 := R.cell 3 rfl
              have c4 := R.cell 4 rfl
              have c5 := R.cell 5 rfl
              go_wp2_with fail
              refine (Sp.i_InSpan 0 (p - m - 1) a _).mono ?_
              rintro e w1 ⟨rfl, b1⟩
              rw [e5.out]
              replace R := R.below (b1.mono (Nat.le_refl _))
              replace B := B.trans (b1.mono B.size)
              clear b1 c0 c1 c2 c3 c4 c5
              go_wp2
              go_ret
              exact ⟨retb HV.out.symm, B⟩
          · have t1 : (n - 1).tdiv 2 = (n - 1) / 2 := Int.tdiv_eq_ediv_of_nonneg (by omega)
            have HV : Hid (RO n f p a l m = false) := decide_eq_false (by unfold RK; omega)
            have hw1 : IntKind.i64.wrap (n - 1) = n - 1 := by rw [IntKind.wrap_i64]; omega
            have hw2 : IntKind.i64.wrap ((n - 1).tdiv 2) = (n - 1).tdiv 2 := by rw [IntKind.wrap_i64]; omega
            have e0 : Hid (IN 1 16 n = true) := in_yes (by unfold Tm; omega) (by unfold Tm; omega) h0
            have e1 : Hid (IN 0 ((n - 1).tdiv 2) f = true) := in_yes (by unfold Tm; omega) (by unfold Tm; omega) h1
            have e2 : Hid (IN 1 1000 l = true) := in_yes (by unfold Tm; omega) (by unfold Tm; omega) h2
            have e3 : Hid (IN l 1000 m = true) := in_yes (by unfold Tm; omega) (by unfold Tm; omega) h3
            have e4 : Hid (IN 1 100000 p = false) := in_no h4
            clear t1
            clear h4
            go_enter Tryz.func12, Tryz.ntmps12
            have c0 := R.cell 0 rfl
            have c1 := R.cell 1 rfl
            have c2 := R.cell 2 rfl
            have c3 := R.cell 3 rfl
            have c4 := R.cell 4 rfl
            have c5 := R.cell 5 rfl
            go_wp2_with fail
            refine (Sp.i_InSpan 1 16 n _).mono ?_
            rintro e w1 ⟨rfl, b1⟩
            rw [e0.out]
            replace R := R.below (b1.mono (Nat.le_refl _))
            replace B := B.trans (b1.mono B.size)
            clear b1 c0 c1 c2 c3 c4 c5
            have c0 := R.cell 0 rfl
            have c1 := R.cell 1 rfl
            have c2 := R.cell 2 rfl
            have c3 := R.cell 3 rfl
            have c4 := R.cell 4 rfl
            have c5 := R.cell 5 rfl
            go_wp2_with fail
            refine (Sp.i_InSpan 0 ((n - 1).tdiv 2) f _).mono ?_
            rintro e w1 ⟨rfl, b1⟩
            rw [e1.out]
            replace R := R.below (b1.mono (Nat.le_refl _))
            replace B := B.trans (b1.mono B.size)
            clear b1 c0 c1 c2 c3 c4 c5
            have c0 := R.cell 0 rfl
            have c1 := R.cell 1 rfl
            have c2 := R.cell 2 rfl
            have c3 := R.cell 3 rfl
            have c4 := R.cell 4 rfl
            have c5 := R.cell 5 rfl
            go_wp2_with fail
            refine (Sp.i_InSpan 1 1000 l _).mono ?_
            rintro e w1 ⟨rfl, b1⟩
            rw [e2.out]
            replace R := R.below (b1.mono (Nat.le_refl _))
            replace B := B.trans (b1.mono B.size)
            clear b1 c0 c1 c2 c3 c4 c5
            have c0 := R.cell 0 rfl
            have c1 := R.cell 1 rfl
            have c2 := R.cell 2 rfl
            have c3 := R.cell 3 rfl
            have c4 := R.cell 4 rfl
            have c5 := R.cell 5 rfl
            go_wp2_with fail
            refine (Sp.i_InSpan l 1000 m _).mono ?_
            rintro e w1 ⟨rfl, b1⟩
            rw [e3.out]
            replace R := R.below (b1.mono (Nat.le_refl _))
            replace B := B.trans (b1.mono B.size)
            clear b1 c0 c1 c2 c3 c4 c5
            have c0 := R.cell 0 rfl
            have c1 := R.cell 1 rfl
            have c2 := R.cell 2 rfl
            have c3 := R.cell 3 rfl
            have c4 := R.cell 4 rfl
            have c5 := R.cell 5 rfl
            go_wp2_with fail
            refine (Sp.i_InSpan 1 100000 p _).mono ?_
            rintro e w1 ⟨rfl, b1⟩
            rw [e4.out]
            replace R := R.below (b1.mono (Nat.le_refl _))
            replace B := B.trans (b1.mono B.size)
            clear b1 c0 c1 c2 c3 c4 c5
            go_wp2
            go_ret
            exact ⟨retb HV.out.symm, B⟩
        · have t1 : (n - 1).tdiv 2 = (n - 1) / 2 := Int.tdiv_eq_ediv_of_nonneg (by omega)
          have HV : Hid (RO n f p a l m = false) := decide_eq_false (by unfold RK; omega)
          have hw1 : IntKind.i64.wrap (n - 1) = n - 1 := by rw [IntKind.wrap_i64]; omega
          have hw2 : IntKind.i64.wrap ((n - 1).tdiv 2) = (n - 1).tdiv 2 := by rw [IntKind.wrap_i64]; omega
          have e0 : Hid (IN 1 16 n = true) := in_yes (by unfold Tm; omega) (by unfold Tm; omega) h0
          have e1 : Hid (IN 0 ((n - 1).tdiv 2) f = true) := in_yes (by unfold Tm; omega) (by unfold Tm; omega) h1
          have e2 : Hid (IN 1 1000 l = true) := in_yes (by unfold Tm; omega) (by unfold Tm; omega) h2
          have e3 : Hid (IN l 1000 m = false) := in_no h3
          clear t1
          clear h3
          go_enter Tryz.func12, Tryz.ntmps12
          have c0 := R.cell 0 rfl
          have c1 := R.cell 1 rfl
          have c2 := R.cell 2 rfl
          have c3 := R.cell 3 rfl
          have c4 := R.cell 4 rfl
          have c5 := R.cell 5 rfl
          go_wp2_with fail
          refine (Sp.i_InSpan 1 16 n _).mono ?_
          rintro e w1 ⟨rfl, b1⟩
          rw [e0.out]
          replace R := R.below (b1.mono (Nat.le_refl _))
          replace B := B.trans (b1.mono B.size)
          clear b1 c0 c1 c2 c3 c4 c5
          have c0 := R.cell 0 rfl
          have c1 := R.cell 1 rfl
          have c2 := R.cell 2 rfl
          have c3 := R.cell 3 rfl
          have c4 := R.cell 4 rfl
          have c5 := R.cell 5 rfl
          go_wp2_with fail
          refine (Sp.i_InSpan 0 ((n - 1).tdiv 2) f _).mono ?_
          rintro e w1 ⟨rfl, b1⟩
          rw [e1.out]
          replace R := R.below (b1.mono (Nat.le_refl _))
          replace B := B.trans (b1.mono B.size)
          clear b1 c0 c1 c2 c3 c4 c5
          have c0 := R.cell 0 rfl
          have c1 := R.cell 1 rfl
          have c2 := R.cell 2 rfl
          have c3 := R.cell 3 rfl
          have c4 := R.cell 4 rfl
          have c5 := R.cell 5 rfl
          go_wp2_with fail
          refine (Sp.i_InSpan 1 1000 l _).mono ?_
          rintro e w1 ⟨rfl, b1⟩
          rw [e2.out]
          replace R := R.below (b1.mono (Nat.le_refl _))
          replace B := B.trans (b1.mono B.size)
          clear b1 c0 c1 c2 c3 c4 c5
          have c0 := R.cell 0 rfl
          have c1 := R.cell 1 rfl
          have c2 := R.cell 2 rfl
          have c3 := R.cell 3 rfl
          have c4 := R.cell 4 rfl
          have c5 := R.cell 5 rfl
          go_wp2_with fail
          refine (Sp.i_InSpan l 1000 m _).mono ?_
          rintro e w1 ⟨rfl, b1⟩
          rw [e3.out]
          replace R := R.below (b1.mono (Nat.le_refl _))
          replace B := B.trans (b1.mono B.size)
          clear b1 c0 c1 c2 c3 c4 c5
          go_wp2
          go_ret
          exact ⟨retb HV.out.symm, B⟩
      · have t1 : (n - 1).tdiv 2 = (n - 1) / 2 := Int.tdiv_eq_ediv_of_nonneg (by omega)
        have HV : Hid (RO n f p a l m = false) := decide_eq_false (by unfold RK; omega)
        have hw1 : IntKind.i64.wrap (n - 1) = n - 1 := by rw [IntKind.wrap_i64]; omega
        have hw2 : IntKind.i64.wrap ((n - 1).tdiv 2) = (n - 1).tdiv 2 := by rw [IntKind.wrap_i64]; omega
        have e0 : Hid (IN 1 16 n = true) := in_yes (by unfold Tm; omega) (by unfold Tm; omega) h0
        have e1 : Hid (IN 0 ((n - 1).tdiv 2) f = true) := in_yes (by unfold Tm; omega) (by unfold Tm; omega) h1
        have e2 : Hid (IN 1 1000 l = false) := in_no h2
        clear t1
        clear h2
        go_enter Tryz.func12, Tryz.ntmps12
        have c0 := R.cell 0 rfl
        have c1 := R.cell 1 rfl
        have c2 := R.cell 2 rfl
        have c3 := R.cell 3 rfl
        have c4 := R.cell 4 rfl
        have c5 := R.cell 5 rfl
        go_wp2_with fail
        refine (Sp.i_InSpan 1 16 n _).mono ?_
        rintro e w1 ⟨rfl, b1⟩
        rw [e0.out]
        replace R := R.below (b1.mono (Nat.le_refl _))
        replace B := B.trans (b1.mono B.size)
        clear b1 c0 c1 c2 c3 c4 c5
        have c0 := R.cell 0 rfl
        have c1 := R.cell 1 rfl
        have c2 := R.cell 2 rfl
        have c3 := R.cell 3 rfl
        have c4 := R.cell 4 rfl
        have c5 := R.cell 5 rfl
        go_wp2_with fail
        refine (Sp.i_InSpan 0 ((n - 1).tdiv 2) f _).mono ?_
        rintro e w1 ⟨rfl, b1⟩
        rw [e1.out]
        replace R := R.below (b1.mono (Nat.le_refl _))
        replace B := B.trans (b1.mono B.size)
        clear b1 c0 c1 c2 c3 c4 c5
        have c0 := R.cell 0 rfl
        have c1 := R.cell 1 rfl
        have c2 := R.cell 2 rfl
        have c3 := R.cell 3 rfl
        have c4 := R.cell 4 rfl
        have c5 := R.cell 5 rfl
        go_wp2_with fail
        refine (Sp.i_InSpan 1 1000 l _).mono ?_
        rintro e w1 ⟨rfl, b1⟩
        rw [e2.out]
        replace R := R.below (b1.mono (Nat.le_refl _))
        replace B := B.trans (b1.mono B.size)
        clear b1 c0 c1 c2 c3 c4 c5
        go_wp2
        go_ret
        exact ⟨retb HV.out.symm, B⟩
    · have t1 : (n - 1).tdiv 2 = (n - 1) / 2 := Int.tdiv_eq_ediv_of_nonneg (by omega)
      have HV : Hid (RO n f p a l m = false) := decide_eq_false (by unfold RK; omega)
      have hw1 : IntKind.i64.wrap (n - 1) = n - 1 := by rw [IntKind.wrap_i64]; omega
      have hw2 : IntKind.i64.wrap ((n - 1).tdiv 2) = (n - 1).tdiv 2 := by rw [IntKind.wrap_i64]; omega
      have e0 : Hid (IN 1 16 n = true) := in_yes (by unfold Tm; omega) (by unfold Tm; omega) h0
      have e1 : Hid (IN 0 ((n - 1).tdiv 2) f = false) := in_no h1
      clear t1
      clear h1
      go_enter Tryz.func12, Tryz.ntmps12
      have c0 := R.cell 0 rfl
      have c1 := R.cell 1 rfl
      have c2 := R.cell 2 rfl
      have c3 := R.cell 3 rfl
      have c4 := R.cell 4 rfl
      have c5 := R.cell 5 rfl
      go_wp2_with fail
      refine (Sp.i_InSpan 1 16 n _).mono ?_
      rintro e w1 ⟨rfl, b1⟩
      rw [e0.out]
      replace R := R.below (b1.mono (Nat.le_refl _))
      replace B := B.trans (b1.mono B.size)
      clear b1 c0 c1 c2 c3 c4 c5
      have c0 := R.cell 0 rfl
      have c1 := R.cell 1 rfl
      have c2 := R.cell 2 rfl
      have c3 := R.cell 3 rfl
      have c4 := R.cell 4 rfl
      have c5 := R.cell 5 rfl
      go_wp2_with fail
      refine (Sp.i_InSpan 0 ((n - 1).tdiv 2) f _).mono ?_
      rintro e w1 ⟨rfl, b1⟩
      rw [e1.out]
      replace R := R.below (b1.mono (Nat.le_refl _))
      replace B := B.trans (b1.mono B.size)
      clear b1 c0 c1 c2 c3 c4 c5
      go_wp2
      go_ret
      exact ⟨retb HV.out.symm, B⟩
  · have HV : Hid (RO n f p a l m = false) := decide_eq_false (by unfold RK; omega)
    have e0 : Hid (IN 1 16 n = false) := in_no h0
    clear h0
    go_enter Tryz.func12, Tryz.ntmps12
    have c0 := R.cell 0 rfl
    have c1 := R.cell 1 rfl
    have c2 := R.cell 2 rfl
    have c3 := R.cell 3 rfl
    have c4 := R.cell 4 rfl
    have c5 := R.cell 5 rfl
    go_wp2_with fail
    refine (Sp.i_InSpan 1 16 n _).mono ?_
    rintro e w1 ⟨rfl, b1⟩
    rw [e0.out]
    replace R := R.below (b1.mono (Nat.le_refl _))
    replace B := B.trans (b1.mono B.size)
    clear b1 c0 c1 c2 c3 c4 c5
    go_wp2
    go_ret
    exact ⟨retb HV.out.symm, B⟩

end Go.Proofs.YtimakfokgcnklaaGreat.Cd
