/-
  The Go functions impl.MulDiv and spec.MulDiv, at every three int64s: one answer for both.
-/
import Derived.Test.YtcdmabjebohlgabMul
namespace Go.Proofs.Ytcdmabjebohlgab.Mu
open Go.ChangeShapes Go.WideShapes Go.ChangeAt Go.RowKit
open Go.Proofs.Ytcdmabjebohlgab.Md
set_option linter.unusedVariables false

/-- The arguments are as the document wants them. -/
abbrev Rng (a b c : Int) : Prop := ((-4000000000000000000 ≤ a ∧ a ≤ 4000000000000000000) ∧ (-4000000000000000000 ≤ b ∧ b ≤ 4000000000000000000)) ∧ 1 ≤ c ∧ c ≤ 4000000000000000000
/-- And the answer is a time. -/
abbrev Ok (a b c : Int) : Prop := Rng a b c ∧ -4000000000000000000 ≤ a * b / c ∧ a * b / c ≤ 4000000000000000000
def V (a b c : Int) : Int := if Ok a b c then a * b / c else 0
def T (a b c : Int) : Bool := decide (Ok a b c)

theorem vt_yes {a b c v : Int} (r : Rng a b c) (h : a * b / c = v) (h0 : -4000000000000000000 ≤ v) (h1 : v ≤ 4000000000000000000) : V a b c = v ∧ T a b c = true := by
  have k : Ok a b c := ⟨r, by rw [h]; exact ⟨h0, h1⟩⟩
  exact ⟨by rw [V, if_pos k, h], by rw [T]; exact decide_eq_true k⟩
theorem vt_no {a b c : Int} (h : ¬ Ok a b c) : V a b c = 0 ∧ T a b c = false :=
  ⟨by rw [V, if_neg h], by rw [T]; exact decide_eq_false h⟩

theorem neg_div (N c : Int) (hc : 1 ≤ c) : (N % c = 0 → (-N) / c = -(N / c)) ∧ (0 < N % c → (-N) / c = -(N / c) - 1) := by
  have p := Md.part N c
  have m := Int.emod_lt_of_pos N (b := c) (by omega)
  refine ⟨fun h => ?_, fun h => ?_⟩
  · exact ((Int.ediv_emod_unique (a := -N) (b := c) (r := 0) (q := -(N / c)) (by omega)).2 ⟨by rw [Int.mul_neg, Int.mul_comm]; omega, by omega, by omega⟩).1
  · exact ((Int.ediv_emod_unique (a := -N) (b := c) (r := c - N % c) (q := -(N / c) - 1) (by omega)).2 ⟨by rw [Int.mul_sub, Int.mul_neg, Int.mul_comm c (N / c), Int.mul_one]; omega, by omega, by omega⟩).1

theorem i_out1 (a b c : Int) (h1 : ¬ (-4000000000000000000 : Int) ≤ a) (w : World) :
    Calls Try.prog 9 #[.int .i64 a, .int .i64 b, .int .i64 c] w fun e w' => e = .returned (.tuple #[.int .i64 0, .bool false]) ∧ ∃ n, w' = w.drewN n := by
  go_enter Try.func9, Try.ntmps9
  go_wp2
  go_ret2
  exact ⟨rfl, 0, rfl⟩

theorem i_out2 (a b c : Int) (h1 : (-4000000000000000000 : Int) ≤ a) (h2 : ¬ a ≤ 4000000000000000000) (w : World) :
    Calls Try.prog 9 #[.int .i64 a, .int .i64 b, .int .i64 c] w fun e w' => e = .returned (.tuple #[.int .i64 0, .bool false]) ∧ ∃ n, w' = w.drewN n := by
  go_enter Try.func9, Try.ntmps9
  go_wp2
  go_ret2
  exact ⟨rfl, 0, rfl⟩

theorem i_out3 (a b c : Int) (h1 : (-4000000000000000000 : Int) ≤ a) (h2 : a ≤ 4000000000000000000) (h3 : ¬ (-4000000000000000000 : Int) ≤ b) (w : World) :
    Calls Try.prog 9 #[.int .i64 a, .int .i64 b, .int .i64 c] w fun e w' => e = .returned (.tuple #[.int .i64 0, .bool false]) ∧ ∃ n, w' = w.drewN n := by
  go_enter Try.func9, Try.ntmps9
  go_wp2
  go_ret2
  exact ⟨rfl, 0, rfl⟩

theorem i_out4 (a b c : Int) (h1 : (-4000000000000000000 : Int) ≤ a) (h2 : a ≤ 4000000000000000000) (h3 : (-4000000000000000000 : Int) ≤ b) (h4 : ¬ b ≤ 4000000000000000000) (w : World) :
    Calls Try.prog 9 #[.int .i64 a, .int .i64 b, .int .i64 c] w fun e w' => e = .returned (.tuple #[.int .i64 0, .bool false]) ∧ ∃ n, w' = w.drewN n := by
  go_enter Try.func9, Try.ntmps9
  go_wp2
  go_ret2
  exact ⟨rfl, 0, rfl⟩

theorem i_out5 (a b c : Int) (h1 : (-4000000000000000000 : Int) ≤ a) (h2 : a ≤ 4000000000000000000) (h3 : (-4000000000000000000 : Int) ≤ b) (h4 : b ≤ 4000000000000000000) (h5 : c < 1) (k5 : ¬ 1 ≤ c) (w : World) :
    Calls Try.prog 9 #[.int .i64 a, .int .i64 b, .int .i64 c] w fun e w' => e = .returned (.tuple #[.int .i64 0, .bool false]) ∧ ∃ n, w' = w.drewN n := by
  go_enter Try.func9, Try.ntmps9
  go_wp2
  go_ret2
  exact ⟨rfl, 0, rfl⟩

theorem i_out6 (a b c : Int) (h1 : (-4000000000000000000 : Int) ≤ a) (h2 : a ≤ 4000000000000000000) (h3 : (-4000000000000000000 : Int) ≤ b) (h4 : b ≤ 4000000000000000000) (h5 : 1 ≤ c) (h6 : 4000000000000000000 < c) (k6 : ¬ c ≤ 4000000000000000000) (w : World) :
    Calls Try.prog 9 #[.int .i64 a, .int .i64 b, .int .i64 c] w fun e w' => e = .returned (.tuple #[.int .i64 0, .bool false]) ∧ ∃ n, w' = w.drewN n := by
  go_enter Try.func9, Try.ntmps9
  go_wp2
  go_ret2
  exact ⟨rfl, 0, rfl⟩

set_option maxHeartbeats 1000000 in
theorem i_any (a b c : Int) (w : World) :
    Calls Try.prog 9 #[.int .i64 a, .int .i64 b, .int .i64 c] w fun e w' => e = .returned (.tuple #[.int .i64 (V a b c), .bool (T a b c)]) ∧ ∃ n, w' = w.drewN n := by
  by_cases r : Rng a b c
  · have ⟨⟨⟨h1, h2⟩, h3, h4⟩, h5, h6⟩ := r
    by_cases sa : a < 0
    · obtain ⟨A, rfl⟩ : ∃ A, a = -A := ⟨-a, by omega⟩
      by_cases sb : b < 0
      · obtain ⟨B, rfl⟩ : ∃ B, b = -B := ⟨-b, by omega⟩
        have e : -A * -B / c = A * B / c := by rw [Int.neg_mul_neg]
        have q0 : 0 ≤ A * B / c := Int.ediv_nonneg (Int.mul_nonneg (by omega) (by omega)) (by omega)
        by_cases hq : A * B / c ≤ 4000000000000000000
        · obtain ⟨hv, ht⟩ := vt_yes r e (by omega) hq
          rw [hv, ht]
          exact i_nn_near A B c _ _ (by omega) (by omega) (by omega) (by omega) h5 h6 (by omega) (by omega) (by omega) (by omega) (by simp; omega) (by omega) (by omega) (by omega) (by omega) (by simp; omega) rfl rfl q0 hq (Int.emod_nonneg _ (by omega)) (by omega) w
        · obtain ⟨hv, ht⟩ := vt_no (a := -A) (b := -B) (c := c) (fun k => by have := k.2.2; rw [e] at this; omega)
          rw [hv, ht]
          exact i_nn_far A B c _ (by omega) (by omega) (by omega) (by omega) h5 h6 (by omega) (by omega) (by omega) (by omega) (by simp; omega) (by omega) (by omega) (by omega) (by omega) (by simp; omega) rfl (by omega) w
      · by_cases sz : b = 0
        · subst sz
          obtain ⟨hv, ht⟩ := vt_yes r (v := 0) (by rw [Int.mul_zero]; exact Int.zero_ediv c) (by omega) (by omega)
          rw [hv, ht]
          exact i_nz A c (by omega) (by omega) h5 h6 (by omega) (by omega) (by omega) (by omega) (by simp; omega) w
        · obtain ⟨B, hB⟩ : ∃ B, B = b := ⟨b, rfl⟩
          subst hB
          have q0 : 0 ≤ A * B / c := Int.ediv_nonneg (Int.mul_nonneg (by omega) (by omega)) (by omega)
          have r0 : 0 ≤ A * B % c := Int.emod_nonneg _ (by omega)
          obtain ⟨d1, d2⟩ := neg_div (A * B) c h5
          by_cases hr : A * B % c = 0
          · have e : -A * B / c = -(A * B / c) := by rw [Int.neg_mul]; exact d1 hr
            by_cases hq : A * B / c ≤ 4000000000000000000
            · obtain ⟨hv, ht⟩ := vt_yes r e (by omega) (by omega)
              rw [hv, ht]
              exact i_np_even A B c _ _ (by omega) (by omega) (by omega) (by omega) h5 h6 (by omega) (by omega) (by omega) (by omega) (by simp; omega) (by omega) (by simp; omega) (by omega) (by omega) (by simp; omega) rfl rfl q0 hq r0 (by simp [hr]) (by omega) (by omega) (by omega) w
            · obtain ⟨hv, ht⟩ := vt_no (a := -A) (b := B) (c := c) (fun k => by have := k.2; rw [e] at this; omega)
              rw [hv, ht]
              exact i_np_far A B c _ (by omega) (by omega) (by omega) (by omega) h5 h6 (by omega) (by omega) (by omega) (by omega) (by simp; omega) (by omega) (by simp; omega) (by omega) (by omega) (by simp; omega) rfl (by omega) w
          · have e : -A * B / c = -(A * B / c) - 1 := by rw [Int.neg_mul]; exact d2 (by omega)
            by_cases hq : A * B / c < 4000000000000000000
            · obtain ⟨hv, ht⟩ := vt_yes r e (by omega) (by omega)
              rw [hv, ht]
              exact i_np_odd A B c _ _ (by omega) (by omega) (by omega) (by omega) h5 h6 (by omega) (by omega) (by omega) (by omega) (by simp; omega) (by omega) (by simp; omega) (by omega) (by omega) (by simp; omega) rfl rfl q0 hq r0 (by simp [hr]) (by omega) (by omega) (by omega) (by omega) w
            · obtain ⟨hv, ht⟩ := vt_no (a := -A) (b := B) (c := c) (fun k => by have := k.2; rw [e] at this; omega)
              rw [hv, ht]
              by_cases he : A * B / c = 4000000000000000000
              · exact i_np_edge A B c _ _ (by omega) (by omega) (by omega) (by omega) h5 h6 (by omega) (by omega) (by omega) (by omega) (by simp; omega) (by omega) (by simp; omega) (by omega) (by omega) (by simp; omega) rfl rfl he r0 (by simp [hr]) (by omega) w
              · exact i_np_far A B c _ (by omega) (by omega) (by omega) (by omega) h5 h6 (by omega) (by omega) (by omega) (by omega) (by simp; omega) (by omega) (by simp; omega) (by omega) (by omega) (by simp; omega) rfl (by omega) w
    · by_cases sb : b < 0
      · obtain ⟨B, rfl⟩ : ∃ B, b = -B := ⟨-b, by omega⟩
        by_cases sz : a = 0
        · subst sz
          obtain ⟨hv, ht⟩ := vt_yes r (v := 0) (by rw [Int.zero_mul]; exact Int.zero_ediv c) (by omega) (by omega)
          rw [hv, ht]
          exact i_zn B c (by omega) (by omega) h5 h6 (by omega) (by omega) (by omega) (by omega) (by simp; omega) w
        · obtain ⟨A, hA⟩ : ∃ A, A = a := ⟨a, rfl⟩
          subst hA
          have q0 : 0 ≤ A * B / c := Int.ediv_nonneg (Int.mul_nonneg (by omega) (by omega)) (by omega)
          have r0 : 0 ≤ A * B % c := Int.emod_nonneg _ (by omega)
          obtain ⟨d1, d2⟩ := neg_div (A * B) c h5
          by_cases hr : A * B % c = 0
          · have e : A * -B / c = -(A * B / c) := by rw [Int.mul_neg]; exact d1 hr
            by_cases hq : A * B / c ≤ 4000000000000000000
            · obtain ⟨hv, ht⟩ := vt_yes r e (by omega) (by omega)
              rw [hv, ht]
              exact i_pn_even A B c _ _ (by omega) (by omega) (by omega) (by omega) h5 h6 (by omega) (by simp; omega) (by omega) (by omega) (by simp; omega) (by omega) (by omega) (by omega) (by omega) (by simp; omega) rfl rfl q0 hq r0 (by simp [hr]) (by omega) (by omega) (by omega) w
            · obtain ⟨hv, ht⟩ := vt_no (a := A) (b := -B) (c := c) (fun k => by have := k.2; rw [e] at this; omega)
              rw [hv, ht]
              exact i_pn_far A B c _ (by omega) (by omega) (by omega) (by omega) h5 h6 (by omega) (by simp; omega) (by omega) (by omega) (by simp; omega) (by omega) (by omega) (by omega) (by omega) (by simp; omega) rfl (by omega) w
          · have e : A * -B / c = -(A * B / c) - 1 := by rw [Int.mul_neg]; exact d2 (by omega)
            by_cases hq : A * B / c < 4000000000000000000
            · obtain ⟨hv, ht⟩ := vt_yes r e (by omega) (by omega)
              rw [hv, ht]
              exact i_pn_odd A B c _ _ (by omega) (by omega) (by omega) (by omega) h5 h6 (by omega) (by simp; omega) (by omega) (by omega) (by simp; omega) (by omega) (by omega) (by omega) (by omega) (by simp; omega) rfl rfl q0 hq r0 (by simp [hr]) (by omega) (by omega) (by omega) (by omega) w
            · obtain ⟨hv, ht⟩ := vt_no (a := A) (b := -B) (c := c) (fun k => by have := k.2; rw [e] at this; omega)
              rw [hv, ht]
              by_cases he : A * B / c = 4000000000000000000
              · exact i_pn_edge A B c _ _ (by omega) (by omega) (by omega) (by omega) h5 h6 (by omega) (by simp; omega) (by omega) (by omega) (by simp; omega) (by omega) (by omega) (by omega) (by omega) (by simp; omega) rfl rfl he r0 (by simp [hr]) (by omega) w
              · exact i_pn_far A B c _ (by omega) (by omega) (by omega) (by omega) h5 h6 (by omega) (by simp; omega) (by omega) (by omega) (by simp; omega) (by omega) (by omega) (by omega) (by omega) (by simp; omega) rfl (by omega) w
      · obtain ⟨A, hA⟩ : ∃ A, A = a := ⟨a, rfl⟩
        subst hA
        obtain ⟨B, hB⟩ : ∃ B, B = b := ⟨b, rfl⟩
        subst hB
        have e : A * B / c = A * B / c := by rfl
        have q0 : 0 ≤ A * B / c := Int.ediv_nonneg (Int.mul_nonneg (by omega) (by omega)) (by omega)
        by_cases hq : A * B / c ≤ 4000000000000000000
        · obtain ⟨hv, ht⟩ := vt_yes r e (by omega) hq
          rw [hv, ht]
          exact i_pp_near A B c _ _ (by omega) (by omega) (by omega) (by omega) h5 h6 (by omega) (by simp; omega) (by omega) (by omega) (by simp; omega) (by omega) rfl rfl q0 hq (Int.emod_nonneg _ (by omega)) (by omega) w
        · obtain ⟨hv, ht⟩ := vt_no (a := A) (b := B) (c := c) (fun k => by have := k.2.2; rw [e] at this; omega)
          rw [hv, ht]
          exact i_pp_far A B c _ (by omega) (by omega) (by omega) (by omega) h5 h6 (by omega) (by simp; omega) (by omega) (by omega) (by simp; omega) (by omega) rfl (by omega) w
  · obtain ⟨hv, ht⟩ := vt_no (a := a) (b := b) (c := c) (fun k => r k.1)
    rw [hv, ht]
    by_cases h1 : (-4000000000000000000 : Int) ≤ a
    · by_cases h2 : a ≤ 4000000000000000000
      · by_cases h3 : (-4000000000000000000 : Int) ≤ b
        · by_cases h4 : b ≤ 4000000000000000000
          · by_cases h5 : c < 1
            · exact i_out5 a b c h1 h2 h3 h4 h5 (by omega) w
            · by_cases h6 : 4000000000000000000 < c
              · exact i_out6 a b c h1 h2 h3 h4 (by omega) h6 (by omega) w
              · exact absurd ⟨⟨⟨h1, h2⟩, h3, h4⟩, by omega, by omega⟩ r
          · exact i_out4 a b c h1 h2 h3 h4 w
        · exact i_out3 a b c h1 h2 h3 w
      · exact i_out2 a b c h1 h2 w
    · exact i_out1 a b c h1 w

theorem s_out1 (a b c : Int) (h1 : ¬ (-4000000000000000000 : Int) ≤ a) (w : World) :
    Calls Try.prog 11 #[.int .i64 a, .int .i64 b, .int .i64 c] w fun e w' => e = .returned (.tuple #[.int .i64 0, .bool false]) ∧ w' = w := by
  go_enter Try.func11, Try.ntmps11
  go_wp2
  go_ret2
  exact ⟨rfl, rfl⟩

theorem s_out2 (a b c : Int) (h1 : (-4000000000000000000 : Int) ≤ a) (h2 : ¬ a ≤ 4000000000000000000) (w : World) :
    Calls Try.prog 11 #[.int .i64 a, .int .i64 b, .int .i64 c] w fun e w' => e = .returned (.tuple #[.int .i64 0, .bool false]) ∧ w' = w := by
  go_enter Try.func11, Try.ntmps11
  go_wp2
  go_ret2
  exact ⟨rfl, rfl⟩

theorem s_out3 (a b c : Int) (h1 : (-4000000000000000000 : Int) ≤ a) (h2 : a ≤ 4000000000000000000) (h3 : ¬ (-4000000000000000000 : Int) ≤ b) (w : World) :
    Calls Try.prog 11 #[.int .i64 a, .int .i64 b, .int .i64 c] w fun e w' => e = .returned (.tuple #[.int .i64 0, .bool false]) ∧ w' = w := by
  go_enter Try.func11, Try.ntmps11
  go_wp2
  go_ret2
  exact ⟨rfl, rfl⟩

theorem s_out4 (a b c : Int) (h1 : (-4000000000000000000 : Int) ≤ a) (h2 : a ≤ 4000000000000000000) (h3 : (-4000000000000000000 : Int) ≤ b) (h4 : ¬ b ≤ 4000000000000000000) (w : World) :
    Calls Try.prog 11 #[.int .i64 a, .int .i64 b, .int .i64 c] w fun e w' => e = .returned (.tuple #[.int .i64 0, .bool false]) ∧ w' = w := by
  go_enter Try.func11, Try.ntmps11
  go_wp2
  go_ret2
  exact ⟨rfl, rfl⟩

theorem s_out5 (a b c : Int) (h1 : (-4000000000000000000 : Int) ≤ a) (h2 : a ≤ 4000000000000000000) (h3 : (-4000000000000000000 : Int) ≤ b) (h4 : b ≤ 4000000000000000000) (h5 : c < 1) (k5 : ¬ 1 ≤ c) (w : World) :
    Calls Try.prog 11 #[.int .i64 a, .int .i64 b, .int .i64 c] w fun e w' => e = .returned (.tuple #[.int .i64 0, .bool false]) ∧ w' = w := by
  go_enter Try.func11, Try.ntmps11
  go_wp2
  go_ret2
  exact ⟨rfl, rfl⟩

theorem s_out6 (a b c : Int) (h1 : (-4000000000000000000 : Int) ≤ a) (h2 : a ≤ 4000000000000000000) (h3 : (-4000000000000000000 : Int) ≤ b) (h4 : b ≤ 4000000000000000000) (h5 : 1 ≤ c) (h6 : 4000000000000000000 < c) (k6 : ¬ c ≤ 4000000000000000000) (w : World) :
    Calls Try.prog 11 #[.int .i64 a, .int .i64 b, .int .i64 c] w fun e w' => e = .returned (.tuple #[.int .i64 0, .bool false]) ∧ w' = w := by
  go_enter Try.func11, Try.ntmps11
  go_wp2
  go_ret2
  exact ⟨rfl, rfl⟩

set_option maxHeartbeats 1000000 in
theorem s_any (a b c : Int) (w : World) :
    Calls Try.prog 11 #[.int .i64 a, .int .i64 b, .int .i64 c] w fun e w' => e = .returned (.tuple #[.int .i64 (V a b c), .bool (T a b c)]) ∧ w' = w := by
  by_cases r : Rng a b c
  · have ⟨⟨⟨h1, h2⟩, h3, h4⟩, h5, h6⟩ := r
    by_cases sa : a < 0
    · obtain ⟨A, rfl⟩ : ∃ A, a = -A := ⟨-a, by omega⟩
      by_cases sb : b < 0
      · obtain ⟨B, rfl⟩ : ∃ B, b = -B := ⟨-b, by omega⟩
        have e : -A * -B / c = A * B / c := by rw [Int.neg_mul_neg]
        have q0 : 0 ≤ A * B / c := Int.ediv_nonneg (Int.mul_nonneg (by omega) (by omega)) (by omega)
        by_cases hq : A * B / c ≤ 4000000000000000000
        · obtain ⟨hv, ht⟩ := vt_yes r e (by omega) hq
          rw [hv, ht]
          exact s_nn_near A B c _ _ (by omega) (by omega) (by omega) (by omega) h5 h6 (by omega) (by omega) (by omega) (by omega) (by simp; omega) (by omega) (by omega) (by omega) (by omega) (by simp; omega) rfl rfl q0 hq (Int.emod_nonneg _ (by omega)) (by omega) w
        · obtain ⟨hv, ht⟩ := vt_no (a := -A) (b := -B) (c := c) (fun k => by have := k.2.2; rw [e] at this; omega)
          rw [hv, ht]
          exact s_nn_far A B c _ (by omega) (by omega) (by omega) (by omega) h5 h6 (by omega) (by omega) (by omega) (by omega) (by simp; omega) (by omega) (by omega) (by omega) (by omega) (by simp; omega) rfl (by omega) w
      · by_cases sz : b = 0
        · subst sz
          obtain ⟨hv, ht⟩ := vt_yes r (v := 0) (by rw [Int.mul_zero]; exact Int.zero_ediv c) (by omega) (by omega)
          rw [hv, ht]
          exact s_nz A c (by omega) (by omega) h5 h6 (by omega) (by omega) (by omega) (by omega) (by simp; omega) w
        · obtain ⟨B, hB⟩ : ∃ B, B = b := ⟨b, rfl⟩
          subst hB
          have q0 : 0 ≤ A * B / c := Int.ediv_nonneg (Int.mul_nonneg (by omega) (by omega)) (by omega)
          have r0 : 0 ≤ A * B % c := Int.emod_nonneg _ (by omega)
          obtain ⟨d1, d2⟩ := neg_div (A * B) c h5
          by_cases hr : A * B % c = 0
          · have e : -A * B / c = -(A * B / c) := by rw [Int.neg_mul]; exact d1 hr
            by_cases hq : A * B / c ≤ 4000000000000000000
            · obtain ⟨hv, ht⟩ := vt_yes r e (by omega) (by omega)
              rw [hv, ht]
              exact s_np_even A B c _ _ (by omega) (by omega) (by omega) (by omega) h5 h6 (by omega) (by omega) (by omega) (by omega) (by simp; omega) (by omega) (by simp; omega) (by omega) (by omega) (by simp; omega) rfl rfl q0 hq r0 (by simp [hr]) (by omega) (by omega) (by omega) w
            · obtain ⟨hv, ht⟩ := vt_no (a := -A) (b := B) (c := c) (fun k => by have := k.2; rw [e] at this; omega)
              rw [hv, ht]
              exact s_np_far A B c _ (by omega) (by omega) (by omega) (by omega) h5 h6 (by omega) (by omega) (by omega) (by omega) (by simp; omega) (by omega) (by simp; omega) (by omega) (by omega) (by simp; omega) rfl (by omega) w
          · have e : -A * B / c = -(A * B / c) - 1 := by rw [Int.neg_mul]; exact d2 (by omega)
            by_cases hq : A * B / c < 4000000000000000000
            · obtain ⟨hv, ht⟩ := vt_yes r e (by omega) (by omega)
              rw [hv, ht]
              exact s_np_odd A B c _ _ (by omega) (by omega) (by omega) (by omega) h5 h6 (by omega) (by omega) (by omega) (by omega) (by simp; omega) (by omega) (by simp; omega) (by omega) (by omega) (by simp; omega) rfl rfl q0 hq r0 (by simp [hr]) (by omega) (by omega) (by omega) (by omega) w
            · obtain ⟨hv, ht⟩ := vt_no (a := -A) (b := B) (c := c) (fun k => by have := k.2; rw [e] at this; omega)
              rw [hv, ht]
              by_cases he : A * B / c = 4000000000000000000
              · exact s_np_edge A B c _ _ (by omega) (by omega) (by omega) (by omega) h5 h6 (by omega) (by omega) (by omega) (by omega) (by simp; omega) (by omega) (by simp; omega) (by omega) (by omega) (by simp; omega) rfl rfl he r0 (by simp [hr]) (by omega) w
              · exact s_np_far A B c _ (by omega) (by omega) (by omega) (by omega) h5 h6 (by omega) (by omega) (by omega) (by omega) (by simp; omega) (by omega) (by simp; omega) (by omega) (by omega) (by simp; omega) rfl (by omega) w
    · by_cases sb : b < 0
      · obtain ⟨B, rfl⟩ : ∃ B, b = -B := ⟨-b, by omega⟩
        by_cases sz : a = 0
        · subst sz
          obtain ⟨hv, ht⟩ := vt_yes r (v := 0) (by rw [Int.zero_mul]; exact Int.zero_ediv c) (by omega) (by omega)
          rw [hv, ht]
          exact s_zn B c (by omega) (by omega) h5 h6 (by omega) (by omega) (by omega) (by omega) (by simp; omega) w
        · obtain ⟨A, hA⟩ : ∃ A, A = a := ⟨a, rfl⟩
          subst hA
          have q0 : 0 ≤ A * B / c := Int.ediv_nonneg (Int.mul_nonneg (by omega) (by omega)) (by omega)
          have r0 : 0 ≤ A * B % c := Int.emod_nonneg _ (by omega)
          obtain ⟨d1, d2⟩ := neg_div (A * B) c h5
          by_cases hr : A * B % c = 0
          · have e : A * -B / c = -(A * B / c) := by rw [Int.mul_neg]; exact d1 hr
            by_cases hq : A * B / c ≤ 4000000000000000000
            · obtain ⟨hv, ht⟩ := vt_yes r e (by omega) (by omega)
              rw [hv, ht]
              exact s_pn_even A B c _ _ (by omega) (by omega) (by omega) (by omega) h5 h6 (by omega) (by simp; omega) (by omega) (by omega) (by simp; omega) (by omega) (by omega) (by omega) (by omega) (by simp; omega) rfl rfl q0 hq r0 (by simp [hr]) (by omega) (by omega) (by omega) w
            · obtain ⟨hv, ht⟩ := vt_no (a := A) (b := -B) (c := c) (fun k => by have := k.2; rw [e] at this; omega)
              rw [hv, ht]
              exact s_pn_far A B c _ (by omega) (by omega) (by omega) (by omega) h5 h6 (by omega) (by simp; omega) (by omega) (by omega) (by simp; omega) (by omega) (by omega) (by omega) (by omega) (by simp; omega) rfl (by omega) w
          · have e : A * -B / c = -(A * B / c) - 1 := by rw [Int.mul_neg]; exact d2 (by omega)
            by_cases hq : A * B / c < 4000000000000000000
            · obtain ⟨hv, ht⟩ := vt_yes r e (by omega) (by omega)
              rw [hv, ht]
              exact s_pn_odd A B c _ _ (by omega) (by omega) (by omega) (by omega) h5 h6 (by omega) (by simp; omega) (by omega) (by omega) (by simp; omega) (by omega) (by omega) (by omega) (by omega) (by simp; omega) rfl rfl q0 hq r0 (by simp [hr]) (by omega) (by omega) (by omega) (by omega) w
            · obtain ⟨hv, ht⟩ := vt_no (a := A) (b := -B) (c := c) (fun k => by have := k.2; rw [e] at this; omega)
              rw [hv, ht]
              by_cases he : A * B / c = 4000000000000000000
              · exact s_pn_edge A B c _ _ (by omega) (by omega) (by omega) (by omega) h5 h6 (by omega) (by simp; omega) (by omega) (by omega) (by simp; omega) (by omega) (by omega) (by omega) (by omega) (by simp; omega) rfl rfl he r0 (by simp [hr]) (by omega) w
              · exact s_pn_far A B c _ (by omega) (by omega) (by omega) (by omega) h5 h6 (by omega) (by simp; omega) (by omega) (by omega) (by simp; omega) (by omega) (by omega) (by omega) (by omega) (by simp; omega) rfl (by omega) w
      · obtain ⟨A, hA⟩ : ∃ A, A = a := ⟨a, rfl⟩
        subst hA
        obtain ⟨B, hB⟩ : ∃ B, B = b := ⟨b, rfl⟩
        subst hB
        have e : A * B / c = A * B / c := by rfl
        have q0 : 0 ≤ A * B / c := Int.ediv_nonneg (Int.mul_nonneg (by omega) (by omega)) (by omega)
        by_cases hq : A * B / c ≤ 4000000000000000000
        · obtain ⟨hv, ht⟩ := vt_yes r e (by omega) hq
          rw [hv, ht]
          exact s_pp_near A B c _ _ (by omega) (by omega) (by omega) (by omega) h5 h6 (by omega) (by simp; omega) (by omega) (by omega) (by simp; omega) (by omega) rfl rfl q0 hq (Int.emod_nonneg _ (by omega)) (by omega) w
        · obtain ⟨hv, ht⟩ := vt_no (a := A) (b := B) (c := c) (fun k => by have := k.2.2; rw [e] at this; omega)
          rw [hv, ht]
          exact s_pp_far A B c _ (by omega) (by omega) (by omega) (by omega) h5 h6 (by omega) (by simp; omega) (by omega) (by omega) (by simp; omega) (by omega) rfl (by omega) w
  · obtain ⟨hv, ht⟩ := vt_no (a := a) (b := b) (c := c) (fun k => r k.1)
    rw [hv, ht]
    by_cases h1 : (-4000000000000000000 : Int) ≤ a
    · by_cases h2 : a ≤ 4000000000000000000
      · by_cases h3 : (-4000000000000000000 : Int) ≤ b
        · by_cases h4 : b ≤ 4000000000000000000
          · by_cases h5 : c < 1
            · exact s_out5 a b c h1 h2 h3 h4 h5 (by omega) w
            · by_cases h6 : 4000000000000000000 < c
              · exact s_out6 a b c h1 h2 h3 h4 (by omega) h6 (by omega) w
              · exact absurd ⟨⟨⟨h1, h2⟩, h3, h4⟩, by omega, by omega⟩ r
          · exact s_out4 a b c h1 h2 h3 h4 w
        · exact s_out3 a b c h1 h2 h3 w
      · exact s_out2 a b c h1 h2 w
    · exact s_out1 a b c h1 w

end Go.Proofs.Ytcdmabjebohlgab.Mu
