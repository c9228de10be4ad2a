/-
  The Go function spec.l1MulDiv (bit by bit) tells the quotient and the rest of a product by a divisor, where the quotient is a time; else it says that it can't. For a, b from 0 and c from 1 to 4000000000000000000.
-/
import Derived.Test.YtcdmabjebohlgabRows
import Derived.WalkKit
import Derived.ProofKit
import Derived.OpenShut
import Derived.Test.YtcdmabjebohlgabMd
namespace Go.Proofs.Ytcdmabjebohlgab.L1
open Go.ChangeShapes Go.WideShapes Go.ChangeAt Go.RowKit
open Go.Proofs.Ytcdmabjebohlgab.Md

/-- What it answers. -/
def Says (a b c : Int) (e : Ending) : Prop :=
  ∃ (q r : Int) (is : Bool), e = .returned (.tuple #[.int .i64 q, .int .i64 r, .bool is]) ∧ (is = true → q = a * b / c ∧ r = a * b % c ∧ 0 ≤ q ∧ q ≤ 4000000000000000000) ∧ (is = false → 4000000000000000000 < a * b / c)

theorem says_end {a b c q r : Int} (h : Inv a b c q r 0) (hc : 1 ≤ c) {v : Value} (hv : v = .tuple #[.int .i64 q, .int .i64 r, .bool (decide (q ≤ 4000000000000000000))]) : Says a b c (.returned v) := by
  obtain ⟨e1, e2⟩ := inv_end h hc
  obtain ⟨_, _, _, h3, _⟩ := h
  refine ⟨q, r, _, by rw [hv], fun k => ⟨e1, e2, h3, by simpa using k⟩, fun k => ?_⟩
  simp at k; omega

set_option maxHeartbeats 1000000 in
theorem any (a b c : Int) (h0 : 0 ≤ a) (ha : a ≤ 4000000000000000000) (hb0 : 0 ≤ b) (hb : b ≤ 4000000000000000000) (hc : 1 ≤ c) (hcm : c ≤ 4000000000000000000) (w : World) :
    Calls Try.prog 28 #[.int .i64 a, .int .i64 b, .int .i64 c] w fun e w' => Says a b c e ∧ w' = w := by
  obtain ⟨d1, d2, d3, d4⟩ := quo_bd a c h0 ha hc
  have hs := inv_start a b c hb0 hb hc
  go_enter Try.func28, Try.ntmps28
  go_wp2
  go_loop [9, 10, 11] (fun q r u => ∃ (Q R : Int) (j : Nat), j ≤ 62 ∧ q = .int .i64 Q ∧ r = .int .i64 R ∧ u = .int .i64 (unitOf j) ∧ Inv a b c Q R j) (fun _ _ u => (intOf u).toNat)
  case atStart => exact ⟨0, 0, 62, by omega, rfl, rfl, rfl, hs⟩
  case round =>
    clear hs
    obtain ⟨Q, R, j, hj, rfl, rfl, rfl, hi⟩ := hrel
    have ⟨_, k1, k2, k3, k4⟩ := hi
    cases j with
    | zero =>
      have hu : unitOf 0 = 0 := rfl
      go_wp2
      go_ret3
      exact ⟨says_end hi hc rfl, rfl⟩
    | succ j =>
      have u1 := unit_pos j
      obtain ⟨u2, u3⟩ := unit_le (j + 1) hj
      obtain ⟨u4, u5⟩ := unit_le j (by omega)
      have u6 := unit_half j
      have hh : Hid (unitOf (j + 1) / 2 = unitOf j) := u6
      by_cases hq : 2000000000000000000 < Q
      · clear u6
        have hx := inv_early hi hq h0 hb0 hc
        go_wp2
        go_ret3
        exact ⟨⟨0, 0, false, rfl, by simp, fun _ => hx⟩, rfl⟩
      · have hqq : Q ≤ 2000000000000000000 := by omega
        have hm : unitOf j < unitOf (j + 1) := by omega
        have hnn : 0 ≤ b / unitOf (j + 1) := Int.ediv_nonneg hb0 u2
        have hnx : b / unitOf (j + 1) ≤ 4000000000000000000 := Int.le_trans (Int.ediv_le_self _ hb0) hb
        by_cases hbit : b / unitOf (j + 1) % 2 = 1
        · have hbt : (b / unitOf (j + 1) % 2 == 1) = true := by simp [hbit]
          obtain ⟨i1, i2, i3, i4⟩ := inv_1 hi hbit hqq h0 ha hc
          have hbh : Hid (b / unitOf (j + 1) % 2 = 1) := hbit
          clear hbit
          by_cases g1 : c ≤ 2 * R
          · by_cases g2 : c ≤ 2 * R - c + a % c
            · have hn := i4 g1 g2
              clear i1 i2 i3 i4
              go_wp2
              go_round
              case rel => exact ⟨_, _, j, by omega, rfl, rfl, by rw [hh.out], hn⟩
              case measure => simp only [intOf]; rw [hh.out]; omega
            · have hn := i3 g1 (by omega)
              clear i1 i2 i3 i4
              go_wp2
              go_round
              case rel => exact ⟨_, _, j, by omega, rfl, rfl, by rw [hh.out], hn⟩
              case measure => simp only [intOf]; rw [hh.out]; omega
          · by_cases g2 : c ≤ 2 * R + a % c
            · have hn := i2 (by omega) g2
              clear i1 i2 i3 i4
              go_wp2
              go_round
              case rel => exact ⟨_, _, j, by omega, rfl, rfl, by rw [hh.out], hn⟩
              case measure => simp only [intOf]; rw [hh.out]; omega
            · have hn := i1 (by omega) (by omega)
              clear i1 i2 i3 i4
              go_wp2
              go_round
              case rel => exact ⟨_, _, j, by omega, rfl, rfl, by rw [hh.out], hn⟩
              case measure => simp only [intOf]; rw [hh.out]; omega
        · have hbt : (b / unitOf (j + 1) % 2 == 1) = false := by simp [hbit]
          obtain ⟨i1, i2⟩ := inv_0 hi (by omega) hqq
          clear hbit
          by_cases g1 : c ≤ 2 * R
          · have hn := i2 g1
            clear i1 i2
            go_wp2
            go_round
            case rel => exact ⟨_, _, j, by omega, rfl, rfl, by rw [hh.out], hn⟩
            case measure => simp only [intOf]; rw [hh.out]; omega
          · have hn := i1 (by omega)
            clear i1 i2
            go_wp2
            go_round
            case rel => exact ⟨_, _, j, by omega, rfl, rfl, by rw [hh.out], hn⟩
            case measure => simp only [intOf]; rw [hh.out]; omega
end Go.Proofs.Ytcdmabjebohlgab.L1
