/-
  The Go functions impl.MulDiv and spec.MulDiv answer alike: a times b, by c, rounded down, where a and b are times, c is from 1 to 4000000000000000000 and the answer is a time; else 0 and false.
-/
import Derived.Test.YtcdmabjebohlgabRows
import Derived.WalkKit
import Derived.ProofKit
import Derived.OpenShut
import Derived.Test.YtcdmabjebohlgabMd
import Derived.Test.YtcdmabjebohlgabL1
import Derived.Test.YtcdmabjebohlgabSize
namespace Go.Proofs.Ytcdmabjebohlgab.Mu
open Go.ChangeShapes Go.WideShapes Go.ChangeAt Go.RowKit
open Go.Proofs.Ytcdmabjebohlgab.Md
set_option linter.unusedVariables false

theorem ret2 {a b : Int} {x y : Bool} (h : a = b) (k : x = y) : Ending.returned (.tuple #[.int .i64 a, .bool x]) = .returned (.tuple #[.int .i64 b, .bool y]) := by rw [h, k]

theorem l1_yes (a b c q r : Int) (e1 : a * b / c = q) (e2 : a * b % c = r) (h0 : 0 ≤ a) (ha : a ≤ 4000000000000000000) (hb0 : 0 ≤ b) (hb : b ≤ 4000000000000000000) (hc : 1 ≤ c) (hcm : c ≤ 4000000000000000000) (hq : q ≤ 4000000000000000000) (w : World) :
    Calls Try.prog 28 #[.int .i64 a, .int .i64 b, .int .i64 c] w fun e w' => e = .returned (.tuple #[.int .i64 q, .int .i64 r, .bool true]) ∧ w' = w := by
  refine (L1.any a b c h0 ha hb0 hb hc hcm w).mono fun e w' ⟨⟨q', r', is, h, k1, k2⟩, hw⟩ => ⟨?_, hw⟩
  cases is with
  | true => obtain ⟨k3, k4, -⟩ := k1 rfl; rw [h, k3, k4, e1, e2]
  | false => have := k2 rfl; omega

theorem l1_no (a b c q : Int) (e1 : a * b / c = q) (h0 : 0 ≤ a) (ha : a ≤ 4000000000000000000) (hb0 : 0 ≤ b) (hb : b ≤ 4000000000000000000) (hc : 1 ≤ c) (hcm : c ≤ 4000000000000000000) (hq : 4000000000000000000 < q) (w : World) :
    Calls Try.prog 28 #[.int .i64 a, .int .i64 b, .int .i64 c] w fun e w' => (∃ x y : Int, e = .returned (.tuple #[.int .i64 x, .int .i64 y, .bool false])) ∧ w' = w := by
  refine (L1.any a b c h0 ha hb0 hb hc hcm w).mono fun e w' ⟨⟨q', r', is, h, k1, k2⟩, hw⟩ => ⟨?_, hw⟩
  cases is with
  | true => obtain ⟨k3, k4, k5, k6⟩ := k1 rfl; omega
  | false => exact ⟨_, _, h⟩

theorem sz_yes (a b c q r : Int) (e1 : a * b / c = q) (e2 : a * b % c = r) (h0 : 0 ≤ a) (ha : a ≤ 4000000000000000000) (hb0 : 0 ≤ b) (hb : b ≤ 4000000000000000000) (hc : 1 ≤ c) (hcm : c ≤ 4000000000000000000) (hq : q ≤ 4000000000000000000) (w : World) :
    Calls Try.prog 21 #[.int .u64 a, .int .u64 b, .int .u64 c] w fun e w' => e = .returned (.tuple #[.int .u64 q, .bool (r != 0)]) ∧ ∃ n, w' = w.drewN n := by
  have := Sz.yes a b c h0 ha hb0 hb hc hcm (by omega) w
  rw [e1, e2] at this; exact this

theorem sz_no (a b c q : Int) (e1 : a * b / c = q) (h0 : 0 ≤ a) (ha : a ≤ 4000000000000000000) (hb0 : 0 ≤ b) (hb : b ≤ 4000000000000000000) (hc : 1 ≤ c) (hcm : c ≤ 4000000000000000000) (hq : 4000000000000000000 < q) (w : World) :
    Calls Try.prog 21 #[.int .u64 a, .int .u64 b, .int .u64 c] w fun e w' => (∃ rest : Bool, e = .returned (.tuple #[.int .u64 4000000000000000001, .bool rest])) ∧ ∃ n, w' = w.drewN n :=
  Sz.no a b c h0 ha hb0 hb hc hcm (by omega) w

set_option maxHeartbeats 400000 in
theorem i_pp_far (A B c q : Int) (h0 : 0 ≤ A) (ha : A ≤ 4000000000000000000) (hb0 : 0 ≤ B) (hb : B ≤ 4000000000000000000) (hc : 1 ≤ c) (hcm : c ≤ 4000000000000000000) (nA : ¬ A < 0) (dA : decide (A < 0) = false) (lA : (-4000000000000000000 : Int) ≤ A) (nB : ¬ B < 0) (dB : decide (B < 0) = false) (lB : (-4000000000000000000 : Int) ≤ B) (e1 : Hid (A * B / c = q)) (hq : 4000000000000000000 < q) (w : World) :
    Calls Try.prog 9 #[.int .i64 A, .int .i64 B, .int .i64 c] w fun e w' => e = .returned (.tuple #[.int .i64 0, .bool false]) ∧ ∃ n, w' = w.drewN n := by
  go_enter Try.func9, Try.ntmps9
  go_wp2_with (first | (go_at_call 21; refine (sz_no A B c q e1.out h0 ha hb0 hb hc hcm hq _).mono ?_; rintro e w' ⟨⟨rest, rfl⟩, n, rfl⟩) | go_in)
  all_goals (go_ret2; exact ⟨ret2 (by omega) rfl, _, rfl⟩)

set_option maxHeartbeats 400000 in
theorem i_pp_near (A B c q r : Int) (h0 : 0 ≤ A) (ha : A ≤ 4000000000000000000) (hb0 : 0 ≤ B) (hb : B ≤ 4000000000000000000) (hc : 1 ≤ c) (hcm : c ≤ 4000000000000000000) (nA : ¬ A < 0) (dA : decide (A < 0) = false) (lA : (-4000000000000000000 : Int) ≤ A) (nB : ¬ B < 0) (dB : decide (B < 0) = false) (lB : (-4000000000000000000 : Int) ≤ B) (e1 : Hid (A * B / c = q)) (e2 : Hid (A * B % c = r)) (hq0 : 0 ≤ q) (hq : q ≤ 4000000000000000000) (hr0 : 0 ≤ r) (hql : (-4000000000000000000 : Int) ≤ q) (w : World) :
    Calls Try.prog 9 #[.int .i64 A, .int .i64 B, .int .i64 c] w fun e w' => e = .returned (.tuple #[.int .i64 q, .bool true]) ∧ ∃ n, w' = w.drewN n := by
  go_enter Try.func9, Try.ntmps9
  go_wp2_with (first | (go_at_call 21; refine (sz_yes A B c q r e1.out e2.out h0 ha hb0 hb hc hcm (by omega) _).mono ?_; rintro e w' ⟨rfl, n, rfl⟩) | go_in)
  all_goals (go_ret2; exact ⟨ret2 (by omega) rfl, _, rfl⟩)

set_option maxHeartbeats 400000 in
theorem i_nn_far (A B c q : Int) (h0 : 0 ≤ A) (ha : A ≤ 4000000000000000000) (hb0 : 0 ≤ B) (hb : B ≤ 4000000000000000000) (hc : 1 ≤ c) (hcm : c ≤ 4000000000000000000) (pA : 0 < A) (nA : -A < 0) (lA : (-4000000000000000000 : Int) ≤ -A) (mA : -A ≤ 4000000000000000000) (nzA : (-A != 0) = true) (pB : 0 < B) (nB : -B < 0) (lB : (-4000000000000000000 : Int) ≤ -B) (mB : -B ≤ 4000000000000000000) (nzB : (-B != 0) = true) (e1 : Hid (A * B / c = q)) (hq : 4000000000000000000 < q) (w : World) :
    Calls Try.prog 9 #[.int .i64 (-A), .int .i64 (-B), .int .i64 c] w fun e w' => e = .returned (.tuple #[.int .i64 0, .bool false]) ∧ ∃ n, w' = w.drewN n := by
  go_enter Try.func9, Try.ntmps9
  go_wp2_with (first | (go_at_call 21; refine (sz_no A B c q e1.out h0 ha hb0 hb hc hcm hq _).mono ?_; rintro e w' ⟨⟨rest, rfl⟩, n, rfl⟩) | go_in)
  all_goals (go_ret2; exact ⟨ret2 (by omega) rfl, _, rfl⟩)

set_option maxHeartbeats 400000 in
theorem i_nn_near (A B c q r : Int) (h0 : 0 ≤ A) (ha : A ≤ 4000000000000000000) (hb0 : 0 ≤ B) (hb : B ≤ 4000000000000000000) (hc : 1 ≤ c) (hcm : c ≤ 4000000000000000000) (pA : 0 < A) (nA : -A < 0) (lA : (-4000000000000000000 : Int) ≤ -A) (mA : -A ≤ 4000000000000000000) (nzA : (-A != 0) = true) (pB : 0 < B) (nB : -B < 0) (lB : (-4000000000000000000 : Int) ≤ -B) (mB : -B ≤ 4000000000000000000) (nzB : (-B != 0) = true) (e1 : Hid (A * B / c = q)) (e2 : Hid (A * B % c = r)) (hq0 : 0 ≤ q) (hq : q ≤ 4000000000000000000) (hr0 : 0 ≤ r) (hql : (-4000000000000000000 : Int) ≤ q) (w : World) :
    Calls Try.prog 9 #[.int .i64 (-A), .int .i64 (-B), .int .i64 c] w fun e w' => e = .returned (.tuple #[.int .i64 q, .bool true]) ∧ ∃ n, w' = w.drewN n := by
  go_enter Try.func9, Try.ntmps9
  go_wp2_with (first | (go_at_call 21; refine (sz_yes A B c q r e1.out e2.out h0 ha hb0 hb hc hcm (by omega) _).mono ?_; rintro e w' ⟨rfl, n, rfl⟩) | go_in)
  all_goals (go_ret2; exact ⟨ret2 (by omega) rfl, _, rfl⟩)

set_option maxHeartbeats 400000 in
theorem i_np_far (A B c q : Int) (h0 : 0 ≤ A) (ha : A ≤ 4000000000000000000) (hb0 : 0 ≤ B) (hb : B ≤ 4000000000000000000) (hc : 1 ≤ c) (hcm : c ≤ 4000000000000000000) (pA : 0 < A) (nA : -A < 0) (lA : (-4000000000000000000 : Int) ≤ -A) (mA : -A ≤ 4000000000000000000) (nzA : (-A != 0) = true) (nB : ¬ B < 0) (dB : decide (B < 0) = false) (lB : (-4000000000000000000 : Int) ≤ B) (pB : 0 < B) (nzB : (B != 0) = true) (e1 : Hid (A * B / c = q)) (hq : 4000000000000000000 < q) (w : World) :
    Calls Try.prog 9 #[.int .i64 (-A), .int .i64 B, .int .i64 c] w fun e w' => e = .returned (.tuple #[.int .i64 0, .bool false]) ∧ ∃ n, w' = w.drewN n := by
  go_enter Try.func9, Try.ntmps9
  go_wp2_with (first | (go_at_call 21; refine (sz_no A B c q e1.out h0 ha hb0 hb hc hcm hq _).mono ?_; rintro e w' ⟨⟨rest, rfl⟩, n, rfl⟩) | go_in)
  all_goals (go_ret2; exact ⟨ret2 (by omega) rfl, _, rfl⟩)

set_option maxHeartbeats 400000 in
theorem i_np_even (A B c q r : Int) (h0 : 0 ≤ A) (ha : A ≤ 4000000000000000000) (hb0 : 0 ≤ B) (hb : B ≤ 4000000000000000000) (hc : 1 ≤ c) (hcm : c ≤ 4000000000000000000) (pA : 0 < A) (nA : -A < 0) (lA : (-4000000000000000000 : Int) ≤ -A) (mA : -A ≤ 4000000000000000000) (nzA : (-A != 0) = true) (nB : ¬ B < 0) (dB : decide (B < 0) = false) (lB : (-4000000000000000000 : Int) ≤ B) (pB : 0 < B) (nzB : (B != 0) = true) (e1 : Hid (A * B / c = q)) (e2 : Hid (A * B % c = r)) (hq0 : 0 ≤ q) (hq : q ≤ 4000000000000000000) (hr0 : 0 ≤ r) (hr : (r != 0) = false) (hr1 : ¬ 0 < r) (hl : (-4000000000000000000 : Int) ≤ -q) (hm : -q ≤ 4000000000000000000) (w : World) :
    Calls Try.prog 9 #[.int .i64 (-A), .int .i64 B, .int .i64 c] w fun e w' => e = .returned (.tuple #[.int .i64 (-q), .bool true]) ∧ ∃ n, w' = w.drewN n := by
  go_enter Try.func9, Try.ntmps9
  go_wp2_with (first | (go_at_call 21; refine (sz_yes A B c q r e1.out e2.out h0 ha hb0 hb hc hcm (by omega) _).mono ?_; rintro e w' ⟨rfl, n, rfl⟩) | go_in)
  all_goals (go_ret2; exact ⟨ret2 (by omega) rfl, _, rfl⟩)

set_option maxHeartbeats 400000 in
theorem i_np_odd (A B c q r : Int) (h0 : 0 ≤ A) (ha : A ≤ 4000000000000000000) (hb0 : 0 ≤ B) (hb : B ≤ 4000000000000000000) (hc : 1 ≤ c) (hcm : c ≤ 4000000000000000000) (pA : 0 < A) (nA : -A < 0) (lA : (-4000000000000000000 : Int) ≤ -A) (mA : -A ≤ 4000000000000000000) (nzA : (-A != 0) = true) (nB : ¬ B < 0) (dB : decide (B < 0) = false) (lB : (-4000000000000000000 : Int) ≤ B) (pB : 0 < B) (nzB : (B != 0) = true) (e1 : Hid (A * B / c = q)) (e2 : Hid (A * B % c = r)) (hq0 : 0 ≤ q) (hq : q < 4000000000000000000) (hr0 : 0 ≤ r) (hr : (r != 0) = true) (hr1 : 0 < r) (hl : (-4000000000000000000 : Int) ≤ -q - 1) (hm : -q - 1 ≤ 4000000000000000000) (hx : -(q + 1) = -q - 1) (w : World) :
    Calls Try.prog 9 #[.int .i64 (-A), .int .i64 B, .int .i64 c] w fun e w' => e = .returned (.tuple #[.int .i64 (-q - 1), .bool true]) ∧ ∃ n, w' = w.drewN n := by
  go_enter Try.func9, Try.ntmps9
  go_wp2_with (first | (go_at_call 21; refine (sz_yes A B c q r e1.out e2.out h0 ha hb0 hb hc hcm (by omega) _).mono ?_; rintro e w' ⟨rfl, n, rfl⟩) | go_in)
  all_goals (go_ret2; exact ⟨ret2 (by omega) rfl, _, rfl⟩)

set_option maxHeartbeats 400000 in
theorem i_np_edge (A B c q r : Int) (h0 : 0 ≤ A) (ha : A ≤ 4000000000000000000) (hb0 : 0 ≤ B) (hb : B ≤ 4000000000000000000) (hc : 1 ≤ c) (hcm : c ≤ 4000000000000000000) (pA : 0 < A) (nA : -A < 0) (lA : (-4000000000000000000 : Int) ≤ -A) (mA : -A ≤ 4000000000000000000) (nzA : (-A != 0) = true) (nB : ¬ B < 0) (dB : decide (B < 0) = false) (lB : (-4000000000000000000 : Int) ≤ B) (pB : 0 < B) (nzB : (B != 0) = true) (e1 : Hid (A * B / c = q)) (e2 : Hid (A * B % c = r)) (hqe : q = 4000000000000000000) (hr0 : 0 ≤ r) (hr : (r != 0) = true) (hr1 : 0 < r) (w : World) :
    Calls Try.prog 9 #[.int .i64 (-A), .int .i64 B, .int .i64 c] w fun e w' => e = .returned (.tuple #[.int .i64 0, .bool false]) ∧ ∃ n, w' = w.drewN n := by
  subst hqe
  go_enter Try.func9, Try.ntmps9
  go_wp2_with (first | (go_at_call 21; refine (sz_yes A B c 4000000000000000000 r e1.out e2.out h0 ha hb0 hb hc hcm (by omega) _).mono ?_; rintro e w' ⟨rfl, n, rfl⟩) | go_in)
  all_goals (go_ret2; exact ⟨ret2 (by omega) rfl, _, rfl⟩)

set_option maxHeartbeats 400000 in
theorem i_pn_far (A B c q : Int) (h0 : 0 ≤ A) (ha : A ≤ 4000000000000000000) (hb0 : 0 ≤ B) (hb : B ≤ 4000000000000000000) (hc : 1 ≤ c) (hcm : c ≤ 4000000000000000000) (nA : ¬ A < 0) (dA : decide (A < 0) = false) (lA : (-4000000000000000000 : Int) ≤ A) (pA : 0 < A) (nzA : (A != 0) = true) (pB : 0 < B) (nB : -B < 0) (lB : (-4000000000000000000 : Int) ≤ -B) (mB : -B ≤ 4000000000000000000) (nzB : (-B != 0) = true) (e1 : Hid (A * B / c = q)) (hq : 4000000000000000000 < q) (w : World) :
    Calls Try.prog 9 #[.int .i64 A, .int .i64 (-B), .int .i64 c] w fun e w' => e = .returned (.tuple #[.int .i64 0, .bool false]) ∧ ∃ n, w' = w.drewN n := by
  go_enter Try.func9, Try.ntmps9
  go_wp2_with (first | (go_at_call 21; refine (sz_no A B c q e1.out h0 ha hb0 hb hc hcm hq _).mono ?_; rintro e w' ⟨⟨rest, rfl⟩, n, rfl⟩) | go_in)
  all_goals (go_ret2; exact ⟨ret2 (by omega) rfl, _, rfl⟩)

set_option maxHeartbeats 400000 in
theorem i_pn_even (A B c q r : Int) (h0 : 0 ≤ A) (ha : A ≤ 4000000000000000000) (hb0 : 0 ≤ B) (hb : B ≤ 4000000000000000000) (hc : 1 ≤ c) (hcm : c ≤ 4000000000000000000) (nA : ¬ A < 0) (dA : decide (A < 0) = false) (lA : (-4000000000000000000 : Int) ≤ A) (pA : 0 < A) (nzA : (A != 0) = true) (pB : 0 < B) (nB : -B < 0) (lB : (-4000000000000000000 : Int) ≤ -B) (mB : -B ≤ 4000000000000000000) (nzB : (-B != 0) = true) (e1 : Hid (A * B / c = q)) (e2 : Hid (A * B % c = r)) (hq0 : 0 ≤ q) (hq : q ≤ 4000000000000000000) (hr0 : 0 ≤ r) (hr : (r != 0) = false) (hr1 : ¬ 0 < r) (hl : (-4000000000000000000 : Int) ≤ -q) (hm : -q ≤ 4000000000000000000) (w : World) :
    Calls Try.prog 9 #[.int .i64 A, .int .i64 (-B), .int .i64 c] w fun e w' => e = .returned (.tuple #[.int .i64 (-q), .bool true]) ∧ ∃ n, w' = w.drewN n := by
  go_enter Try.func9, Try.ntmps9
  go_wp2_with (first | (go_at_call 21; refine (sz_yes A B c q r e1.out e2.out h0 ha hb0 hb hc hcm (by omega) _).mono ?_; rintro e w' ⟨rfl, n, rfl⟩) | go_in)
  all_goals (go_ret2; exact ⟨ret2 (by omega) rfl, _, rfl⟩)

set_option maxHeartbeats 400000 in
theorem i_pn_odd (A B c q r : Int) (h0 : 0 ≤ A) (ha : A ≤ 4000000000000000000) (hb0 : 0 ≤ B) (hb : B ≤ 4000000000000000000) (hc : 1 ≤ c) (hcm : c ≤ 4000000000000000000) (nA : ¬ A < 0) (dA : decide (A < 0) = false) (lA : (-4000000000000000000 : Int) ≤ A) (pA : 0 < A) (nzA : (A != 0) = true) (pB : 0 < B) (nB : -B < 0) (lB : (-4000000000000000000 : Int) ≤ -B) (mB : -B ≤ 4000000000000000000) (nzB : (-B != 0) = true) (e1 : Hid (A * B / c = q)) (e2 : Hid (A * B % c = r)) (hq0 : 0 ≤ q) (hq : q < 4000000000000000000) (hr0 : 0 ≤ r) (hr : (r != 0) = true) (hr1 : 0 < r) (hl : (-4000000000000000000 : Int) ≤ -q - 1) (hm : -q - 1 ≤ 4000000000000000000) (hx : -(q + 1) = -q - 1) (w : World) :
    Calls Try.prog 9 #[.int .i64 A, .int .i64 (-B), .int .i64 c] w fun e w' => e = .returned (.tuple #[.int .i64 (-q - 1), .bool true]) ∧ ∃ n, w' = w.drewN n := by
  go_enter Try.func9, Try.ntmps9
  go_wp2_with (first | (go_at_call 21; refine (sz_yes A B c q r e1.out e2.out h0 ha hb0 hb hc hcm (by omega) _).mono ?_; rintro e w' ⟨rfl, n, rfl⟩) | go_in)
  all_goals (go_ret2; exact ⟨ret2 (by omega) rfl, _, rfl⟩)

set_option maxHeartbeats 400000 in
theorem i_pn_edge (A B c q r : Int) (h0 : 0 ≤ A) (ha : A ≤ 4000000000000000000) (hb0 : 0 ≤ B) (hb : B ≤ 4000000000000000000) (hc : 1 ≤ c) (hcm : c ≤ 4000000000000000000) (nA : ¬ A < 0) (dA : decide (A < 0) = false) (lA : (-4000000000000000000 : Int) ≤ A) (pA : 0 < A) (nzA : (A != 0) = true) (pB : 0 < B) (nB : -B < 0) (lB : (-4000000000000000000 : Int) ≤ -B) (mB : -B ≤ 4000000000000000000) (nzB : (-B != 0) = true) (e1 : Hid (A * B / c = q)) (e2 : Hid (A * B % c = r)) (hqe : q = 4000000000000000000) (hr0 : 0 ≤ r) (hr : (r != 0) = true) (hr1 : 0 < r) (w : World) :
    Calls Try.prog 9 #[.int .i64 A, .int .i64 (-B), .int .i64 c] w fun e w' => e = .returned (.tuple #[.int .i64 0, .bool false]) ∧ ∃ n, w' = w.drewN n := by
  subst hqe
  go_enter Try.func9, Try.ntmps9
  go_wp2_with (first | (go_at_call 21; refine (sz_yes A B c 4000000000000000000 r e1.out e2.out h0 ha hb0 hb hc hcm (by omega) _).mono ?_; rintro e w' ⟨rfl, n, rfl⟩) | go_in)
  all_goals (go_ret2; exact ⟨ret2 (by omega) rfl, _, rfl⟩)

set_option maxHeartbeats 400000 in
theorem s_pp_far (A B c q : Int) (h0 : 0 ≤ A) (ha : A ≤ 4000000000000000000) (hb0 : 0 ≤ B) (hb : B ≤ 4000000000000000000) (hc : 1 ≤ c) (hcm : c ≤ 4000000000000000000) (nA : ¬ A < 0) (dA : decide (A < 0) = false) (lA : (-4000000000000000000 : Int) ≤ A) (nB : ¬ B < 0) (dB : decide (B < 0) = false) (lB : (-4000000000000000000 : Int) ≤ B) (e1 : Hid (A * B / c = q)) (hq : 4000000000000000000 < q) (w : World) :
    Calls Try.prog 11 #[.int .i64 A, .int .i64 B, .int .i64 c] w fun e w' => e = .returned (.tuple #[.int .i64 0, .bool false]) ∧ w' = w := by
  go_enter Try.func11, Try.ntmps11
  go_wp2_with (first | (go_at_call 28; refine (l1_no A B c q e1.out h0 ha hb0 hb hc hcm hq _).mono ?_; rintro e w' ⟨⟨x, y, rfl⟩, rfl⟩) | go_in)
  all_goals (go_ret2; exact ⟨ret2 (by omega) rfl, rfl⟩)

set_option maxHeartbeats 400000 in
theorem s_pp_near (A B c q r : Int) (h0 : 0 ≤ A) (ha : A ≤ 4000000000000000000) (hb0 : 0 ≤ B) (hb : B ≤ 4000000000000000000) (hc : 1 ≤ c) (hcm : c ≤ 4000000000000000000) (nA : ¬ A < 0) (dA : decide (A < 0) = false) (lA : (-4000000000000000000 : Int) ≤ A) (nB : ¬ B < 0) (dB : decide (B < 0) = false) (lB : (-4000000000000000000 : Int) ≤ B) (e1 : Hid (A * B / c = q)) (e2 : Hid (A * B % c = r)) (hq0 : 0 ≤ q) (hq : q ≤ 4000000000000000000) (hr0 : 0 ≤ r) (hql : (-4000000000000000000 : Int) ≤ q) (w : World) :
    Calls Try.prog 11 #[.int .i64 A, .int .i64 B, .int .i64 c] w fun e w' => e = .returned (.tuple #[.int .i64 q, .bool true]) ∧ w' = w := by
  go_enter Try.func11, Try.ntmps11
  go_wp2_with (first | (go_at_call 28; refine (l1_yes A B c q r e1.out e2.out h0 ha hb0 hb hc hcm (by omega) _).mono ?_; rintro e w' ⟨rfl, rfl⟩) | go_in)
  all_goals (go_ret2; exact ⟨ret2 (by omega) rfl, rfl⟩)

set_option maxHeartbeats 400000 in
theorem s_nn_far (A B c q : Int) (h0 : 0 ≤ A) (ha : A ≤ 4000000000000000000) (hb0 : 0 ≤ B) (hb : B ≤ 4000000000000000000) (hc : 1 ≤ c) (hcm : c ≤ 4000000000000000000) (pA : 0 < A) (nA : -A < 0) (lA : (-4000000000000000000 : Int) ≤ -A) (mA : -A ≤ 4000000000000000000) (nzA : (-A != 0) = true) (pB : 0 < B) (nB : -B < 0) (lB : (-4000000000000000000 : Int) ≤ -B) (mB : -B ≤ 4000000000000000000) (nzB : (-B != 0) = true) (e1 : Hid (A * B / c = q)) (hq : 4000000000000000000 < q) (w : World) :
    Calls Try.prog 11 #[.int .i64 (-A), .int .i64 (-B), .int .i64 c] w fun e w' => e = .returned (.tuple #[.int .i64 0, .bool false]) ∧ w' = w := by
  go_enter Try.func11, Try.ntmps11
  go_wp2_with (first | (go_at_call 28; refine (l1_no A B c q e1.out h0 ha hb0 hb hc hcm hq _).mono ?_; rintro e w' ⟨⟨x, y, rfl⟩, rfl⟩) | go_in)
  all_goals (go_ret2; exact ⟨ret2 (by omega) rfl, rfl⟩)

set_option maxHeartbeats 400000 in
theorem s_nn_near (A B c q r : Int) (h0 : 0 ≤ A) (ha : A ≤ 4000000000000000000) (hb0 : 0 ≤ B) (hb : B ≤ 4000000000000000000) (hc : 1 ≤ c) (hcm : c ≤ 4000000000000000000) (pA : 0 < A) (nA : -A < 0) (lA : (-4000000000000000000 : Int) ≤ -A) (mA : -A ≤ 4000000000000000000) (nzA : (-A != 0) = true) (pB : 0 < B) (nB : -B < 0) (lB : (-4000000000000000000 : Int) ≤ -B) (mB : -B ≤ 4000000000000000000) (nzB : (-B != 0) = true) (e1 : Hid (A * B / c = q)) (e2 : Hid (A * B % c = r)) (hq0 : 0 ≤ q) (hq : q ≤ 4000000000000000000) (hr0 : 0 ≤ r) (hql : (-4000000000000000000 : Int) ≤ q) (w : World) :
    Calls Try.prog 11 #[.int .i64 (-A), .int .i64 (-B), .int .i64 c] w fun e w' => e = .returned (.tuple #[.int .i64 q, .bool true]) ∧ w' = w := by
  go_enter Try.func11, Try.ntmps11
  go_wp2_with (first | (go_at_call 28; refine (l1_yes A B c q r e1.out e2.out h0 ha hb0 hb hc hcm (by omega) _).mono ?_; rintro e w' ⟨rfl, rfl⟩) | go_in)
  all_goals (go_ret2; exact ⟨ret2 (by omega) rfl, rfl⟩)

set_option maxHeartbeats 400000 in
theorem s_np_far (A B c q : Int) (h0 : 0 ≤ A) (ha : A ≤ 4000000000000000000) (hb0 : 0 ≤ B) (hb : B ≤ 4000000000000000000) (hc : 1 ≤ c) (hcm : c ≤ 4000000000000000000) (pA : 0 < A) (nA : -A < 0) (lA : (-4000000000000000000 : Int) ≤ -A) (mA : -A ≤ 4000000000000000000) (nzA : (-A != 0) = true) (nB : ¬ B < 0) (dB : decide (B < 0) = false) (lB : (-4000000000000000000 : Int) ≤ B) (pB : 0 < B) (nzB : (B != 0) = true) (e1 : Hid (A * B / c = q)) (hq : 4000000000000000000 < q) (w : World) :
    Calls Try.prog 11 #[.int .i64 (-A), .int .i64 B, .int .i64 c] w fun e w' => e = .returned (.tuple #[.int .i64 0, .bool false]) ∧ w' = w := by
  go_enter Try.func11, Try.ntmps11
  go_wp2_with (first | (go_at_call 28; refine (l1_no A B c q e1.out h0 ha hb0 hb hc hcm hq _).mono ?_; rintro e w' ⟨⟨x, y, rfl⟩, rfl⟩) | go_in)
  all_goals (go_ret2; exact ⟨ret2 (by omega) rfl, rfl⟩)

set_option maxHeartbeats 400000 in
theorem s_np_even (A B c q r : Int) (h0 : 0 ≤ A) (ha : A ≤ 4000000000000000000) (hb0 : 0 ≤ B) (hb : B ≤ 4000000000000000000) (hc : 1 ≤ c) (hcm : c ≤ 4000000000000000000) (pA : 0 < A) (nA : -A < 0) (lA : (-4000000000000000000 : Int) ≤ -A) (mA : -A ≤ 4000000000000000000) (nzA : (-A != 0) = true) (nB : ¬ B < 0) (dB : decide (B < 0) = false) (lB : (-4000000000000000000 : Int) ≤ B) (pB : 0 < B) (nzB : (B != 0) = true) (e1 : Hid (A * B / c = q)) (e2 : Hid (A * B % c = r)) (hq0 : 0 ≤ q) (hq : q ≤ 4000000000000000000) (hr0 : 0 ≤ r) (hr : (r != 0) = false) (hr1 : ¬ 0 < r) (hl : (-4000000000000000000 : Int) ≤ -q) (hm : -q ≤ 4000000000000000000) (w : World) :
    Calls Try.prog 11 #[.int .i64 (-A), .int .i64 B, .int .i64 c] w fun e w' => e = .returned (.tuple #[.int .i64 (-q), .bool true]) ∧ w' = w := by
  go_enter Try.func11, Try.ntmps11
  go_wp2_with (first | (go_at_call 28; refine (l1_yes A B c q r e1.out e2.out h0 ha hb0 hb hc hcm (by omega) _).mono ?_; rintro e w' ⟨rfl, rfl⟩) | go_in)
  all_goals (go_ret2; exact ⟨ret2 (by omega) rfl, rfl⟩)

set_option maxHeartbeats 400000 in
theorem s_np_odd (A B c q r : Int) (h0 : 0 ≤ A) (ha : A ≤ 4000000000000000000) (hb0 : 0 ≤ B) (hb : B ≤ 4000000000000000000) (hc : 1 ≤ c) (hcm : c ≤ 4000000000000000000) (pA : 0 < A) (nA : -A < 0) (lA : (-4000000000000000000 : Int) ≤ -A) (mA : -A ≤ 4000000000000000000) (nzA : (-A != 0) = true) (nB : ¬ B < 0) (dB : decide (B < 0) = false) (lB : (-4000000000000000000 : Int) ≤ B) (pB : 0 < B) (nzB : (B != 0) = true) (e1 : Hid (A * B / c = q)) (e2 : Hid (A * B % c = r)) (hq0 : 0 ≤ q) (hq : q < 4000000000000000000) (hr0 : 0 ≤ r) (hr : (r != 0) = true) (hr1 : 0 < r) (hl : (-4000000000000000000 : Int) ≤ -q - 1) (hm : -q - 1 ≤ 4000000000000000000) (hx : -(q + 1) = -q - 1) (w : World) :
    Calls Try.prog 11 #[.int .i64 (-A), .int .i64 B, .int .i64 c] w fun e w' => e = .returned (.tuple #[.int .i64 (-q - 1), .bool true]) ∧ w' = w := by
  go_enter Try.func11, Try.ntmps11
  go_wp2_with (first | (go_at_call 28; refine (l1_yes A B c q r e1.out e2.out h0 ha hb0 hb hc hcm (by omega) _).mono ?_; rintro e w' ⟨rfl, rfl⟩) | go_in)
  all_goals (go_ret2; exact ⟨ret2 (by omega) rfl, rfl⟩)

set_option maxHeartbeats 400000 in
theorem s_np_edge (A B c q r : Int) (h0 : 0 ≤ A) (ha : A ≤ 4000000000000000000) (hb0 : 0 ≤ B) (hb : B ≤ 4000000000000000000) (hc : 1 ≤ c) (hcm : c ≤ 4000000000000000000) (pA : 0 < A) (nA : -A < 0) (lA : (-4000000000000000000 : Int) ≤ -A) (mA : -A ≤ 4000000000000000000) (nzA : (-A != 0) = true) (nB : ¬ B < 0) (dB : decide (B < 0) = false) (lB : (-4000000000000000000 : Int) ≤ B) (pB : 0 < B) (nzB : (B != 0) = true) (e1 : Hid (A * B / c = q)) (e2 : Hid (A * B % c = r)) (hqe : q = 4000000000000000000) (hr0 : 0 ≤ r) (hr : (r != 0) = true) (hr1 : 0 < r) (w : World) :
    Calls Try.prog 11 #[.int .i64 (-A), .int .i64 B, .int .i64 c] w fun e w' => e = .returned (.tuple #[.int .i64 0, .bool false]) ∧ w' = w := by
  subst hqe
  go_enter Try.func11, Try.ntmps11
  go_wp2_with (first | (go_at_call 28; refine (l1_yes A B c 4000000000000000000 r e1.out e2.out h0 ha hb0 hb hc hcm (by omega) _).mono ?_; rintro e w' ⟨rfl, rfl⟩) | go_in)
  all_goals (go_ret2; exact ⟨ret2 (by omega) rfl, rfl⟩)

set_option maxHeartbeats 400000 in
theorem s_pn_far (A B c q : Int) (h0 : 0 ≤ A) (ha : A ≤ 4000000000000000000) (hb0 : 0 ≤ B) (hb : B ≤ 4000000000000000000) (hc : 1 ≤ c) (hcm : c ≤ 4000000000000000000) (nA : ¬ A < 0) (dA : decide (A < 0) = false) (lA : (-4000000000000000000 : Int) ≤ A) (pA : 0 < A) (nzA : (A != 0) = true) (pB : 0 < B) (nB : -B < 0) (lB : (-4000000000000000000 : Int) ≤ -B) (mB : -B ≤ 4000000000000000000) (nzB : (-B != 0) = true) (e1 : Hid (A * B / c = q)) (hq : 4000000000000000000 < q) (w : World) :
    Calls Try.prog 11 #[.int .i64 A, .int .i64 (-B), .int .i64 c] w fun e w' => e = .returned (.tuple #[.int .i64 0, .bool false]) ∧ w' = w := by
  go_enter Try.func11, Try.ntmps11
  go_wp2_with (first | (go_at_call 28; refine (l1_no A B c q e1.out h0 ha hb0 hb hc hcm hq _).mono ?_; rintro e w' ⟨⟨x, y, rfl⟩, rfl⟩) | go_in)
  all_goals (go_ret2; exact ⟨ret2 (by omega) rfl, rfl⟩)

set_option maxHeartbeats 400000 in
theorem s_pn_even (A B c q r : Int) (h0 : 0 ≤ A) (ha : A ≤ 4000000000000000000) (hb0 : 0 ≤ B) (hb : B ≤ 4000000000000000000) (hc : 1 ≤ c) (hcm : c ≤ 4000000000000000000) (nA : ¬ A < 0) (dA : decide (A < 0) = false) (lA : (-4000000000000000000 : Int) ≤ A) (pA : 0 < A) (nzA : (A != 0) = true) (pB : 0 < B) (nB : -B < 0) (lB : (-4000000000000000000 : Int) ≤ -B) (mB : -B ≤ 4000000000000000000) (nzB : (-B != 0) = true) (e1 : Hid (A * B / c = q)) (e2 : Hid (A * B % c = r)) (hq0 : 0 ≤ q) (hq : q ≤ 4000000000000000000) (hr0 : 0 ≤ r) (hr : (r != 0) = false) (hr1 : ¬ 0 < r) (hl : (-4000000000000000000 : Int) ≤ -q) (hm : -q ≤ 4000000000000000000) (w : World) :
    Calls Try.prog 11 #[.int .i64 A, .int .i64 (-B), .int .i64 c] w fun e w' => e = .returned (.tuple #[.int .i64 (-q), .bool true]) ∧ w' = w := by
  go_enter Try.func11, Try.ntmps11
  go_wp2_with (first | (go_at_call 28; refine (l1_yes A B c q r e1.out e2.out h0 ha hb0 hb hc hcm (by omega) _).mono ?_; rintro e w' ⟨rfl, rfl⟩) | go_in)
  all_goals (go_ret2; exact ⟨ret2 (by omega) rfl, rfl⟩)

set_option maxHeartbeats 400000 in
theorem s_pn_odd (A B c q r : Int) (h0 : 0 ≤ A) (ha : A ≤ 4000000000000000000) (hb0 : 0 ≤ B) (hb : B ≤ 4000000000000000000) (hc : 1 ≤ c) (hcm : c ≤ 4000000000000000000) (nA : ¬ A < 0) (dA : decide (A < 0) = false) (lA : (-4000000000000000000 : Int) ≤ A) (pA : 0 < A) (nzA : (A != 0) = true) (pB : 0 < B) (nB : -B < 0) (lB : (-4000000000000000000 : Int) ≤ -B) (mB : -B ≤ 4000000000000000000) (nzB : (-B != 0) = true) (e1 : Hid (A * B / c = q)) (e2 : Hid (A * B % c = r)) (hq0 : 0 ≤ q) (hq : q < 4000000000000000000) (hr0 : 0 ≤ r) (hr : (r != 0) = true) (hr1 : 0 < r) (hl : (-4000000000000000000 : Int) ≤ -q - 1) (hm : -q - 1 ≤ 4000000000000000000) (hx : -(q + 1) = -q - 1) (w : World) :
    Calls Try.prog 11 #[.int .i64 A, .int .i64 (-B), .int .i64 c] w fun e w' => e = .returned (.tuple #[.int .i64 (-q - 1), .bool true]) ∧ w' = w := by
  go_enter Try.func11, Try.ntmps11
  go_wp2_with (first | (go_at_call 28; refine (l1_yes A B c q r e1.out e2.out h0 ha hb0 hb hc hcm (by omega) _).mono ?_; rintro e w' ⟨rfl, rfl⟩) | go_in)
  all_goals (go_ret2; exact ⟨ret2 (by omega) rfl, rfl⟩)

set_option maxHeartbeats 400000 in
theorem s_pn_edge (A B c q r : Int) (h0 : 0 ≤ A) (ha : A ≤ 4000000000000000000) (hb0 : 0 ≤ B) (hb : B ≤ 4000000000000000000) (hc : 1 ≤ c) (hcm : c ≤ 4000000000000000000) (nA : ¬ A < 0) (dA : decide (A < 0) = false) (lA : (-4000000000000000000 : Int) ≤ A) (pA : 0 < A) (nzA : (A != 0) = true) (pB : 0 < B) (nB : -B < 0) (lB : (-4000000000000000000 : Int) ≤ -B) (mB : -B ≤ 4000000000000000000) (nzB : (-B != 0) = true) (e1 : Hid (A * B / c = q)) (e2 : Hid (A * B % c = r)) (hqe : q = 4000000000000000000) (hr0 : 0 ≤ r) (hr : (r != 0) = true) (hr1 : 0 < r) (w : World) :
    Calls Try.prog 11 #[.int .i64 A, .int .i64 (-B), .int .i64 c] w fun e w' => e = .returned (.tuple #[.int .i64 0, .bool false]) ∧ w' = w := by
  subst hqe
  go_enter Try.func11, Try.ntmps11
  go_wp2_with (first | (go_at_call 28; refine (l1_yes A B c 4000000000000000000 r e1.out e2.out h0 ha hb0 hb hc hcm (by omega) _).mono ?_; rintro e w' ⟨rfl, rfl⟩) | go_in)
  all_goals (go_ret2; exact ⟨ret2 (by omega) rfl, rfl⟩)

set_option maxHeartbeats 400000 in
theorem i_nz (A c : Int) (h0 : 0 ≤ A) (ha : A ≤ 4000000000000000000) (hc : 1 ≤ c) (hcm : c ≤ 4000000000000000000) (pA : 0 < A) (nA : -A < 0) (lA : (-4000000000000000000 : Int) ≤ -A) (mA : -A ≤ 4000000000000000000) (nzA : (-A != 0) = true) (w : World) :
    Calls Try.prog 9 #[.int .i64 (-A), .int .i64 0, .int .i64 c] w fun e w' => e = .returned (.tuple #[.int .i64 0, .bool true]) ∧ ∃ n, w' = w.drewN n := by
  go_enter Try.func9, Try.ntmps9
  go_wp2_with (first | (go_at_call 21; refine (sz_yes A 0 c 0 0 (by simp) (by simp) h0 ha (by omega) (by omega) hc hcm (by omega) _).mono ?_; rintro e w' ⟨rfl, n, rfl⟩) | go_in)
  all_goals (go_ret2; exact ⟨ret2 (by omega) rfl, _, rfl⟩)

set_option maxHeartbeats 400000 in
theorem i_zn (B c : Int) (h0 : 0 ≤ B) (ha : B ≤ 4000000000000000000) (hc : 1 ≤ c) (hcm : c ≤ 4000000000000000000) (pB : 0 < B) (nB : -B < 0) (lB : (-4000000000000000000 : Int) ≤ -B) (mB : -B ≤ 4000000000000000000) (nzB : (-B != 0) = true) (w : World) :
    Calls Try.prog 9 #[.int .i64 0, .int .i64 (-B), .int .i64 c] w fun e w' => e = .returned (.tuple #[.int .i64 0, .bool true]) ∧ ∃ n, w' = w.drewN n := by
  go_enter Try.func9, Try.ntmps9
  go_wp2_with (first | (go_at_call 21; refine (sz_yes 0 B c 0 0 (by simp) (by simp) (by omega) (by omega) h0 ha hc hcm (by omega) _).mono ?_; rintro e w' ⟨rfl, n, rfl⟩) | go_in)
  all_goals (go_ret2; exact ⟨ret2 (by omega) rfl, _, rfl⟩)

set_option maxHeartbeats 400000 in
theorem s_nz (A c : Int) (h0 : 0 ≤ A) (ha : A ≤ 4000000000000000000) (hc : 1 ≤ c) (hcm : c ≤ 4000000000000000000) (pA : 0 < A) (nA : -A < 0) (lA : (-4000000000000000000 : Int) ≤ -A) (mA : -A ≤ 4000000000000000000) (nzA : (-A != 0) = true) (w : World) :
    Calls Try.prog 11 #[.int .i64 (-A), .int .i64 0, .int .i64 c] w fun e w' => e = .returned (.tuple #[.int .i64 0, .bool true]) ∧ w' = w := by
  go_enter Try.func11, Try.ntmps11
  go_wp2_with (first | (go_at_call 28; refine (l1_yes A 0 c 0 0 (by simp) (by simp) h0 ha (by omega) (by omega) hc hcm (by omega) _).mono ?_; rintro e w' ⟨rfl, rfl⟩) | go_in)
  all_goals (go_ret2; exact ⟨ret2 (by omega) rfl, rfl⟩)

set_option maxHeartbeats 400000 in
theorem s_zn (B c : Int) (h0 : 0 ≤ B) (ha : B ≤ 4000000000000000000) (hc : 1 ≤ c) (hcm : c ≤ 4000000000000000000) (pB : 0 < B) (nB : -B < 0) (lB : (-4000000000000000000 : Int) ≤ -B) (mB : -B ≤ 4000000000000000000) (nzB : (-B != 0) = true) (w : World) :
    Calls Try.prog 11 #[.int .i64 0, .int .i64 (-B), .int .i64 c] w fun e w' => e = .returned (.tuple #[.int .i64 0, .bool true]) ∧ w' = w := by
  go_enter Try.func11, Try.ntmps11
  go_wp2_with (first | (go_at_call 28; refine (l1_yes 0 B c 0 0 (by simp) (by simp) (by omega) (by omega) h0 ha hc hcm (by omega) _).mono ?_; rintro e w' ⟨rfl, rfl⟩) | go_in)
  all_goals (go_ret2; exact ⟨ret2 (by omega) rfl, rfl⟩)

end Go.Proofs.Ytcdmabjebohlgab.Mu
