/-
  The Go function impl.mulDivSizes tells a product by a divisor, capped, and whether there is a rest. For a, b from 0 and c from 1 to 4000000000000000000.
-/
import Derived.Test.YtcdmabjebohlgabRows
import Derived.WalkKit
import Derived.ProofKit
import Derived.OpenShut
import Derived.Test.YtcdmabjebohlgabMd
import Derived.Test.YtcdmabjebohlgabBits
import Derived.Test.YtcdmabjebohlgabDiv
namespace Go.Proofs.Ytcdmabjebohlgab.Sz
open Go.ChangeShapes Go.WideShapes Go.ChangeAt Go.RowKit
open Go.Proofs.Ytcdmabjebohlgab.Md
set_option linter.unusedVariables false

theorem mulE {a b H L : Int} (e1 : a * b / 18446744073709551616 = H) (e2 : a * b % 18446744073709551616 = L) (h0 : 0 ≤ a) (hx : a ≤ 4000000000000000000) (h1 : 0 ≤ b) (hy : b ≤ 4000000000000000000) (w : World) :
    Calls Try.prog 32 #[.int .u64 a, .int .u64 b] w fun e w' => e = .returned (.tuple #[.int .u64 H, .int .u64 L]) ∧ w' = w := by
  have := Bt.mul a b h0 hx h1 hy w
  rw [e1, e2] at this; exact this

theorem divE {H L y q r : Int} (e1 : (H * 18446744073709551616 + L) / y = q) (e2 : (H * 18446744073709551616 + L) % y = r) (h0 : 0 ≤ H) (h1 : H < y) (h2 : 0 ≤ L) (h3 : L ≤ 18446744073709551615) (h4 : y ≤ 4000000000000000000) (w : World) :
    Calls Try.prog 33 #[.int .u64 H, .int .u64 L, .int .u64 y] w fun e w' => e = .returned (.tuple #[.int .u64 q, .int .u64 r]) ∧ ∃ n, w' = w.drewN n := by
  by_cases h : H = 0
  · subst h
    have := Dv.div0 L y h1 h2 h3 h4 w
    simp only [Int.zero_mul, Int.zero_add] at e1 e2
    rw [e1, e2] at this; exact this
  · have := Dv.div H L y (by omega) h1 h2 h3 h4 w
    rw [e1, e2] at this
    exact this.mono fun e w' ⟨h, k⟩ => ⟨h, 0, k⟩

set_option maxHeartbeats 400000 in
/-- Where the high word is too great. -/
theorem far (a b c H L : Int) (e1 : Hid (a * b / 18446744073709551616 = H)) (e2 : Hid (a * b % 18446744073709551616 = L)) (h0 : 0 ≤ a) (ha : a ≤ 4000000000000000000) (hb0 : 0 ≤ b) (hb : b ≤ 4000000000000000000) (hc : 1 ≤ c) (hcm : c ≤ 4000000000000000000) (h : c ≤ H) (w : World) :
    Calls Try.prog 21 #[.int .u64 a, .int .u64 b, .int .u64 c] w fun e w' => e = .returned (.tuple #[.int .u64 4000000000000000001, .bool false]) ∧ ∃ n, w' = w.drewN n := by
  go_enter Try.func21, Try.ntmps21
  go_wp2_with (go_at_call 32; refine (mulE e1.out e2.out h0 ha hb0 hb _).mono ?_; rintro e w' ⟨rfl, rfl⟩)
  go_ret2
  exact ⟨rfl, 0, rfl⟩

set_option maxHeartbeats 400000 in
theorem near (a b c H L q r : Int) (e1 : Hid (a * b / 18446744073709551616 = H)) (e2 : Hid (a * b % 18446744073709551616 = L)) (e3 : Hid ((H * 18446744073709551616 + L) / c = q)) (e4 : Hid ((H * 18446744073709551616 + L) % c = r))
    (h0 : 0 ≤ a) (ha : a ≤ 4000000000000000000) (hb0 : 0 ≤ b) (hb : b ≤ 4000000000000000000) (hc : 1 ≤ c) (hcm : c ≤ 4000000000000000000) (hH : 0 ≤ H) (hL : 0 ≤ L) (hLm : L ≤ 18446744073709551615) (h : H < c) (hq0 : 0 ≤ q) (hq : q ≤ 4000000000000000001) (w : World) :
    Calls Try.prog 21 #[.int .u64 a, .int .u64 b, .int .u64 c] w fun e w' => e = .returned (.tuple #[.int .u64 q, .bool (r != 0)]) ∧ ∃ n, w' = w.drewN n := by
  go_enter Try.func21, Try.ntmps21
  go_wp2_with (first | (go_at_call 32; refine (mulE e1.out e2.out h0 ha hb0 hb _).mono ?_; rintro e w' ⟨rfl, rfl⟩) | (go_at_call 33; refine (divE e3.out e4.out hH h hL hLm hcm _).mono ?_; rintro e w' ⟨rfl, n, rfl⟩) | go_in)
  go_ret2
  exact ⟨rfl, _, rfl⟩

set_option maxHeartbeats 400000 in
theorem much (a b c H L q r : Int) (e1 : Hid (a * b / 18446744073709551616 = H)) (e2 : Hid (a * b % 18446744073709551616 = L)) (e3 : Hid ((H * 18446744073709551616 + L) / c = q)) (e4 : Hid ((H * 18446744073709551616 + L) % c = r))
    (h0 : 0 ≤ a) (ha : a ≤ 4000000000000000000) (hb0 : 0 ≤ b) (hb : b ≤ 4000000000000000000) (hc : 1 ≤ c) (hcm : c ≤ 4000000000000000000) (hH : 0 ≤ H) (hL : 0 ≤ L) (hLm : L ≤ 18446744073709551615) (h : H < c) (hq : 4000000000000000001 < q) (w : World) :
    Calls Try.prog 21 #[.int .u64 a, .int .u64 b, .int .u64 c] w fun e w' => e = .returned (.tuple #[.int .u64 4000000000000000001, .bool (r != 0)]) ∧ ∃ n, w' = w.drewN n := by
  go_enter Try.func21, Try.ntmps21
  go_wp2_with (first | (go_at_call 32; refine (mulE e1.out e2.out h0 ha hb0 hb _).mono ?_; rintro e w' ⟨rfl, rfl⟩) | (go_at_call 33; refine (divE e3.out e4.out hH h hL hLm hcm _).mono ?_; rintro e w' ⟨rfl, n, rfl⟩) | go_in)
  go_ret2
  exact ⟨rfl, _, rfl⟩

theorem parts (a b : Int) (h0 : 0 ≤ a) (hb0 : 0 ≤ b) : a * b / 18446744073709551616 * 18446744073709551616 + a * b % 18446744073709551616 = a * b ∧ 0 ≤ a * b / 18446744073709551616 ∧ 0 ≤ a * b % 18446744073709551616 ∧ a * b % 18446744073709551616 ≤ 18446744073709551615 := by
  have := Int.mul_nonneg h0 hb0
  generalize a * b = N at *
  omega

theorem yes (a b c : Int) (h0 : 0 ≤ a) (ha : a ≤ 4000000000000000000) (hb0 : 0 ≤ b) (hb : b ≤ 4000000000000000000) (hc : 1 ≤ c) (hcm : c ≤ 4000000000000000000) (hq : a * b / c ≤ 4000000000000000000) (w : World) :
    Calls Try.prog 21 #[.int .u64 a, .int .u64 b, .int .u64 c] w fun e w' => e = .returned (.tuple #[.int .u64 (a * b / c), .bool (a * b % c != 0)]) ∧ ∃ n, w' = w.drewN n := by
  obtain ⟨p1, p2, p3, p4⟩ := parts a b h0 hb0
  have hl : a * b / 18446744073709551616 < c := by
    refine (Int.ediv_lt_iff_lt_mul (by decide)).2 ?_
    have := (Int.ediv_lt_iff_lt_mul (a := a * b) (b := 4000000000000000001) (c := c) (by omega)).1 (by omega)
    omega
  exact near a b c _ _ _ _ rfl rfl (by show _ / _ = _; rw [p1]) (by show _ % _ = _; rw [p1]) h0 ha hb0 hb hc hcm p2 p3 p4 hl (Int.ediv_nonneg (Int.mul_nonneg h0 hb0) (by omega)) (by omega) w

theorem no (a b c : Int) (h0 : 0 ≤ a) (ha : a ≤ 4000000000000000000) (hb0 : 0 ≤ b) (hb : b ≤ 4000000000000000000) (hc : 1 ≤ c) (hcm : c ≤ 4000000000000000000) (hq : 4000000000000000000 < a * b / c) (w : World) :
    Calls Try.prog 21 #[.int .u64 a, .int .u64 b, .int .u64 c] w fun e w' => (∃ rest : Bool, e = .returned (.tuple #[.int .u64 4000000000000000001, .bool rest])) ∧ ∃ n, w' = w.drewN n := by
  obtain ⟨p1, p2, p3, p4⟩ := parts a b h0 hb0
  by_cases hl : a * b / 18446744073709551616 < c
  · by_cases hm : a * b / c = 4000000000000000001
    · exact (near a b c _ _ (a * b / c) (a * b % c) rfl rfl (by show _ / _ = _; rw [p1]) (by show _ % _ = _; rw [p1]) h0 ha hb0 hb hc hcm p2 p3 p4 hl (by omega) (by omega) w).mono fun e w' ⟨h, k⟩ => ⟨⟨(a * b % c != 0), by rw [h, hm]⟩, k⟩
    · exact (much a b c _ _ (a * b / c) _ rfl rfl (by show _ / _ = _; rw [p1]) rfl h0 ha hb0 hb hc hcm p2 p3 p4 hl (by omega) w).mono fun e w' ⟨h, k⟩ => ⟨⟨_, h⟩, k⟩
  · exact (far a b c _ _ rfl rfl h0 ha hb0 hb hc hcm (by omega) w).mono fun e w' ⟨h, k⟩ => ⟨⟨_, h⟩, k⟩

end Go.Proofs.Ytcdmabjebohlgab.Sz
