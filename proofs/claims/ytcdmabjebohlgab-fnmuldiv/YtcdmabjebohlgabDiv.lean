/-
  The Go function math/bits.Div64, at the numbers that laws.FnExactMulDiv comes to.
-/
import Derived.Test.YtcdmabjebohlgabRows
import Derived.WalkKit
import Derived.ProofKit
import Derived.OpenShut
import Derived.Deep.QuietTactic
import Derived.BigQuiet
import Derived.Laws.Bits64b
import Derived.Test.YtcdmabjebohlgabMd
import Derived.Test.YtcdmabjebohlgabBits
namespace Go.Proofs.Ytcdmabjebohlgab.Dv
open Go.ChangeShapes Go.WideShapes Go.ChangeAt Go.RowKit
open Go.Proofs.Ytcdmabjebohlgab.Md

theorem maskI (a : Int) (h0 : 0 ≤ a) (h1 : a < 18446744073709551616) : bits .and .u64 a 4294967295 = a % 4294967296 := by
  obtain ⟨n, rfl⟩ := Int.eq_ofNat_of_zero_le h0
  rw [Bt.maskN n (by omega)]; omega

theorem orI (a b : Int) (s : Nat) (h0 : 0 ≤ a) (h1 : a * 2 ^ s < 18446744073709551616) (h2 : 0 ≤ b) (h3 : b < 2 ^ s) (h4 : s ≤ 63) : bits .or .u64 (a * 2 ^ s) b = a * 2 ^ s + b := by
  obtain ⟨m, rfl⟩ := Int.eq_ofNat_of_zero_le h0
  obtain ⟨n, rfl⟩ := Int.eq_ofNat_of_zero_le h2
  have hp : (2 : Int) ^ s ≤ 2 ^ 63 := pow2_le h4
  have h3' : n < 2 ^ s := by exact_mod_cast h3
  have e : (m : Int) * 2 ^ s = ((2 ^ s * m : Nat) : Int) := by simp [Int.natCast_mul, Int.natCast_pow, Int.mul_comm]
  rw [e] at h1 ⊢
  rw [bits_or_u64_nat _ _ (by omega) (by omega), ← Nat.two_pow_add_eq_or_of_lt h3' m]
  omega

/-- What is left, as the words wrap. -/
theorem left_wrap {U d Y y1 y0 : Int} (f : Fit U d Y y1 y0) (hY : Y < 18446744073709551616) :
    IntKind.u64.wrap (IntKind.u64.wrap (IntKind.u64.wrap (U * 4294967296) + d) - IntKind.u64.wrap (Q3 U d Y * Y)) = U * 4294967296 + d - Q3 U d Y * Y := by
  have h := q3_rem f
  simp only [IntKind.wrap_u64]
  generalize Q3 U d Y * Y = Z at *
  omega

/-- The words behind the shift. -/
theorem words (hi lo y : Int) (s : Nat) (h0 : 0 ≤ hi) (h1 : hi < y) (h2 : 0 ≤ lo) (h3 : lo ≤ 18446744073709551615) (s1 : 1 ≤ s) (s2 : s ≤ 63) (s3 : 9223372036854775808 ≤ y * 2 ^ s) (s4 : y * 2 ^ s < 18446744073709551616) :
    ∃ U V : Int, IntKind.u64.wrap (lo * 2 ^ s) = V ∧ bits .or .u64 (IntKind.u64.wrap (hi * 2 ^ s)) (lo / 2 ^ (64 - s)) = U ∧ 0 ≤ V ∧ V < 18446744073709551616 ∧
      U * 18446744073709551616 + V = (hi * 18446744073709551616 + lo) * 2 ^ s ∧ Fit U (V / 4294967296) (y * 2 ^ s) (y * 2 ^ s / 4294967296) (y * 2 ^ s % 4294967296) ∧ 0 ≤ U ∧ U < y * 2 ^ s := by
  have hST : (2 : Int) ^ s * 2 ^ (64 - s) = 18446744073709551616 := by
    rw [← Int.pow_add, show s + (64 - s) = 64 by omega]; decide
  obtain ⟨a0, a1, a2, a3, a4, a5⟩ := shifted (pow2_pos s) (pow2_pos (64 - s)) hST h0 h1 h2 h3 s4
  refine ⟨hi * 2 ^ s + lo / 2 ^ (64 - s), lo * 2 ^ s % 18446744073709551616, by rw [IntKind.wrap_u64], ?_, by omega, by omega, a4, ?_, by omega, a5⟩
  · rw [show IntKind.u64.wrap (hi * 2 ^ s) = hi * 2 ^ s by rw [IntKind.wrap_u64]; omega]
    exact orI hi _ s h0 a1 a2 a3 s2
  · generalize y * 2 ^ s = Y at *
    exact ⟨by omega, by omega, by omega, by omega, by omega, by omega, by omega, by omega, by omega⟩

theorem joined {U V Y d1 d0 q1 q0 U2 R : Int} (hV : V = d1 * 4294967296 + d0) (h1 : U * 4294967296 + d1 - q1 * Y = U2) (h2 : U2 * 4294967296 + d0 - q0 * Y = R) :
    U * 18446744073709551616 + V = (q1 * 4294967296 + q0) * Y + R := by
  rw [Int.add_mul, Int.mul_right_comm]
  omega

theorem starts {U d Y y1 y0 : Int} (f : Fit U d Y y1 y0) (_hY : Y < 18446744073709551616) :
    IntKind.u64.wrap (U.tdiv y1) = U / y1 ∧ IntKind.u64.wrap (U - IntKind.u64.wrap (U / y1 * y1)) = U - U / y1 * y1 := by
  have l := lp_start f
  obtain ⟨hY, h1, h2, h3, h4, h5, h6, h7, h8⟩ := f
  obtain ⟨l1, l2, l3, l4, l5, l6⟩ := l
  rw [Int.tdiv_eq_ediv_of_nonneg h5]
  simp only [IntKind.wrap_u64]
  generalize U / y1 * y1 = P at *
  omega

set_option maxHeartbeats 2000000 in
theorem div (hi lo y : Int) (h0 : 1 ≤ hi) (h1 : hi < y) (h2 : 0 ≤ lo) (h3 : lo ≤ 18446744073709551615) (h4 : y ≤ 4000000000000000000) (w : World) :
    Calls Try.prog 33 #[.int .u64 hi, .int .u64 lo, .int .u64 y] w fun e w' => e = .returned (.tuple #[.int .u64 ((hi * 18446744073709551616 + lo) / y), .int .u64 ((hi * 18446744073709551616 + lo) % y)]) ∧ w' = w := by
  have hh : (hi == 0) = false := by simp; omega
  have hy : (y == 0) = false := by simp; omega
  have k1 : ¬ y ≤ hi := by omega
  go_enter Try.func33, Try.ntmps33
  go_wp2_with (go_at_call 36; refine (Bt.leading _ (by omega) (by omega) _).mono ?_; rintro e w' ⟨⟨s, rfl, s1, s2, s3, s4⟩, rfl⟩)
  obtain ⟨U, V, eV, eU, v0, v1, eN, f1, u0, u1⟩ := words hi lo y s (by omega) h1 h2 h3 s1 s2 s3 s4
  have eT := two_digits (y := y) (pow2_pos s) eN (by omega)
  simp only [eV, eU, maskI (y * 2 ^ s) (by omega) (by omega), maskI V v0 v1]
  clear eV eU eN hh hy k1
  generalize y * 2 ^ s = Y at *
  have g1 := f1.h1
  have g2 := f1.h2
  have g3 := f1.h3
  have g4 := f1.h4
  have gq := lp_start f1
  generalize Y / 4294967296 = y1 at *
  generalize Y % 4294967296 = y0 at *
  obtain ⟨st1, st2⟩ := starts f1 s4
  simp only [st1, st2]
  clear st1 st2
  have hV : Hid (V = V / 4294967296 * 4294967296 + V % 4294967296) := by show _ = _; omega
  have vd0 : 0 ≤ V % 4294967296 := by omega
  have vd1 : V % 4294967296 < 4294967296 := by omega
  have vd2 : 0 ≤ V / 4294967296 := by omega
  have vd3 : V / 4294967296 < 4294967296 := by omega
  generalize V / 4294967296 = d1 at *
  generalize V % 4294967296 = d0 at *
  have q1b := q3_bd f1
  have eW := left_wrap f1 s4
  have rm := q3_rem f1
  obtain ⟨q1, hq1⟩ : ∃ q1, Q3 U d1 Y = q1 := ⟨_, rfl⟩
  have HQ : Hid (Q3 U d1 Y = q1) := hq1
  rw [hq1] at eW rm q1b
  clear hq1
  obtain ⟨U2, hU2⟩ : ∃ U2, U * 4294967296 + d1 - q1 * Y = U2 := ⟨_, rfl⟩
  have HU2 : Hid (U * 4294967296 + d1 - q1 * Y = U2) := hU2
  rw [hU2] at eW rm
  clear hU2
  obtain ⟨rm0, rm1⟩ := rm
  obtain ⟨qb0, qb1⟩ := q1b
  have f2 : Fit U2 d0 Y y1 y0 := ⟨f1.hY, f1.h1, f1.h2, f1.h3, f1.h4, rm0, rm1, vd0, vd1⟩
  obtain ⟨q0, hq0⟩ : ∃ q0, Q3 U2 d0 Y = q0 := ⟨_, rfl⟩
  have HQ0 : Hid (Q3 U2 d0 Y = q0) := hq0
  have eW2 := left_wrap f2 s4
  have rn := q3_rem f2
  have qc := q3_bd f2
  rw [hq0] at eW2 rn qc
  clear hq0
  obtain ⟨R2, hR2⟩ : ∃ R2, U2 * 4294967296 + d0 - q0 * Y = R2 := ⟨_, rfl⟩
  rw [hR2] at eW2 rn
  have eT2 := eT Y R2 q1 q0 rfl (joined hV.out HU2.out hR2) rn.1 rn.2
  have HT : Hid (_ ∧ _) := eT2
  clear eT eT2 hR2
  obtain ⟨rn0, rn1⟩ := rn
  obtain ⟨qc0, qc1⟩ := qc
  have st2 := (starts f2 s4).2
  have gq2 := lp_start f2
  go_loop [15, 16] (fun q r => ∃ Q R : Int, q = .int .u64 Q ∧ r = .int .u64 R ∧ Lp U d1 Y y1 Q R) (fun q _ => (intOf q).toNat)
  case atStart => exact ⟨_, _, rfl, rfl, gq⟩
  case round =>
    clear gq
    obtain ⟨Q, R, rfl, rfl, l⟩ := hrel
    have ⟨l1, l2, l3, l4, l5, l6⟩ := l
    clear l1 l4
    by_cases t1 : 4294967296 ≤ Q
    · by_cases t3 : 4294967296 ≤ R + y1
      · have e1 : Q - 1 = q1 := by rw [← HQ.out]; exact lp_break f1 l (.inl t1) t3
        go_wp2
        clear e1 t1 t3
        go_loop [18, 16] (fun q r => ∃ Q R : Int, q = .int .u64 Q ∧ r = .int .u64 R ∧ Lp U2 d0 Y y1 Q R) (fun q _ => (intOf q).toNat)
        case atStart => exact ⟨_, _, rfl, rfl, gq2⟩
        case round =>
          clear gq2 l l2 l3 l5 l6 eW
          obtain ⟨P, S, rfl, rfl, l⟩ := hrel
          have ⟨l1, l2, l3, l4, l5, l6⟩ := l
          clear l1 l4
          by_cases t1 : 4294967296 ≤ P
          · by_cases t3 : 4294967296 ≤ S + y1
            · have e2 : P - 1 = q0 := by rw [← HQ0.out]; exact lp_break f2 l (.inl t1) t3
              go_wp2
              go_ret2
              exact ⟨congrArg Ending.returned (by rw [HT.out.1, HT.out.2]; rfl), rfl⟩
            · have hn := lp_next f2 l (.inl t1) (by omega)
              go_wp2
              go_round
              case rel => exact ⟨_, _, rfl, rfl, hn⟩
              case measure => simp only [intOf]; omega
          · obtain ⟨p0, p1⟩ := prod_bd l5 (by omega) g3 g4
            by_cases t2 : 4294967296 * S + d0 < P * y0
            · by_cases t3 : 4294967296 ≤ S + y1
              · have e2 : P - 1 = q0 := by rw [← HQ0.out]; exact lp_break f2 l (.inr t2) t3
                go_wp2
                go_ret2
                exact ⟨congrArg Ending.returned (by rw [HT.out.1, HT.out.2]; rfl), rfl⟩
              · have hn := lp_next f2 l (.inr t2) (by omega)
                have m := (lp_more f2 l (.inr t2)).2
                go_wp2
                go_round
                case rel => exact ⟨_, _, rfl, rfl, hn⟩
                case measure => simp only [intOf]; omega
            · obtain rfl : P = q0 := by rw [← HQ0.out]; exact lp_done f2 l (by omega)
              go_wp2
              go_ret2
              exact ⟨congrArg Ending.returned (by rw [HT.out.1, HT.out.2]; rfl), rfl⟩
      · have hn := lp_next f1 l (.inl t1) (by omega)
        go_wp2
        go_round
        case rel => exact ⟨_, _, rfl, rfl, hn⟩
        case measure => simp only [intOf]; omega
    · obtain ⟨p0, p1⟩ := prod_bd l5 (by omega) g3 g4
      by_cases t2 : 4294967296 * R + d1 < Q * y0
      · by_cases t3 : 4294967296 ≤ R + y1
        · have e1 : Q - 1 = q1 := by rw [← HQ.out]; exact lp_break f1 l (.inr t2) t3
          go_wp2
          clear e1 t1 t2 t3 p0 p1
          go_loop [18, 16] (fun q r => ∃ Q R : Int, q = .int .u64 Q ∧ r = .int .u64 R ∧ Lp U2 d0 Y y1 Q R) (fun q _ => (intOf q).toNat)
          case atStart => exact ⟨_, _, rfl, rfl, gq2⟩
          case round =>
            clear gq2 l l2 l3 l5 l6 eW
            obtain ⟨P, S, rfl, rfl, l⟩ := hrel
            have ⟨l1, l2, l3, l4, l5, l6⟩ := l
            clear l1 l4
            by_cases t1 : 4294967296 ≤ P
            · by_cases t3 : 4294967296 ≤ S + y1
              · have e2 : P - 1 = q0 := by rw [← HQ0.out]; exact lp_break f2 l (.inl t1) t3
                go_wp2
                go_ret2
                exact ⟨congrArg Ending.returned (by rw [HT.out.1, HT.out.2]; rfl), rfl⟩
              · have hn := lp_next f2 l (.inl t1) (by omega)
                go_wp2
                go_round
                case rel => exact ⟨_, _, rfl, rfl, hn⟩
                case measure => simp only [intOf]; omega
            · obtain ⟨p0, p1⟩ := prod_bd l5 (by omega) g3 g4
              by_cases t2 : 4294967296 * S + d0 < P * y0
              · by_cases t3 : 4294967296 ≤ S + y1
                · have e2 : P - 1 = q0 := by rw [← HQ0.out]; exact lp_break f2 l (.inr t2) t3
                  go_wp2
                  go_ret2
                  exact ⟨congrArg Ending.returned (by rw [HT.out.1, HT.out.2]; rfl), rfl⟩
                · have hn := lp_next f2 l (.inr t2) (by omega)
                  have m := (lp_more f2 l (.inr t2)).2
                  go_wp2
                  go_round
                  case rel => exact ⟨_, _, rfl, rfl, hn⟩
                  case measure => simp only [intOf]; omega
              · obtain rfl : P = q0 := by rw [← HQ0.out]; exact lp_done f2 l (by omega)
                go_wp2
                go_ret2
                exact ⟨congrArg Ending.returned (by rw [HT.out.1, HT.out.2]; rfl), rfl⟩
        · have hn := lp_next f1 l (.inr t2) (by omega)
          have m := (lp_more f1 l (.inr t2)).2
          go_wp2
          go_round
          case rel => exact ⟨_, _, rfl, rfl, hn⟩
          case measure => simp only [intOf]; omega
      · obtain rfl : Q = q1 := by rw [← HQ.out]; exact lp_done f1 l (by omega)
        go_wp2
        clear t1 t2 p0 p1
        go_loop [18, 16] (fun q r => ∃ Q R : Int, q = .int .u64 Q ∧ r = .int .u64 R ∧ Lp U2 d0 Y y1 Q R) (fun q _ => (intOf q).toNat)
        case atStart => exact ⟨_, _, rfl, rfl, gq2⟩
        case round =>
          clear gq2 l l2 l3 l5 l6 eW
          obtain ⟨P, S, rfl, rfl, l⟩ := hrel
          have ⟨l1, l2, l3, l4, l5, l6⟩ := l
          clear l1 l4
          by_cases t1 : 4294967296 ≤ P
          · by_cases t3 : 4294967296 ≤ S + y1
            · have e2 : P - 1 = q0 := by rw [← HQ0.out]; exact lp_break f2 l (.inl t1) t3
              go_wp2
              go_ret2
              exact ⟨congrArg Ending.returned (by rw [HT.out.1, HT.out.2]; rfl), rfl⟩
            · have hn := lp_next f2 l (.inl t1) (by omega)
              go_wp2
              go_round
              case rel => exact ⟨_, _, rfl, rfl, hn⟩
              case measure => simp only [intOf]; omega
          · obtain ⟨p0, p1⟩ := prod_bd l5 (by omega) g3 g4
            by_cases t2 : 4294967296 * S + d0 < P * y0
            · by_cases t3 : 4294967296 ≤ S + y1
              · have e2 : P - 1 = q0 := by rw [← HQ0.out]; exact lp_break f2 l (.inr t2) t3
                go_wp2
                go_ret2
                exact ⟨congrArg Ending.returned (by rw [HT.out.1, HT.out.2]; rfl), rfl⟩
              · have hn := lp_next f2 l (.inr t2) (by omega)
                have m := (lp_more f2 l (.inr t2)).2
                go_wp2
                go_round
                case rel => exact ⟨_, _, rfl, rfl, hn⟩
                case measure => simp only [intOf]; omega
            · obtain rfl : P = q0 := by rw [← HQ0.out]; exact lp_done f2 l (by omega)
              go_wp2
              go_ret2
              exact ⟨congrArg Ending.returned (by rw [HT.out.1, HT.out.2]; rfl), rfl⟩

set_option maxHeartbeats 1000000 in
theorem div0 (lo y : Int) (h1 : 0 < y) (h2 : 0 ≤ lo) (h3 : lo ≤ 18446744073709551615) (h4 : y ≤ 4000000000000000000) (w : World) :
    Calls Try.prog 33 #[.int .u64 0, .int .u64 lo, .int .u64 y] w fun e w' => e = .returned (.tuple #[.int .u64 (lo / y), .int .u64 (lo % y)]) ∧ ∃ n, w' = w.drewN n := by
  have hy : (y == 0) = false := by simp; omega
  have k1 : ¬ y ≤ 0 := by omega
  go_enter Try.func33, Try.ntmps33
  go_wp2
  go_quiet (fail)
  go_wp2
  go_ret2
  exact ⟨rfl, _, rfl⟩
end Go.Proofs.Ytcdmabjebohlgab.Dv
