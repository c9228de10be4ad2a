/-
  The Go functions math/bits.Mul64, Len64 and LeadingZeros64, at the numbers that laws.FnExactMulDiv comes to.
-/
import Derived.Test.YtcdmabjebohlgabRows
import Derived.WalkKit
import Derived.ProofKit
import Derived.OpenShut
import Derived.Lib.Mul64
import Derived.Laws.Bits64b
import Derived.Lib.Small
import Derived.Lib.Walk
import Derived.Lib.BitFns
import Derived.Test.YtcdmabjebohlgabMd
namespace Go.Proofs.Ytcdmabjebohlgab.Bt
open Go.ChangeShapes Go.WideShapes Go.ChangeAt Go.RowKit
open Go.Proofs.Ytcdmabjebohlgab.Md

theorem maskN (a : Nat) (ha : a < 18446744073709551616) : bits .and .u64 (a : Int) 4294967295 = ((a % 4294967296 : Nat) : Int) := by
  have h := bits_and_u64_nat a 4294967295 ha (by omega)
  have e : a &&& 4294967295 = a % 4294967296 := Nat.and_two_pow_sub_one_eq_mod a 32
  rw [e] at h
  exact h
theorem divN (a : Nat) : (a : Int) / 4294967296 = ((a / 4294967296 : Nat) : Int) := by omega
theorem mulN (a b : Nat) : (a : Int) * (b : Int) = ((a * b : Nat) : Int) := (Int.natCast_mul a b).symm
theorem addN (a b : Nat) : (a : Int) + (b : Int) = ((a + b : Nat) : Int) := (Int.natCast_add a b).symm
theorem wrapN (a : Nat) (ha : a < 18446744073709551616) : IntKind.u64.wrap (a : Int) = (a : Int) := by rw [IntKind.wrap_u64]; omega
theorem wrapM (a : Nat) : IntKind.u64.wrap (a : Int) = ((a % 18446744073709551616 : Nat) : Int) := by rw [IntKind.wrap_u64]; omega

set_option maxHeartbeats 1000000 in
theorem mulNat (x y : Nat) (hx : x < 18446744073709551616) (hy : y < 18446744073709551616) (w : World) :
    Calls Try.prog 32 #[.int .u64 x, .int .u64 y] w fun e w' => e = .returned (.tuple #[.int .u64 ((x * y / 18446744073709551616 : Nat) : Int), .int .u64 ((x * y % 18446744073709551616 : Nat) : Int)]) ∧ w' = w := by
  obtain ⟨bd, bt, bw, hhi⟩ := Lib.mul64_hi x y hx hy
  have ba := Lib.half_mul_le (a := x / 4294967296) (b := y / 4294967296) (by omega) (by omega)
  have bb := Lib.half_mul_le (a := x / 4294967296) (b := y % 4294967296) (by omega) (by omega)
  have bc := Lib.half_mul_le (a := x % 4294967296) (b := y / 4294967296) (by omega) (by omega)
  have ba' : x / 4294967296 * (y / 4294967296) < 18446744073709551616 := by omega
  have bb' : x / 4294967296 * (y % 4294967296) < 18446744073709551616 := by omega
  have bc' : x % 4294967296 * (y / 4294967296) < 18446744073709551616 := by omega
  have bh1 : x / 4294967296 * (y / 4294967296) + (x / 4294967296 * (y % 4294967296) + x % 4294967296 * (y % 4294967296) / 4294967296) / 4294967296 < 18446744073709551616 := by omega
  have bh : x / 4294967296 * (y / 4294967296) + (x / 4294967296 * (y % 4294967296) + x % 4294967296 * (y % 4294967296) / 4294967296) / 4294967296 + ((x / 4294967296 * (y % 4294967296) + x % 4294967296 * (y % 4294967296) / 4294967296) % 4294967296 + x % 4294967296 * (y / 4294967296)) / 4294967296 < 18446744073709551616 := by omega
  go_enter Try.func32, Try.ntmps32
  go_wp2
  simp only [maskN x hx, maskN y hy, divN, mulN, addN, wrapN _ bd, wrapN _ bb', wrapN _ bt, maskN _ bt, wrapN _ bc', wrapN _ bw, wrapN _ ba', wrapN _ bh1, wrapN _ bh, wrapM (x * y)]
  rw [hhi]
  go_ret2
  exact ⟨rfl, rfl⟩

theorem mul (x y : Int) (h0 : 0 ≤ x) (hx : x ≤ 4000000000000000000) (h1 : 0 ≤ y) (hy : y ≤ 4000000000000000000) (w : World) :
    Calls Try.prog 32 #[.int .u64 x, .int .u64 y] w fun e w' => e = .returned (.tuple #[.int .u64 (x * y / 18446744073709551616), .int .u64 (x * y % 18446744073709551616)]) ∧ w' = w := by
  obtain ⟨m, rfl⟩ := Int.eq_ofNat_of_zero_le h0
  obtain ⟨n, rfl⟩ := Int.eq_ofNat_of_zero_le h1
  have h := mulNat m n (by omega) (by omega) w
  have e1 : ((m * n / 18446744073709551616 : Nat) : Int) = (m : Int) * n / 18446744073709551616 := by rw [← Int.natCast_mul]; omega
  have e2 : ((m * n % 18446744073709551616 : Nat) : Int) = (m : Int) * n % 18446744073709551616 := by rw [← Int.natCast_mul]; omega
  rw [e1, e2] at h
  exact h

/-- How many bits: what is shown of it. -/
theorem bitLen_bd : ∀ (k x : Nat), 2 ^ k ≤ x → x < 2 ^ (k + 1) → k < 64 → Lib.bitLen x = k + 1 := by
  intro k x h1 h2 hk
  have h3 : 2 ^ (k + 1) ≤ 2 ^ 64 := Nat.pow_le_pow_right (by decide) (by omega)
  have h4 : x / 2 ^ k = 1 := by
    rw [Nat.pow_succ] at h2
    exact Nat.div_eq_of_lt_le (by omega) (by omega)
  rw [Lib.bitLen_shift k x h1 (by omega), h4]
  have : Lib.bitLen 1 = 1 := by decide
  omega

theorem len_part (x b : Int) (n m : Nat) (hb0 : 0 ≤ b) (hb1 : b ≤ 255) (e : b.toNat = x.toNat / m) (hs : Lib.bitLen x.toNat = n + Lib.bitLen (x.toNat / m)) :
    (n : Int) + Lib.len8 b = Lib.bitLen x.toNat ∧ 0 ≤ Lib.len8 b ∧ Lib.len8 b ≤ 8 := by
  have l := Lib.bitLen_le8' b hb0 hb1
  rw [Lib.len8_of b hb0 hb1, hs, ← e]
  omega

set_option maxHeartbeats 4000000 in
set_option maxRecDepth 100000 in
theorem len (x : Int) (h0 : 0 ≤ x) (h1 : x ≤ 18446744073709551615) (w : World) :
    Calls Try.prog 38 #[.int .u64 x] w fun e w' => e = .returned (.int .i64 (Lib.bitLen x.toNat)) ∧ w' = w := by
  by_cases c3 : 4294967296 ≤ x
  · by_cases c2 : 65536 ≤ x / 4294967296
    · by_cases c1 : 256 ≤ x / 4294967296 / 65536
      · have b0 : 0 ≤ x / 4294967296 / 65536 / 256 := by omega
        have b1 : x / 4294967296 / 65536 / 256 ≤ 255 := by omega
        have k := len_part x (x / 4294967296 / 65536 / 256) 56 72057594037927936 b0 b1 (by omega) (Lib.bitLen_shift56 x.toNat (by omega) (by omega))
        have k0 : 0 ≤ Lib.len8 (x / 4294967296 / 65536 / 256) := by omega
        have k1 : Lib.len8 (x / 4294967296 / 65536 / 256) ≤ 8 := by omega
        have K0 : (56 : Int) + Lib.len8 (x / 4294967296 / 65536 / 256) = Lib.bitLen x.toNat := by omega
        have K : Hid ((56 : Int) + Lib.len8 (x / 4294967296 / 65536 / 256) = Lib.bitLen x.toNat) := K0
        clear k K0
        go_enter Try.func38, Try.ntmps38
        go_wp2
        go_ret
        exact ⟨congrArg Ending.returned (congrArg (Value.int IntKind.i64) (by have := K.out; omega)), rfl⟩
      · have b0 : 0 ≤ x / 4294967296 / 65536 := by omega
        have b1 : x / 4294967296 / 65536 ≤ 255 := by omega
        have k := len_part x (x / 4294967296 / 65536) 48 281474976710656 b0 b1 (by omega) (Lib.bitLen_shift48 x.toNat (by omega) (by omega))
        have k0 : 0 ≤ Lib.len8 (x / 4294967296 / 65536) := by omega
        have k1 : Lib.len8 (x / 4294967296 / 65536) ≤ 8 := by omega
        have K0 : (48 : Int) + Lib.len8 (x / 4294967296 / 65536) = Lib.bitLen x.toNat := by omega
        have K : Hid ((48 : Int) + Lib.len8 (x / 4294967296 / 65536) = Lib.bitLen x.toNat) := K0
        clear k K0
        go_enter Try.func38, Try.ntmps38
        go_wp2
        go_ret
        exact ⟨congrArg Ending.returned (congrArg (Value.int IntKind.i64) (by have := K.out; omega)), rfl⟩
    · by_cases c1 : 256 ≤ x / 4294967296
      · have b0 : 0 ≤ x / 4294967296 / 256 := by omega
        have b1 : x / 4294967296 / 256 ≤ 255 := by omega
        have k := len_part x (x / 4294967296 / 256) 40 1099511627776 b0 b1 (by omega) (Lib.bitLen_shift40 x.toNat (by omega) (by omega))
        have k0 : 0 ≤ Lib.len8 (x / 4294967296 / 256) := by omega
        have k1 : Lib.len8 (x / 4294967296 / 256) ≤ 8 := by omega
        have K0 : (40 : Int) + Lib.len8 (x / 4294967296 / 256) = Lib.bitLen x.toNat := by omega
        have K : Hid ((40 : Int) + Lib.len8 (x / 4294967296 / 256) = Lib.bitLen x.toNat) := K0
        clear k K0
        go_enter Try.func38, Try.ntmps38
        go_wp2
        go_ret
        exact ⟨congrArg Ending.returned (congrArg (Value.int IntKind.i64) (by have := K.out; omega)), rfl⟩
      · have b0 : 0 ≤ x / 4294967296 := by omega
        have b1 : x / 4294967296 ≤ 255 := by omega
        have k := len_part x (x / 4294967296) 32 4294967296 b0 b1 (by omega) (Lib.bitLen_shift32 x.toNat (by omega) (by omega))
        have k0 : 0 ≤ Lib.len8 (x / 4294967296) := by omega
        have k1 : Lib.len8 (x / 4294967296) ≤ 8 := by omega
        have K0 : (32 : Int) + Lib.len8 (x / 4294967296) = Lib.bitLen x.toNat := by omega
        have K : Hid ((32 : Int) + Lib.len8 (x / 4294967296) = Lib.bitLen x.toNat) := K0
        clear k K0
        go_enter Try.func38, Try.ntmps38
        go_wp2
        go_ret
        exact ⟨congrArg Ending.returned (congrArg (Value.int IntKind.i64) (by have := K.out; omega)), rfl⟩
  · by_cases c2 : 65536 ≤ x
    · by_cases c1 : 256 ≤ x / 65536
      · have b0 : 0 ≤ x / 65536 / 256 := by omega
        have b1 : x / 65536 / 256 ≤ 255 := by omega
        have k := len_part x (x / 65536 / 256) 24 16777216 b0 b1 (by omega) (Lib.bitLen_shift24 x.toNat (by omega) (by omega))
        have k0 : 0 ≤ Lib.len8 (x / 65536 / 256) := by omega
        have k1 : Lib.len8 (x / 65536 / 256) ≤ 8 := by omega
        have K0 : (24 : Int) + Lib.len8 (x / 65536 / 256) = Lib.bitLen x.toNat := by omega
        have K : Hid ((24 : Int) + Lib.len8 (x / 65536 / 256) = Lib.bitLen x.toNat) := K0
        clear k K0
        go_enter Try.func38, Try.ntmps38
        go_wp2
        go_ret
        exact ⟨congrArg Ending.returned (congrArg (Value.int IntKind.i64) (by have := K.out; omega)), rfl⟩
      · have b0 : 0 ≤ x / 65536 := by omega
        have b1 : x / 65536 ≤ 255 := by omega
        have k := len_part x (x / 65536) 16 65536 b0 b1 (by omega) (Lib.bitLen_shift16 x.toNat (by omega) (by omega))
        have k0 : 0 ≤ Lib.len8 (x / 65536) := by omega
        have k1 : Lib.len8 (x / 65536) ≤ 8 := by omega
        have K0 : (16 : Int) + Lib.len8 (x / 65536) = Lib.bitLen x.toNat := by omega
        have K : Hid ((16 : Int) + Lib.len8 (x / 65536) = Lib.bitLen x.toNat) := K0
        clear k K0
        go_enter Try.func38, Try.ntmps38
        go_wp2
        go_ret
        exact ⟨congrArg Ending.returned (congrArg (Value.int IntKind.i64) (by have := K.out; omega)), rfl⟩
    · by_cases c1 : 256 ≤ x
      · have b0 : 0 ≤ x / 256 := by omega
        have b1 : x / 256 ≤ 255 := by omega
        have k := len_part x (x / 256) 8 256 b0 b1 (by omega) (Lib.bitLen_shift8 x.toNat (by omega) (by omega))
        have k0 : 0 ≤ Lib.len8 (x / 256) := by omega
        have k1 : Lib.len8 (x / 256) ≤ 8 := by omega
        have K0 : (8 : Int) + Lib.len8 (x / 256) = Lib.bitLen x.toNat := by omega
        have K : Hid ((8 : Int) + Lib.len8 (x / 256) = Lib.bitLen x.toNat) := K0
        clear k K0
        go_enter Try.func38, Try.ntmps38
        go_wp2
        go_ret
        exact ⟨congrArg Ending.returned (congrArg (Value.int IntKind.i64) (by have := K.out; omega)), rfl⟩
      · have b0 : 0 ≤ x := by omega
        have b1 : x ≤ 255 := by omega
        have k := len_part x (x) 0 1 b0 b1 (by omega) (by simp)
        have k0 : 0 ≤ Lib.len8 (x) := by omega
        have k1 : Lib.len8 (x) ≤ 8 := by omega
        have K0 : (0 : Int) + Lib.len8 (x) = Lib.bitLen x.toNat := by omega
        have K : Hid ((0 : Int) + Lib.len8 (x) = Lib.bitLen x.toNat) := K0
        clear k K0
        go_enter Try.func38, Try.ntmps38
        go_wp2
        go_ret
        exact ⟨congrArg Ending.returned (congrArg (Value.int IntKind.i64) (by have := K.out; omega)), rfl⟩

/-- By how much y is shifted till its first bit is set. -/
theorem lead (y : Nat) (h0 : 1 ≤ y) (h1 : y ≤ 4000000000000000000) : ∃ s : Nat, (64 : Int) - Lib.bitLen y = s ∧ 1 ≤ s ∧ s ≤ 63 ∧ 9223372036854775808 ≤ (y : Int) * 2 ^ s ∧ (y : Int) * 2 ^ s < 18446744073709551616 := by
  have l1 : 2 ^ y.log2 ≤ y := Nat.log2_self_le (by omega)
  have l2 : y < 2 ^ (y.log2 + 1) := Nat.lt_log2_self
  have l3 : y.log2 < 62 := by
    have : y < 2 ^ 62 := by omega
    exact (Nat.log2_lt (by omega)).2 this
  have l4 := bitLen_bd y.log2 y l1 l2 (by omega)
  generalize y.log2 = k at *
  refine ⟨63 - k, by omega, by omega, by omega, ?_⟩
  have e1 : 2 ^ k * 2 ^ (63 - k) = 9223372036854775808 := by rw [← Nat.pow_add, show k + (63 - k) = 63 by omega]
  have e2 : 2 ^ (k + 1) * 2 ^ (63 - k) = 18446744073709551616 := by rw [← Nat.pow_add, show k + 1 + (63 - k) = 64 by omega]
  have m1 : 2 ^ k * 2 ^ (63 - k) ≤ y * 2 ^ (63 - k) := Nat.mul_le_mul_right _ l1
  have m2 : y * 2 ^ (63 - k) < 2 ^ (k + 1) * 2 ^ (63 - k) := Nat.mul_lt_mul_of_pos_right l2 (Nat.pow_pos (by decide))
  have e3 : ((y * 2 ^ (63 - k) : Nat) : Int) = (y : Int) * 2 ^ (63 - k) := by simp [Int.natCast_mul, Int.natCast_pow]
  rw [← e3]
  omega

set_option maxHeartbeats 400000 in
theorem leading (y : Int) (h0 : 1 ≤ y) (h1 : y ≤ 4000000000000000000) (w : World) :
    Calls Try.prog 36 #[.int .u64 y] w fun e w' => (∃ s : Nat, e = .returned (.int .i64 (s : Int)) ∧ 1 ≤ s ∧ s ≤ 63 ∧ 9223372036854775808 ≤ y * 2 ^ s ∧ y * 2 ^ s < 18446744073709551616) ∧ w' = w := by
  obtain ⟨n, rfl⟩ := Int.eq_ofNat_of_zero_le (show 0 ≤ y by omega)
  obtain ⟨s, e, s1, s2, s3, s4⟩ := lead n (by omega) (by omega)
  have E : Hid ((64 : Int) - Lib.bitLen n = s) := e
  have c1 : (Lib.bitLen n : Int) ≤ 63 := by omega
  clear e
  go_enter Try.func36, Try.ntmps36
  go_wp2_with (go_at_call 38; refine (len _ (by omega) (by omega) _).mono ?_; rintro e w' ⟨rfl, rfl⟩)
  go_ret
  exact ⟨⟨s, congrArg Ending.returned (congrArg (Value.int IntKind.i64) E.out), s1, s2, s3, s4⟩, rfl⟩

end Go.Proofs.Ytcdmabjebohlgab.Bt
