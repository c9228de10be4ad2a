/-
  Small draws with what they leave as it was; numbers drawn about a bound; when a drawn config is right.
-/
import Derived.Test.YtlalnlnnmlfbcaaRoom
import Derived.Test.YtlalnlnnmlfbcaaCfg2
import Derived.RegionTactic
namespace Go.Proofs.Ytlalnlnnmlfbcaa.Dr
open Go.ChangeShapes Go.WideShapes Go.ChangeAt Go.RowKit
open Cf (cfg CP CR AM N1 L1 R1 P1)
set_option linter.unusedVariables false
set_option linter.unusedSimpArgs false

theorem l1Below' (w0 : World) (B p : Nat) (a : Option Addr) (len cap : Nat) (n : Int) (hn : 0 < n) (hm : n ≤ 9223372036854775807) (w : World) (st : St w0 B p a len cap w) :
    Calls Try.prog 58 #[.pointer (some ⟨p, 0, none⟩), .int .i64 n] w fun e w' => (∃ x : Int, e = .returned (.int .i64 x) ∧ 0 ≤ x ∧ x < n) ∧ St w0 B p a len cap w' ∧ Step p w w' :=
  (l1Below w B p a len cap n hn hm w st.here).mono fun e w' ⟨h, s⟩ => ⟨h, St.on st.step s, s.step⟩
theorem l1Once' (w0 : World) (B p : Nat) (a : Option Addr) (len cap : Nat) (n : Int) (hn : 0 < n) (hm : n ≤ 9223372036854775807) (w : World) (st : St w0 B p a len cap w) :
    Calls Try.prog 40 #[.pointer (some ⟨p, 0, none⟩), .int .i64 n] w fun e w' => (∃ x : Bool, e = .returned (.bool x)) ∧ St w0 B p a len cap w' ∧ Step p w w' :=
  (l1Once w B p a len cap n hn hm w st.here).mono fun e w' ⟨h, s⟩ => ⟨h, St.on st.step s, s.step⟩
theorem l1Odd' (w0 : World) (B p : Nat) (a : Option Addr) (len cap : Nat) (w : World) (st : St w0 B p a len cap w) :
    Calls Try.prog 61 #[.pointer (some ⟨p, 0, none⟩)] w fun e w' => (∃ x : Int, e = .returned (.int .i64 x) ∧ -9223372036854775808 ≤ x ∧ x ≤ 9223372036854775807) ∧ St w0 B p a len cap w' ∧ Step p w w' :=
  (l1Odd w B p a len cap w st.here).mono fun e w' ⟨h, s⟩ => ⟨h, St.on st.step s, s.step⟩

set_option maxHeartbeats 2000000 in
theorem l1Num (w0 : World) (B p : Nat) (a : Option Addr) (len cap : Nat) (m : Int) (m0 : 0 ≤ m) (m1 : m ≤ 1000000000) (w : World) (st : St w0 B p a len cap w) :
    Calls Try.prog 62 #[.pointer (some ⟨p, 0, none⟩), .int .i64 m] w fun e w' => (∃ x : Int, e = .returned (.int .i64 x)) ∧ St w0 B p a len cap w' := by
  go_enter Try.func62, Try.ntmps62
  go_wp2_with fail
  refine (l1Once w0 B p a len cap 10 (by omega) (by omega) _ st).mono ?_
  rintro e w1 ⟨⟨t, rfl⟩, st1⟩
  cases t with
  | true =>
    go_wp2_with fail
    refine (l1Odd w0 B p a len cap _ st1).mono ?_
    rintro e w2 ⟨⟨y, rfl, y0, y1⟩, st2⟩
    go_wp2_with fail
    refine (l1Below _ B p a len cap 4 (by omega) (by omega) _ (st2.alloc _ _).here).mono ?_
    rintro e w3 ⟨⟨x, rfl, x0, x1⟩, st3⟩
    obtain ⟨k, rfl⟩ := Int.eq_ofNat_of_zero_le x0
    have hc := lit_cell st2 st3.step k
    obtain ⟨v, hv⟩ : ∃ v : Int, w3.cell? ⟨w2.heap.size, k, none⟩ = some (.int .i64 v) := by
      rw [hc]
      rcases (show k = 0 ∨ k = 1 ∨ k = 2 ∨ k = 3 by omega) with rfl | rfl | rfl | rfl
      all_goals exact ⟨_, rfl⟩
    clear hc
    have st4 := St.on ((st2.step.alloc _)) st3
    go_wp2
    go_ret
    exact ⟨⟨_, rfl⟩, st4⟩
  | false =>
    go_wp2_with fail
    refine (l1Once w0 B p a len cap 2 (by omega) (by omega) _ st1).mono ?_
    rintro e w2 ⟨⟨t, rfl⟩, st2⟩
    cases t with
    | true =>
      have hm0 : 0 ≤ min m 4 := by omega
      have hm1 : min m 4 ≤ 4 := by omega
      go_wp2_with fail
      refine (Sp.l1Min m 4 _).mono ?_
      rintro e w3 ⟨rfl, rfl⟩
      generalize min m 4 = q at hm0 hm1 ⊢
      go_wp2_with fail
      refine (l1Below w0 B p a len cap _ (by omega) (by omega) _ st2).mono ?_
      rintro e w4 ⟨⟨x, rfl, x0, x1⟩, st4⟩
      go_wp2
      go_ret
      exact ⟨⟨_, rfl⟩, st4⟩
    | false =>
      go_wp2_with fail
      refine (l1Below w0 B p a len cap _ (by omega) (by omega) _ st2).mono ?_
      rintro e w4 ⟨⟨x, rfl, x0, x1⟩, st4⟩
      go_wp2
      go_ret
      exact ⟨⟨_, rfl⟩, st4⟩

theorem l1Num' (w0 : World) (B p : Nat) (a : Option Addr) (len cap : Nat) (m : Int) (m0 : 0 ≤ m) (m1 : m ≤ 1000000000) (w : World) (st : St w0 B p a len cap w) :
    Calls Try.prog 62 #[.pointer (some ⟨p, 0, none⟩), .int .i64 m] w fun e w' => (∃ x : Int, e = .returned (.int .i64 x)) ∧ St w0 B p a len cap w' ∧ Step p w w' :=
  (l1Num w B p a len cap m m0 m1 w st.here).mono fun e w' ⟨h, s⟩ => ⟨h, St.on st.step s, s.step⟩

abbrev zeros : List Value := [.int .i64 0, .int .i64 0, .int .i64 0, .int .i64 0, .int .i64 0, .int .i64 0]
abbrev nums (n l d r p s : Int) : List Value := [.int .i64 n, .int .i64 l, .int .i64 d, .int .i64 r, .int .i64 p, .int .i64 s]
theorem right {n l d r p s y : Int} (n1 : 1 ≤ n) (n2 : n ≤ 16) (l1 : 0 ≤ l) (l2 : 3 * l + 1 ≤ n) (d1 : 0 ≤ d) (d2 : d ≤ 1000000) (r1 : 0 ≤ r) (r2 : r ≤ 1000000) (s1 : 2 ≤ s) (s2 : s ≤ 100000) (y0 : 0 ≤ y) (y1 : y < 100) (hp : p = (4 * d + 5 * r + 2) * s + y) : CP n l d r p s = 0 := by
  subst hp
  refine Cf.cp_zero.2 ⟨Cf.cr_zero.2 ⟨Cf.n1_iff.2 ⟨n1, n2⟩, Cf.l1_iff.2 ⟨l1, l2⟩, Cf.r1_iff.2 ⟨⟨d1, d2⟩, ⟨r1, r2⟩, s1, s2⟩⟩, ?_⟩
  have q := Cf.prod (g := 4 * d + 5 * r + 2) (s := s) (by omega) (by omega) s1 s2
  have q2 : 1 ≤ (4 * d + 5 * r + 2) * s := by
    have : 2 * s ≤ (4 * d + 5 * r + 2) * s := Int.mul_le_mul_of_nonneg_right (by omega) (by omega)
    omega
  unfold P1
  rw [Cf.pe_iff.2 ⟨by omega, by omega⟩, Bool.true_and]
  exact decide_eq_true (by omega)

end Go.Proofs.Ytlalnlnnmlfbcaa.Dr
