/-
  spec.l6Row, spec.l6Rows: whether a row, whether all rows, are as long as they should be and lie within what they may.
-/
import Derived.Test.YtcgcmceobmpdiaaGreatSWok
import Derived.Test.YtcgcmceobmpdiaaGreatSps
namespace Go.Proofs.YtcgcmceobmpdiaaGreat.Tu
open Go.ChangeShapes Go.WideShapes Go.ChangeAt Go.RowKit
open Ls (el Row)
open Sp (LK)
open Wl (allIn all_no)
open Ss (RowsAt ln rw_)
set_option linter.unusedVariables false
set_option linter.unusedSimpArgs false

/-- A row of n numbers that all lie within. -/
def R1 (most : Int) (n : Nat) (zs : List Int) : Bool := (zs.length == n) && allIn (-most) most zs n
/-- The first k rows are right. -/
def rowsK (most : Int) (n : Nat) (zss : List (List Int)) : Nat → Bool
  | 0 => true
  | k + 1 => rowsK most n zss k && R1 most n (rw_ zss k)
def RS (most : Int) (n : Nat) (zss : List (List Int)) : Bool := (zss.length == n) && rowsK most n zss n
theorem rows_no {most : Int} {n : Nat} {zss : List (List Int)} {k : Nat} (h : rowsK most n zss (k + 1) = false) : ∀ m, k < m → rowsK most n zss m = false := by
  intro m hm
  obtain ⟨d, rfl⟩ : ∃ d, m = k + 1 + d := ⟨m - (k + 1), by omega⟩
  clear hm
  induction d with
  | zero => exact h
  | succ d ih => show (rowsK most n zss (k + 1 + d) && _) = false; rw [ih]; rfl

set_option maxHeartbeats 1000000 in
theorem l6Row (a : Option Addr) (m cap n : Nat) (zs : List Int) (most : Int) (w : World) (hr : Row w w.heap.size a m zs) (hn : n ≤ 1048576) (h0 : 0 ≤ most) (h1 : most ≤ 1000000000000000) :
    Calls Tryz.prog 57 #[.slice a m cap, .int .i64 n, .int .i64 most] w fun e w' => e = .returned (.bool (R1 most n zs)) ∧ w' = w := by
  obtain ⟨hz, hrow⟩ := hr
  by_cases hm : m = n
  · subst hm
    have E0 : Hid (R1 most m zs = allIn (-most) most zs m) := by unfold Hid R1; simp [hz]
    go_enter Tryz.func57, Tryz.ntmps57
    go_wp2
    go_loop [7] (fun i => ∃ k : Nat, k ≤ m ∧ i = .int .i64 k ∧ Hid (allIn (-most) most zs k = true)) (fun i => m - (intOf i).toNat)
    case atStart => exact ⟨0, Nat.zero_le _, rfl, rfl⟩
    case round =>
      obtain ⟨k, hk, rfl, HT⟩ := hrel
      by_cases hlt : k < m
      · have hi : (k : Int) < m := by omega
        rcases hrow with hrow | ⟨b, off, rfl, hB, hc⟩
        · omega
        have hc1 := hc k hlt
        cases hx : LK (-most) most (el zs k) with
        | true =>
          have E : Hid (false = R1 most m zs) := by unfold Hid; rw [E0.out]; exact (all_no (k := k) (by rw [allIn, hx]; simp) m hlt).symm
          go_wp2_with (go_at_call 36; refine (Sp.s_l1In _ _ _ _).mono ?_; rintro e w2 ⟨rfl, rfl⟩)
          go_ret
          exact ⟨Sp.retb E.out, rfl⟩
        | false =>
          have HN : Hid (allIn (-most) most zs (k + 1) = true) := by unfold Hid; rw [allIn, hx, HT.out]; rfl
          go_wp2_with (go_at_call 36; refine (Sp.s_l1In _ _ _ _).mono ?_; rintro e w2 ⟨rfl, rfl⟩)
          go_round
          case rel => exact ⟨k + 1, by omega, by go_num, HN⟩
          case measure => simp [intOf]; omega
      · have hi : ¬ (k : Int) < m := by omega
        have e : k = m := by omega
        subst e
        go_wp2
        go_ret
        exact ⟨Sp.retb (by rw [E0.out, HT.out]), rfl⟩
  · have h2 : ((m : Int) != (n : Int)) = true := by simp; omega
    have E : Hid (false = R1 most n zs) := by
      unfold Hid R1
      have : (zs.length == n) = false := by rw [beq_eq_false_iff_ne]; omega
      rw [this]; rfl
    go_enter Tryz.func57, Tryz.ntmps57
    go_wp2
    go_ret
    exact ⟨Sp.retb E.out, rfl⟩

set_option maxHeartbeats 1000000 in
theorem l6Rows (a : Option Addr) (m cap n : Nat) (zss : List (List Int)) (most : Int) (w : World) (hr : RowsAt w w.heap.size a m zss) (hn : n ≤ 1048576) (h0 : 0 ≤ most) (h1 : most ≤ 1000000000000000) :
    Calls Tryz.prog 58 #[.slice a m cap, .int .i64 n, .int .i64 most] w fun e w' => e = .returned (.bool (RS most n zss)) ∧ w' = w := by
  obtain ⟨hz, hrow⟩ := hr
  by_cases hm : m = n
  · subst hm
    have E0 : Hid (RS most m zss = rowsK most m zss m) := by unfold Hid RS; simp [hz]
    go_enter Tryz.func58, Tryz.ntmps58
    go_wp2
    go_loop [7] (fun i => ∃ k : Nat, k ≤ m ∧ i = .int .i64 k ∧ Hid (rowsK most m zss k = true)) (fun i => m - (intOf i).toNat)
    case atStart => exact ⟨0, Nat.zero_le _, rfl, rfl⟩
    case round =>
      obtain ⟨k, hk, rfl, HT⟩ := hrel
      by_cases hlt : k < m
      · have hi : (k : Int) < m := by omega
        rcases hrow with hrow | ⟨b, off, rfl, hB, hc⟩
        · omega
        obtain ⟨ak, ck, hc1, hc2⟩ := hc k hlt
        cases hx : R1 most m (rw_ zss k) with
        | false =>
          have E : Hid (false = RS most m zss) := by unfold Hid; rw [E0.out]; exact (rows_no (k := k) (by rw [rowsK, hx]; simp) m hlt).symm
          go_wp2_with fail
          refine (l6Row ak (ln zss k) ck m (rw_ zss k) most _ hc2 hn h0 h1).mono ?_
          rintro e w ⟨rfl, rfl⟩
          rw [hx]
          go_wp2
          go_ret
          exact ⟨Sp.retb E.out, rfl⟩
        | true =>
          have HN : Hid (rowsK most m zss (k + 1) = true) := by unfold Hid; rw [rowsK, hx, HT.out]; rfl
          go_wp2_with fail
          refine (l6Row ak (ln zss k) ck m (rw_ zss k) most _ hc2 hn h0 h1).mono ?_
          rintro e w ⟨rfl, rfl⟩
          rw [hx]
          go_wp2
          go_round
          case rel => exact ⟨k + 1, by omega, by go_num, HN⟩
          case measure => simp [intOf]; omega
      · have hi : ¬ (k : Int) < m := by omega
        have e : k = m := by omega
        subst e
        go_wp2
        go_ret
        exact ⟨Sp.retb (by rw [E0.out, HT.out]), rfl⟩
  · have h2 : ((m : Int) != (n : Int)) = true := by simp; omega
    have E : Hid (false = RS most n zss) := by
      unfold Hid RS
      have : (zss.length == n) = false := by rw [beq_eq_false_iff_ne]; omega
      rw [this]; rfl
    go_enter Tryz.func58, Tryz.ntmps58
    go_wp2
    go_ret
    exact ⟨Sp.retb E.out, rfl⟩

end Go.Proofs.YtcgcmceobmpdiaaGreat.Tu
