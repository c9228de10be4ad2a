/-
  impl.eachIn, impl.countNotUp, spec.l5Bad, spec.l5Off: whether all of a list lie in a span; how many of a list are not 0.
-/
import Derived.Test.YtcgcmceobmpdiaaGreatWl2
namespace Go.Proofs.YtcgcmceobmpdiaaGreat.Wl
open Go.ChangeShapes Go.WideShapes Go.ChangeAt Go.RowKit
open Ls (el Row)
open Rm (Room)
open Sp (span LK IN)
open Cf (cfg)
set_option linter.unusedVariables false

/-- The first k lie in the span. -/
def allIn (lo hi : Int) (zs : List Int) : Nat → Bool
  | 0 => true
  | k + 1 => allIn lo hi zs k && !LK lo hi (el zs k)
theorem all_no {lo hi : Int} {zs : List Int} {k : Nat} (h : allIn lo hi zs (k + 1) = false) : ∀ n, k < n → allIn lo hi zs n = false := by
  intro n hn
  obtain ⟨d, rfl⟩ : ∃ d, n = k + 1 + d := ⟨n - (k + 1), by omega⟩
  clear hn
  induction d with
  | zero => exact h
  | succ d ih => show (allIn lo hi zs (k + 1 + d) && _) = false; rw [ih]; rfl
theorem all_iff {lo hi : Int} {zs : List Int} {n : Nat} : allIn lo hi zs n = true ↔ ∀ k, k < n → LK lo hi (el zs k) = false := by
  induction n with
  | zero => simp [allIn]
  | succ n ih =>
    rw [allIn, Bool.and_eq_true, ih, Bool.not_eq_true']
    constructor
    · intro h k hk
      by_cases e : k = n
      · subst e; exact h.2
      · exact h.1 k (by omega)
    · intro h
      exact ⟨fun k hk => h k (by omega), h n (by omega)⟩

/-- How many of the first k are not 0. -/
def bad (zs : List Int) : Nat → Nat
  | 0 => 0
  | k + 1 => bad zs k + if el zs k = 0 then 0 else 1
theorem bad_le (zs : List Int) (k : Nat) : bad zs k ≤ k := by
  induction k with
  | zero => exact Nat.le_refl _
  | succ k ih => rw [bad]; split <;> omega

abbrev within (lo hi : Int) : Value := .func (Fn.func 63) #[span lo hi] #[]

set_option maxHeartbeats 1000000 in
theorem indexFunc (lo hi : Int) (a : Option Addr) (n cap : Nat) (zs : List Int) (w : World) (hr : Row w w.heap.size a n zs) (hn : n ≤ 1048576) :
    Calls Tryz.prog 74 #[.slice a n cap, within lo hi] w fun e w' => (∃ i : Int, e = .returned (.int .i64 i) ∧ decide (0 ≤ i) = !allIn lo hi zs n) ∧ Below w.heap.size w w' := by
  obtain ⟨hz, hrow⟩ := hr
  go_enter Tryz.func74, Tryz.ntmps74
  go_wp2
  go_loopw [8] (fun i w' => ∃ k : Nat, k ≤ n ∧ i = .int .i64 k ∧ allIn lo hi zs k = true ∧ Below w.heap.size w w') (fun i _ => n - (intOf i).toNat)
  case atStart => exact ⟨0, Nat.zero_le _, rfl, rfl, Below.refl _ _⟩
  case round =>
    obtain ⟨k, hk, rfl, ht, hb⟩ := hrel
    have hsz := hb.size
    by_cases hlt : k < n
    · have hi' : (k : Int) < n := by omega
      rcases hrow with hrow | ⟨b, off, rfl, hB, hc⟩
      · omega
      · have hc1 := hc k hlt
        rw [← hb.cell (p := ⟨b, off + k, none⟩) hB] at hc1
        cases hl : LK lo hi (el zs k) with
        | true =>
          have HF : Hid (allIn lo hi zs n = false) := all_no (k := k) (by show (allIn lo hi zs k && _) = false; rw [ht, hl]; rfl) n hlt
          go_wp2_with (go_at_call 63; refine (Sp.i_lacks _ _ _ _).mono ?_; rintro e w2 ⟨rfl, hb2⟩)
          go_ret
          exact ⟨⟨_, rfl, by rw [HF.out]; exact decide_eq_true (by omega)⟩, hb.trans (hb2.mono hsz)⟩
        | false =>
          have HT' : Hid (allIn lo hi zs (k + 1) = true) := by show (allIn lo hi zs k && _) = true; rw [ht, hl]; rfl
          go_wp2_with (go_at_call 63; refine (Sp.i_lacks _ _ _ _).mono ?_; rintro e w2 ⟨rfl, hb2⟩)
          go_roundw
          case rel => exact ⟨k + 1, by omega, by go_num, HT'.out, hb.trans (hb2.mono hsz)⟩
          case measure => simp [intOf]; omega
    · have hi' : ¬ (k : Int) < n := by omega
      have e : k = n := by omega
      subst e
      go_wp2
      go_ret
      exact ⟨⟨_, rfl, by first | omega | (rw [ht]; rfl)⟩, hb⟩

theorem containsFunc (lo hi : Int) (a : Option Addr) (n cap : Nat) (zs : List Int) (w : World) (hr : Row w w.heap.size a n zs) (hn : n ≤ 1048576) :
    Calls Tryz.prog 62 #[.slice a n cap, within lo hi] w fun e w' => e = .returned (.bool (!allIn lo hi zs n)) ∧ Below w.heap.size w w' := by
  go_enter Tryz.func62, Tryz.ntmps62
  go_wp2_with fail
  refine (indexFunc lo hi a n cap zs _ hr hn).mono ?_
  rintro e w2 ⟨⟨i, rfl, hi⟩, hb⟩
  go_wp2
  go_ret
  exact ⟨Sp.retb rfl, hb⟩

theorem eachIn (lo hi : Int) (a : Option Addr) (k cap : Nat) (zs : List Int) (n : Int) (w : World) (hr : Row w w.heap.size a k zs) (hn : k ≤ 1048576) :
    Calls Tryz.prog 47 #[span lo hi, .slice a k cap, .int .i64 n] w fun e w' => e = .returned (.bool (((k : Int) == n) && allIn lo hi zs k)) ∧ Below w.heap.size w w' := by
  cases hq : ((k : Int) == n) with
  | false =>
    go_enter Tryz.func47, Tryz.ntmps47
    go_wp2
    go_ret
    exact ⟨rfl, (Below.refl _ _).alloc (Nat.le_refl _) _⟩
  | true =>
    have B1 := (Below.refl w.heap.size w).alloc (Nat.le_refl _) (.cells #[.int .i64 lo, .int .i64 hi] 74)
    go_enter Tryz.func47, Tryz.ntmps47
    go_wp2_with fail
    refine (containsFunc lo hi a k cap zs _ ((hr.later B1 (Nat.le_refl _)).more B1.size) hn).mono ?_
    rintro e w2 ⟨rfl, hb⟩
    go_wp2
    go_ret
    exact ⟨Sp.retb (by simp), B1.trans (hb.mono B1.size)⟩

set_option maxHeartbeats 1000000 in
theorem countNotUp (a : Option Addr) (n cap : Nat) (zs : List Int) (w : World) (hr : Row w w.heap.size a n zs) (hn : n ≤ 1048576) :
    Calls Tryz.prog 49 #[.slice a n cap] w fun e w' => e = .returned (.int .i64 (bad zs n)) ∧ w' = w := by
  obtain ⟨hz, hrow⟩ := hr
  go_enter Tryz.func49, Tryz.ntmps49
  go_wp2
  go_loop [3, 8] (fun c i => ∃ k : Nat, k ≤ n ∧ i = .int .i64 k ∧ c = .int .i64 (bad zs k)) (fun _ i => n - (intOf i).toNat)
  case atStart => exact ⟨0, Nat.zero_le _, rfl, rfl⟩
  case round =>
    obtain ⟨k, hk, rfl, rfl⟩ := hrel
    have hbk := bad_le zs k
    by_cases hlt : k < n
    · have hi : (k : Int) < n := by omega
      rcases hrow with hrow | ⟨b, off, rfl, hB, hc⟩
      · omega
      have hc1 := hc k hlt
      by_cases h0 : el zs k = 0
      · have E : Hid (bad zs (k + 1) = bad zs k) := by show bad zs k + (if el zs k = 0 then 0 else 1) = bad zs k; rw [if_pos h0]; rfl
        have h1 : (el zs k != 0) = false := by simp [h0]
        go_wp2
        go_round
        case rel => exact ⟨k + 1, by omega, by go_num, by rw [E.out]⟩
        case measure => simp [intOf]; omega
      · have E : Hid (bad zs (k + 1) = bad zs k + 1) := by show bad zs k + (if el zs k = 0 then 0 else 1) = bad zs k + 1; rw [if_neg h0]
        have h1 : (el zs k != 0) = true := by simp [h0]
        go_wp2
        go_round
        case rel => exact ⟨k + 1, by omega, by go_num, by rw [E.out]; go_num⟩
        case measure => simp [intOf]; omega
    · have hi : ¬ (k : Int) < n := by omega
      have e : k = n := by omega
      subst e
      go_wp2
      go_ret
      exact ⟨rfl, rfl⟩

set_option maxHeartbeats 1000000 in
theorem l5Bad (a : Option Addr) (n cap : Nat) (zs : List Int) (w : World) (hr : Row w w.heap.size a n zs) (hn : n ≤ 1048576) :
    Calls Tryz.prog 38 #[.slice a n cap] w fun e w' => e = .returned (.int .i64 (bad zs n)) ∧ w' = w := by
  obtain ⟨hz, hrow⟩ := hr
  go_enter Tryz.func38, Tryz.ntmps38
  go_wp2
  go_loop [3, 4] (fun c i => ∃ k : Nat, k ≤ n ∧ i = .int .i64 k ∧ c = .int .i64 (bad zs k)) (fun _ i => n - (intOf i).toNat)
  case atStart => exact ⟨0, Nat.zero_le _, rfl, rfl⟩
  case round =>
    obtain ⟨k, hk, rfl, rfl⟩ := hrel
    have hbk := bad_le zs k
    by_cases hlt : k < n
    · have hi : (k : Int) < n := by omega
      rcases hrow with hrow | ⟨b, off, rfl, hB, hc⟩
      · omega
      have hc1 := hc k hlt
      by_cases h0 : el zs k = 0
      · have E : Hid (bad zs (k + 1) = bad zs k) := by show bad zs k + (if el zs k = 0 then 0 else 1) = bad zs k; rw [if_pos h0]; rfl
        have h1 : (el zs k != 0) = false := by simp [h0]
        go_wp2
        go_round
        case rel => exact ⟨k + 1, by omega, by go_num, by rw [E.out]⟩
        case measure => simp [intOf]; omega
      · have E : Hid (bad zs (k + 1) = bad zs k + 1) := by show bad zs k + (if el zs k = 0 then 0 else 1) = bad zs k + 1; rw [if_neg h0]
        have h1 : (el zs k != 0) = true := by simp [h0]
        go_wp2
        go_round
        case rel => exact ⟨k + 1, by omega, by go_num, by rw [E.out]; go_num⟩
        case measure => simp [intOf]; omega
    · have hi : ¬ (k : Int) < n := by omega
      have e : k = n := by omega
      subst e
      go_wp2
      go_ret
      exact ⟨rfl, rfl⟩

theorem l5Off (n : Int) (w : World) :
    Calls Tryz.prog 37 #[.int .i64 n] w fun e w' => e = .returned (.bool (!LK (-1000000000000000) 1000000000000000 n)) ∧ w' = w := by
  go_enter Tryz.func37, Tryz.ntmps37
  go_wp2_with fail
  refine (Sp.s_l1In _ _ _ _).mono ?_
  rintro e w ⟨rfl, rfl⟩
  go_wp2
  go_ret
  exact ⟨rfl, rfl⟩

end Go.Proofs.YtcgcmceobmpdiaaGreat.Wl
