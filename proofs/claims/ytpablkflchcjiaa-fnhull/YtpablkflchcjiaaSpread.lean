/-
  The Go functions SpreadOf of impl and of spec by one answer, at every list of up to 1048576 int64s; each writes nothing that was there ahead of it.
-/
import Derived.Test.YtpablkflchcjiaaHull
namespace Go.Proofs.Ytpablkflchcjiaa.Sr
open Go.ChangeShapes Go.WideShapes Go.ChangeAt Go.RowKit
open Ad (Tm)
open Ls (el Row)
open Sp (span pk)
open Hu (mnK mxK tmK HT)
set_option linter.unusedVariables false

theorem mm_tm {zs : List Int} : ∀ k, tmK zs (k + 1) = true → Tm (mnK zs (k + 1)) ∧ Tm (mxK zs (k + 1)) := by
  intro k
  induction k with
  | zero =>
    intro h
    rw [Hu.mn1, Hu.mx1]
    have : decide (Tm (el zs 0)) = true := by
      have h2 : (true && decide (Tm (el zs 0))) = true := h
      simpa using h2
    exact ⟨of_decide_eq_true this, of_decide_eq_true this⟩
  | succ k ih =>
    intro h
    have h2 : (tmK zs (k + 1) && decide (Tm (el zs (k + 1)))) = true := h
    rw [Bool.and_eq_true] at h2
    obtain ⟨i1, i2⟩ := ih h2.1
    have h3 := of_decide_eq_true h2.2
    have e1 : mnK zs (k + 1 + 1) = min (mnK zs (k + 1)) (el zs (k + 1)) := rfl
    have e2 : mxK zs (k + 1 + 1) = max (mxK zs (k + 1)) (el zs (k + 1)) := rfl
    rw [e1, e2]
    unfold Tm at *
    omega

theorem pk_tm {zs : List Int} {n : Nat} (h0 : 0 < n) : Tm (pk (HT zs n) (mnK zs n)) ∧ Tm (pk (HT zs n) (mxK zs n)) := by
  rw [Hu.ht_n h0]
  cases h : tmK zs n with
  | false => rw [Sp.pk_f, Sp.pk_f]; exact ⟨⟨by decide, by decide⟩, ⟨by decide, by decide⟩⟩
  | true =>
    obtain ⟨k, rfl⟩ : ∃ k, n = k + 1 := ⟨n - 1, by omega⟩
    exact mm_tm k h

/-- How far the hull's ends are apart; -1 where there is none, or it is no time. -/
def SO (zs : List Int) (n : Nat) : Int :=
  if n = 0 then 0 else if HT zs n = true ∧ Ad.ST (mxK zs n) (mnK zs n) = true then Ad.SV (mxK zs n) (mnK zs n) else -1

theorem so_0 (zs : List Int) : SO zs 0 = 0 := rfl
theorem so_no {zs : List Int} {n : Nat} (h : 0 < n) (h1 : HT zs n = false) : SO zs n = -1 := by
  rw [SO, if_neg (by omega), h1]; rfl
theorem so_yes {zs : List Int} {n : Nat} (h : 0 < n) (h1 : HT zs n = true) (h2 : Ad.ST (mxK zs n) (mnK zs n) = true) : SO zs n = Ad.SV (mxK zs n) (mnK zs n) := by
  rw [SO, if_neg (by omega), if_pos ⟨h1, h2⟩]
theorem so_far {zs : List Int} {n : Nat} (h : 0 < n) (h2 : Ad.ST (mxK zs n) (mnK zs n) = false) : SO zs n = -1 := by
  rw [SO, if_neg (by omega), h2]; simp

theorem st_00 : Ad.ST 0 0 = true := by decide
theorem sv_00 : Ad.SV 0 0 = 0 := by decide

set_option maxHeartbeats 1000000 in
theorem i_1 (a : Option Addr) (cap : Nat) (w : World) :
    Calls Try.prog 19 #[.slice a 0 cap] w fun e w' => e = .returned (.int .i64 0) ∧ Below w.heap.size w w' := by
  go_enter Try.func19, Try.ntmps19
  go_wp2
  go_ret
  exact ⟨rfl, Below.refl _ _⟩

set_option maxHeartbeats 1000000 in
theorem s_1 (a : Option Addr) (cap : Nat) (w : World) :
    Calls Try.prog 31 #[.slice a 0 cap] w fun e w' => e = .returned (.int .i64 0) ∧ Below w.heap.size w w' := by
  go_enter Try.func31, Try.ntmps31
  go_wp2
  go_ret
  exact ⟨rfl, Below.refl _ _⟩

set_option maxHeartbeats 1000000 in
theorem i_2 (a : Option Addr) (n cap : Nat) (zs : List Int) (w : World) (hr : Row w w.heap.size a n zs) (hn : n ≤ 1048576) (h0 : 0 < n) :
    Calls Try.prog 19 #[.slice a n cap] w fun e w' => e = .returned (.int .i64 (SO zs n)) ∧ Below w.heap.size w w' := by
  have h1 : ((n : Int) == 0) = false := by simp; omega
  have ⟨⟨b1, b2⟩, b3, b4⟩ := pk_tm (zs := zs) h0
  have key := Hu.i_Hull a n cap zs w hr hn
  cases hT : HT zs n with
  | false =>
    rw [hT, Sp.pk_f, Sp.pk_f] at key
    rw [so_no h0 hT]
    go_enter Try.func19, Try.ntmps19
    go_wp2_with fail
    refine key.mono ?_
    rintro e w2 ⟨rfl, hb2⟩
    have s2 := hb2.size
    go_wp2_with fail
    refine (Ad.is _ _ (by decide) (by decide) _).mono ?_
    rw [st_00, sv_00]
    rintro e w3 ⟨rfl, rfl⟩
    go_wp2
    go_ret
    exact ⟨rfl, by (repeat (first | exact Below.refl _ _ | assumption | refine Below.setCell ?_ (by first | omega | (simp <;> omega)) _ | refine Below.alloc ?_ (by first | omega | (simp <;> omega)) _ | refine Below.drew ?_ | refine below_drewN ?_ _))⟩
  | true =>
    rw [hT, Sp.pk_t, Sp.pk_t] at key
    rw [hT, Sp.pk_t] at b1 b2 b3 b4
    cases hS : Ad.ST (mxK zs n) (mnK zs n) with
    | true =>
      rw [so_yes h0 hT hS]
      go_enter Try.func19, Try.ntmps19
      go_wp2_with fail
      refine key.mono ?_
      rintro e w2 ⟨rfl, hb2⟩
      have s2 := hb2.size
      go_wp2_with fail
      refine (Ad.is _ _ (by omega) (by omega) _).mono ?_
      rw [hS]
      rintro e w3 ⟨rfl, rfl⟩
      go_wp2
      go_ret
      exact ⟨rfl, by (repeat (first | exact Below.refl _ _ | assumption | refine Below.setCell ?_ (by first | omega | (simp <;> omega)) _ | refine Below.alloc ?_ (by first | omega | (simp <;> omega)) _ | refine Below.drew ?_ | refine below_drewN ?_ _))⟩
    | false =>
      rw [so_far h0 hS]
      go_enter Try.func19, Try.ntmps19
      go_wp2_with fail
      refine key.mono ?_
      rintro e w2 ⟨rfl, hb2⟩
      have s2 := hb2.size
      go_wp2_with fail
      refine (Ad.is _ _ (by omega) (by omega) _).mono ?_
      rw [hS]
      rintro e w3 ⟨rfl, rfl⟩
      go_wp2
      go_ret
      exact ⟨rfl, by (repeat (first | exact Below.refl _ _ | assumption | refine Below.setCell ?_ (by first | omega | (simp <;> omega)) _ | refine Below.alloc ?_ (by first | omega | (simp <;> omega)) _ | refine Below.drew ?_ | refine below_drewN ?_ _))⟩

set_option maxHeartbeats 1000000 in
theorem s_2 (a : Option Addr) (n cap : Nat) (zs : List Int) (w : World) (hr : Row w w.heap.size a n zs) (hn : n ≤ 1048576) (h0 : 0 < n) :
    Calls Try.prog 31 #[.slice a n cap] w fun e w' => e = .returned (.int .i64 (SO zs n)) ∧ Below w.heap.size w w' := by
  have h1 : ((n : Int) == 0) = false := by simp; omega
  have ⟨⟨b1, b2⟩, b3, b4⟩ := pk_tm (zs := zs) h0
  have key := Hu.s_Hull a n cap zs w hr hn
  cases hT : HT zs n with
  | false =>
    rw [hT, Sp.pk_f, Sp.pk_f] at key
    rw [so_no h0 hT]
    go_enter Try.func31, Try.ntmps31
    go_wp2_with fail
    refine key.mono ?_
    rintro e w2 ⟨rfl, hb2⟩
    have s2 := hb2.size
    go_wp2_with fail
    refine (Ad.ss _ _ (by decide) (by decide) _).mono ?_
    rw [st_00, sv_00]
    rintro e w3 ⟨rfl, rfl⟩
    go_wp2
    go_ret
    exact ⟨rfl, by (repeat (first | exact Below.refl _ _ | assumption | refine Below.setCell ?_ (by first | omega | (simp <;> omega)) _ | refine Below.alloc ?_ (by first | omega | (simp <;> omega)) _ | refine Below.drew ?_ | refine below_drewN ?_ _))⟩
  | true =>
    rw [hT, Sp.pk_t, Sp.pk_t] at key
    rw [hT, Sp.pk_t] at b1 b2 b3 b4
    cases hS : Ad.ST (mxK zs n) (mnK zs n) with
    | true =>
      rw [so_yes h0 hT hS]
      go_enter Try.func31, Try.ntmps31
      go_wp2_with fail
      refine key.mono ?_
      rintro e w2 ⟨rfl, hb2⟩
      have s2 := hb2.size
      go_wp2_with fail
      refine (Ad.ss _ _ (by omega) (by omega) _).mono ?_
      rw [hS]
      rintro e w3 ⟨rfl, rfl⟩
      go_wp2
      go_ret
      exact ⟨rfl, by (repeat (first | exact Below.refl _ _ | assumption | refine Below.setCell ?_ (by first | omega | (simp <;> omega)) _ | refine Below.alloc ?_ (by first | omega | (simp <;> omega)) _ | refine Below.drew ?_ | refine below_drewN ?_ _))⟩
    | false =>
      rw [so_far h0 hS]
      go_enter Try.func31, Try.ntmps31
      go_wp2_with fail
      refine key.mono ?_
      rintro e w2 ⟨rfl, hb2⟩
      have s2 := hb2.size
      go_wp2_with fail
      refine (Ad.ss _ _ (by omega) (by omega) _).mono ?_
      rw [hS]
      rintro e w3 ⟨rfl, rfl⟩
      go_wp2
      go_ret
      exact ⟨rfl, by (repeat (first | exact Below.refl _ _ | assumption | refine Below.setCell ?_ (by first | omega | (simp <;> omega)) _ | refine Below.alloc ?_ (by first | omega | (simp <;> omega)) _ | refine Below.drew ?_ | refine below_drewN ?_ _))⟩

theorem i_SpreadOf (a : Option Addr) (n cap : Nat) (zs : List Int) (w : World) (hr : Row w w.heap.size a n zs) (hn : n ≤ 1048576) :
    Calls Try.prog 19 #[.slice a n cap] w fun e w' => e = .returned (.int .i64 (SO zs n)) ∧ Below w.heap.size w w' := by
  by_cases h0 : n = 0
  · subst h0
    exact i_1 a cap w
  · exact i_2 a n cap zs w hr hn (by omega)

theorem s_SpreadOf (a : Option Addr) (n cap : Nat) (zs : List Int) (w : World) (hr : Row w w.heap.size a n zs) (hn : n ≤ 1048576) :
    Calls Try.prog 31 #[.slice a n cap] w fun e w' => e = .returned (.int .i64 (SO zs n)) ∧ Below w.heap.size w w' := by
  by_cases h0 : n = 0
  · subst h0
    exact s_1 a cap w
  · exact s_2 a n cap zs w hr hn (by omega)

end Go.Proofs.Ytpablkflchcjiaa.Sr
