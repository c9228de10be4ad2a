/-
  The Go functions Hull of impl and of spec by one answer, at every list of up to 1048576 int64s; each writes nothing that was there ahead of it. · The Go functions SpreadOf of impl and of spec by one answer, at every list of up to 1048576 int64s; each writes nothing that was there ahead of it.
-/
import Derived.Test.YtcgcmceobmpdiaaGreatSpan
import Derived.Test.YtcgcmceobmpdiaaGreatBase
namespace Go.Proofs.YtcgcmceobmpdiaaGreat.Hu
open Go.ChangeShapes Go.WideShapes Go.ChangeAt Go.RowKit
open Ad (Tm)
open Ls (el Row)
open Sp (span pk OK LK)
set_option linter.unusedVariables false

/-- The least, the greatest of the first k. -/
def mnK (zs : List Int) : Nat → Int
  | 0 => el zs 0
  | k + 1 => min (mnK zs k) (el zs k)
def mxK (zs : List Int) : Nat → Int
  | 0 => el zs 0
  | k + 1 => max (mxK zs k) (el zs k)
/-- The first k are times. -/
def tmK (zs : List Int) : Nat → Bool
  | 0 => true
  | k + 1 => tmK zs k && decide (Tm (el zs k))
def HT (zs : List Int) (n : Nat) : Bool := !(n == 0) && tmK zs n

theorem mn1 (zs : List Int) : mnK zs 1 = el zs 0 := by unfold mnK mnK; omega
theorem mx1 (zs : List Int) : mxK zs 1 = el zs 0 := by unfold mxK mxK; omega
theorem tm_no {zs : List Int} {k : Nat} (h : tmK zs (k + 1) = false) : ∀ n, k < n → tmK zs n = false := by
  intro n hn
  obtain ⟨d, rfl⟩ : ∃ d, n = k + 1 + d := ⟨n - (k + 1), by omega⟩
  clear hn
  induction d with
  | zero => exact h
  | succ d ih => show (tmK zs (k + 1 + d) && _) = false; rw [ih]; rfl

set_option maxHeartbeats 1000000 in
theorem slices_Min (a : Option Addr) (n cap : Nat) (zs : List Int) (w : World) (hr : Row w w.heap.size a n zs) (hn : n ≤ 1048576) (h0 : 0 < n) :
    Calls Tryz.prog 90 #[.slice a n cap] w fun e w' => e = .returned (.int .i64 (mnK zs n)) ∧ w' = w := by
  obtain ⟨hz, hrow⟩ := hr
  rcases hrow with hrow | ⟨b, off, rfl, hB, hc⟩
  · omega
  · have hc0 := hc 0 h0
    rw [Nat.add_zero, ← mn1 zs] at hc0
    have hn1 : ¬ (n : Int) < 1 := by omega
    have hn0 : (0 : Int) < n := by omega
    go_enter Tryz.func90, Tryz.ntmps90
    go_wp2
    go_loop [3, 4] (fun m i => ∃ k : Nat, 1 ≤ k ∧ k ≤ n ∧ i = .int .i64 k ∧ m = .int .i64 (mnK zs k)) (fun _ i => n - (intOf i).toNat)
    case atStart => exact ⟨1, by omega, by omega, rfl, rfl⟩
    case round =>
      obtain ⟨k, hk1, hk, rfl, rfl⟩ := hrel
      by_cases hlt : k < n
      · have hi : (k : Int) < n := by omega
        have hc1 := hc k hlt
        have HS : Hid (mnK zs (k + 1) = min (mnK zs k) (el zs k)) := rfl
        by_cases hm : el zs k < mnK zs k
        · go_wp2
          go_round
          case rel => exact ⟨k + 1, by omega, by omega, by go_num, by rw [HS.out] <;> first | rfl | (rw [show min (mnK zs k) (el zs k) = el zs k by omega]) | (rw [show min (mnK zs k) (el zs k) = mnK zs k by omega])⟩
          case measure => simp [intOf]; omega
        · go_wp2
          go_round
          case rel => exact ⟨k + 1, by omega, by omega, by go_num, by rw [HS.out] <;> first | rfl | (rw [show min (mnK zs k) (el zs k) = mnK zs k by omega])⟩
          case measure => simp [intOf]; omega
      · have hi : ¬ (k : Int) < n := by omega
        have e : k = n := by omega
        subst e
        go_wp2
        go_ret
        exact ⟨rfl, rfl⟩

set_option maxHeartbeats 1000000 in
theorem slices_Max (a : Option Addr) (n cap : Nat) (zs : List Int) (w : World) (hr : Row w w.heap.size a n zs) (hn : n ≤ 1048576) (h0 : 0 < n) :
    Calls Tryz.prog 91 #[.slice a n cap] w fun e w' => e = .returned (.int .i64 (mxK zs n)) ∧ w' = w := by
  obtain ⟨hz, hrow⟩ := hr
  rcases hrow with hrow | ⟨b, off, rfl, hB, hc⟩
  · omega
  · have hc0 := hc 0 h0
    rw [Nat.add_zero, ← mx1 zs] at hc0
    have hn1 : ¬ (n : Int) < 1 := by omega
    have hn0 : (0 : Int) < n := by omega
    go_enter Tryz.func91, Tryz.ntmps91
    go_wp2
    go_loop [3, 4] (fun m i => ∃ k : Nat, 1 ≤ k ∧ k ≤ n ∧ i = .int .i64 k ∧ m = .int .i64 (mxK zs k)) (fun _ i => n - (intOf i).toNat)
    case atStart => exact ⟨1, by omega, by omega, rfl, rfl⟩
    case round =>
      obtain ⟨k, hk1, hk, rfl, rfl⟩ := hrel
      by_cases hlt : k < n
      · have hi : (k : Int) < n := by omega
        have hc1 := hc k hlt
        have HS : Hid (mxK zs (k + 1) = max (mxK zs k) (el zs k)) := rfl
        by_cases hm : mxK zs k < el zs k
        · go_wp2
          go_round
          case rel => exact ⟨k + 1, by omega, by omega, by go_num, by rw [HS.out] <;> first | rfl | (rw [show max (mxK zs k) (el zs k) = el zs k by omega]) | (rw [show max (mxK zs k) (el zs k) = mxK zs k by omega])⟩
          case measure => simp [intOf]; omega
        · go_wp2
          go_round
          case rel => exact ⟨k + 1, by omega, by omega, by go_num, by rw [HS.out] <;> first | rfl | (rw [show max (mxK zs k) (el zs k) = mxK zs k by omega])⟩
          case measure => simp [intOf]; omega
      · have hi : ¬ (k : Int) < n := by omega
        have e : k = n := by omega
        subst e
        go_wp2
        go_ret
        exact ⟨rfl, rfl⟩

abbrev times : Value := .func (Fn.func 63) #[span (-4000000000000000000) 4000000000000000000] #[]

theorem lk_tm (z : Int) : LK (-4000000000000000000) 4000000000000000000 z = !decide (Tm z) := by
  unfold LK Tm
  by_cases h1 : -4000000000000000000 ≤ z <;> by_cases h2 : z ≤ 4000000000000000000 <;> simp [h1, h2]

set_option maxHeartbeats 1000000 in
theorem indexFunc (a : Option Addr) (n cap : Nat) (zs : List Int) (w : World) (hr : Row w w.heap.size a n zs) (hn : n ≤ 1048576) :
    Calls Tryz.prog 74 #[.slice a n cap, times] w fun e w' => (∃ i : Int, e = .returned (.int .i64 i) ∧ decide (0 ≤ i) = !tmK zs n) ∧ Below w.heap.size w w' := by
  obtain ⟨hz, hrow⟩ := hr
  go_enter Tryz.func74, Tryz.ntmps74
  go_wp2
  go_loopw [8] (fun i w' => ∃ k : Nat, k ≤ n ∧ i = .int .i64 k ∧ tmK zs k = true ∧ Below w.heap.size w w') (fun i _ => n - (intOf i).toNat)
  case atStart => exact ⟨0, Nat.zero_le _, rfl, rfl, Below.refl _ _⟩
  case round =>
    obtain ⟨k, hk, rfl, ht, hb⟩ := hrel
    have hsz := hb.size
    by_cases hlt : k < n
    · have hi : (k : Int) < n := by omega
      rcases hrow with hrow | ⟨b, off, rfl, hB, hc⟩
      · omega
      · have hc1 := hc k hlt
        rw [← hb.cell (p := ⟨b, off + k, none⟩) hB] at hc1
        cases hl : LK (-4000000000000000000) 4000000000000000000 (el zs k) with
        | true =>
          have HF : Hid (tmK zs n = false) := tm_no (k := k) (by show (tmK zs k && _) = false; rw [ht, ← Bool.not_not (decide (Tm (el zs k))), ← lk_tm, hl]; rfl) n hlt
          go_wp2_with (go_at_call 63; refine (Sp.i_lacks _ _ _ _).mono ?_; rintro e w2 ⟨rfl, hb2⟩)
          go_ret
          exact ⟨⟨_, rfl, by rw [HF.out]; exact decide_eq_true (by omega)⟩, hb.trans (hb2.mono hsz)⟩
        | false =>
          have HT' : Hid (tmK zs (k + 1) = true) := by show (tmK zs k && _) = true; rw [ht, ← Bool.not_not (decide (Tm (el zs k))), ← lk_tm, hl]; rfl
          go_wp2_with (go_at_call 63; refine (Sp.i_lacks _ _ _ _).mono ?_; rintro e w2 ⟨rfl, hb2⟩)
          go_roundw
          case rel => exact ⟨k + 1, by omega, by go_num, HT'.out, hb.trans (hb2.mono hsz)⟩
          case measure => simp [intOf]; omega
    · have hi : ¬ (k : Int) < n := by omega
      have e : k = n := by omega
      subst e
      go_wp2
      go_ret
      exact ⟨⟨_, rfl, by first | omega | (rw [ht]; rfl)⟩, hb⟩

theorem containsFunc (a : Option Addr) (n cap : Nat) (zs : List Int) (w : World) (hr : Row w w.heap.size a n zs) (hn : n ≤ 1048576) :
    Calls Tryz.prog 62 #[.slice a n cap, times] w fun e w' => e = .returned (.bool (!tmK zs n)) ∧ Below w.heap.size w w' := by
  go_enter Tryz.func62, Tryz.ntmps62
  go_wp2_with fail
  refine (indexFunc a n cap zs _ hr hn).mono ?_
  rintro e w2 ⟨⟨i, rfl, hi⟩, hb⟩
  go_wp2
  go_ret
  exact ⟨Sp.retb rfl, hb⟩

set_option maxHeartbeats 1000000 in
theorem i_Hull1 (a : Option Addr) (cap : Nat) (w : World) :
    Calls Tryz.prog 84 #[.slice a 0 cap] w fun e w' => e = .returned (.tuple #[span 0 0, .bool false]) ∧ Below w.heap.size w w' := by
  go_enter Tryz.func84, Tryz.ntmps84
  go_wp2
  refine bodyPost_ret (v := .tuple #[span 0 0, .bool false]) (by simp [results, Tryz.results84, go_sem]) rfl ⟨rfl, ?_⟩
  (repeat (first | exact Below.refl _ _ | assumption | refine Below.setCell ?_ (by first | omega | (simp <;> omega)) _ | refine Below.alloc ?_ (by first | omega | (simp <;> omega)) _ | refine Below.drew ?_ | refine below_drewN ?_ _ | refine Below.trans ?_ (Below.mono (by assumption) (by first | omega | (simp <;> omega)))))

set_option maxHeartbeats 1000000 in
theorem i_Hull2 (a : Option Addr) (n cap : Nat) (zs : List Int) (w : World) (hr : Row w w.heap.size a n zs) (hn : n ≤ 1048576) (h0 : 0 < n) (ht : tmK zs n = false) :
    Calls Tryz.prog 84 #[.slice a n cap] w fun e w' => e = .returned (.tuple #[span 0 0, .bool false]) ∧ Below w.heap.size w w' := by
  have h1 : ((n : Int) == 0) = false := by simp; omega
  go_enter Tryz.func84, Tryz.ntmps84
  go_wp2_with fail
  refine (containsFunc a n cap zs _ ((hr.later (((Below.refl _ _).alloc (Nat.le_refl _) _).alloc (by simp) _) (Nat.le_refl _)).more (by simp <;> omega)) hn).mono ?_
  rintro e w2 ⟨rfl, hb2⟩
  obtain ⟨hc2, hf2⟩ := Sp.bcell hb2
  have s2 := hb2.size
  simp at s2
  go_wp2
  have q0 : w2.cell? ⟨w.heap.size, 0, none⟩ = some (.int .i64 0) := by rw [hc2 _ _ (by simp <;> omega)]; (first | (simp; done) | (simp [Sp.cell_at]; done) | (simp [World.cell?_alloc_lt]; done) | simp [World.cell?_alloc_lt, Sp.cell_at])
  have q1 : w2.cell? ⟨w.heap.size, 1, none⟩ = some (.int .i64 0) := by rw [hc2 _ _ (by simp <;> omega)]; (first | (simp; done) | (simp [Sp.cell_at]; done) | (simp [World.cell?_alloc_lt]; done) | simp [World.cell?_alloc_lt, Sp.cell_at])
  refine bodyPost_ret (v := .tuple #[span 0 0, .bool false]) (by simp [results, Tryz.results84, go_sem, Sp.set_a q0, Sp.set_b q1]) rfl ⟨rfl, ?_⟩
  (repeat (first | exact Below.refl _ _ | assumption | refine Below.setCell ?_ (by first | omega | (simp <;> omega)) _ | refine Below.alloc ?_ (by first | omega | (simp <;> omega)) _ | refine Below.drew ?_ | refine below_drewN ?_ _ | refine Below.trans ?_ (Below.mono (by assumption) (by first | omega | (simp <;> omega)))))

set_option maxHeartbeats 1000000 in
theorem i_Hull3 (a : Option Addr) (n cap : Nat) (zs : List Int) (w : World) (hr : Row w w.heap.size a n zs) (hn : n ≤ 1048576) (h0 : 0 < n) (ht : tmK zs n = true) :
    Calls Tryz.prog 84 #[.slice a n cap] w fun e w' => e = .returned (.tuple #[span (mnK zs n) (mxK zs n), .bool true]) ∧ Below w.heap.size w w' := by
  have h1 : ((n : Int) == 0) = false := by simp; omega
  go_enter Tryz.func84, Tryz.ntmps84
  go_wp2_with fail
  have hr1 := (hr.later (((Below.refl _ _).alloc (Nat.le_refl _) (.cells #[.int .i64 0, .int .i64 0] 74)).alloc (by simp) (.cells #[.int .i64 (-4000000000000000000), .int .i64 4000000000000000000] 74)) (Nat.le_refl _)).more (B' := w.heap.size + 1 + 1) (by omega)
  refine (containsFunc a n cap zs _ (hr1.more (by simp)) hn).mono ?_
  rintro e w2 ⟨rfl, hb2⟩
  obtain ⟨hc2, hf2⟩ := Sp.bcell hb2
  have s2 := hb2.size
  have hr2 := (hr1.more (by simp)).later hb2 (Nat.le_refl _)
  simp at s2
  go_wp2_with (first | (go_at_call 90; refine (slices_Min a n cap zs _ (hr2.more (by simp <;> omega)) hn h0).mono ?_; rintro e w3 ⟨rfl, rfl⟩) | (go_at_call 91; refine (slices_Max a n cap zs _ (hr2.more (by simp <;> omega)) hn h0).mono ?_; rintro e w3 ⟨rfl, rfl⟩))
  have q0 : w3.cell? ⟨w.heap.size, 0, none⟩ = some (.int .i64 0) := by rw [hc2 _ _ (by simp <;> omega)]; (first | (simp; done) | (simp [Sp.cell_at]; done) | (simp [World.cell?_alloc_lt]; done) | simp [World.cell?_alloc_lt, Sp.cell_at])
  have q1 : w3.cell? ⟨w.heap.size, 1, none⟩ = some (.int .i64 0) := by rw [hc2 _ _ (by simp <;> omega)]; (first | (simp; done) | (simp [Sp.cell_at]; done) | (simp [World.cell?_alloc_lt]; done) | simp [World.cell?_alloc_lt, Sp.cell_at])
  refine bodyPost_ret (v := .tuple #[span (mnK zs n) (mxK zs n), .bool true]) (by simp [results, Tryz.results84, go_sem, Sp.set_a q0, Sp.set_b q1]) rfl ⟨rfl, ?_⟩
  (repeat (first | exact Below.refl _ _ | assumption | refine Below.setCell ?_ (by first | omega | (simp <;> omega)) _ | refine Below.alloc ?_ (by first | omega | (simp <;> omega)) _ | refine Below.drew ?_ | refine below_drewN ?_ _ | refine Below.trans ?_ (Below.mono (by assumption) (by first | omega | (simp <;> omega)))))

theorem ht_0 (zs : List Int) : HT zs 0 = false := rfl
theorem ht_n {zs : List Int} {n : Nat} (h : 0 < n) : HT zs n = tmK zs n := by
  unfold HT; rw [show (n == 0) = false by simp; omega]; rfl

theorem cells2 {w : World} {p : Nat} {x y : Value} (h0 : w.cell? ⟨p, 0, none⟩ = some x) (h1 : w.cell? ⟨p, 1, none⟩ = some y) (u v : Value) :
    ((w.setCell ⟨p, 0, none⟩ u).setCell ⟨p, 1, none⟩ v).cell? ⟨p, 0, none⟩ = some u ∧ ((w.setCell ⟨p, 0, none⟩ u).setCell ⟨p, 1, none⟩ v).cell? ⟨p, 1, none⟩ = some v :=
  ⟨by rw [World.cell?_setCell_other _ _ _ _ (by simp)]; exact Sp.set_a h0 _, Sp.set_b h1 _ _⟩

/-- What holds of the span that is made, and of the result's room, at each round. -/
structure In (w : World) (p q : Nat) (lo hi : Int) (w' : World) : Prop where
  p0 : w'.cell? ⟨p, 0, none⟩ = some (.int .i64 0)
  p1 : w'.cell? ⟨p, 1, none⟩ = some (.int .i64 0)
  q0 : w'.cell? ⟨q, 0, none⟩ = some (.int .i64 lo)
  q1 : w'.cell? ⟨q, 1, none⟩ = some (.int .i64 hi)
  fp0 : w'.frozen? ⟨p, 0, none⟩ = false
  fp1 : w'.frozen? ⟨p, 1, none⟩ = false
  fq0 : w'.frozen? ⟨q, 0, none⟩ = false
  fq1 : w'.frozen? ⟨q, 1, none⟩ = false
  bel : Below w.heap.size w w'

theorem in_start (w : World) (x y : Int) (t : TypeId) : In w w.heap.size (w.heap.size + 1) x y ((w.alloc (.cells #[.int .i64 0, .int .i64 0] t)).alloc (.cells #[.int .i64 x, .int .i64 y] t)).drew := by
  have e : ∀ p, ((w.alloc (.cells #[.int .i64 0, .int .i64 0] t)).alloc (.cells #[.int .i64 x, .int .i64 y] t)).drew.frozen? p = w.frozen? p := fun p => by
    show ((w.alloc (.cells #[.int .i64 0, .int .i64 0] t)).alloc (.cells #[.int .i64 x, .int .i64 y] t)).frozen? p = w.frozen? p
    rw [frozen?_alloc_cells, frozen?_alloc_cells]
  have c : ∀ p, ((w.alloc (.cells #[.int .i64 0, .int .i64 0] t)).alloc (.cells #[.int .i64 x, .int .i64 y] t)).drew.cell? p = ((w.alloc (.cells #[.int .i64 0, .int .i64 0] t)).alloc (.cells #[.int .i64 x, .int .i64 y] t)).cell? p := fun p => rfl
  refine ⟨?_, ?_, ?_, ?_, ?_, ?_, ?_, ?_, ?_⟩
  · rw [c, World.cell?_alloc_lt _ _ _ (by simp)]; exact World.cell?_alloc_new _ _ _ _
  · rw [c, World.cell?_alloc_lt _ _ _ (by simp)]; exact World.cell?_alloc_new _ _ _ _
  · rw [c]; exact Sp.cell_at _ _ _ _ _ (by simp)
  · rw [c]; exact Sp.cell_at _ _ _ _ _ (by simp)
  · rw [e]; simp [World.frozen?]
  · rw [e]; simp [World.frozen?]
  · rw [e]; simp [World.frozen?]
  · rw [e]; simp [World.frozen?]
  · (repeat (first | exact Below.refl _ _ | assumption | refine Below.setCell ?_ (by first | omega | (simp <;> omega)) _ | refine Below.alloc ?_ (by first | omega | (simp <;> omega)) _ | refine Below.drew ?_ | refine below_drewN ?_ _ | refine Below.trans ?_ (Below.mono (by assumption) (by first | omega | (simp <;> omega)))))
theorem In.drewN {w : World} {p q : Nat} {lo hi : Int} {w' : World} (h : In w p q lo hi w') (n : Nat) : In w p q lo hi (w'.drewN n) :=
  ⟨h.p0, h.p1, h.q0, h.q1, h.fp0, h.fp1, h.fq0, h.fq1, below_drewN h.bel n⟩
theorem In.drew {w : World} {p q : Nat} {lo hi : Int} {w' : World} (h : In w p q lo hi w') : In w p q lo hi w'.drew :=
  ⟨h.p0, h.p1, h.q0, h.q1, h.fp0, h.fp1, h.fq0, h.fq1, h.bel.drew⟩
theorem In.set0 {w : World} {p q : Nat} {lo hi : Int} {w' : World} (h : In w p q lo hi w') (hpq : p ≠ q) (hq : w.heap.size ≤ q) (v : Int) : In w p q v hi (w'.setCell ⟨q, 0, none⟩ (.int .i64 v)) :=
  ⟨by rw [World.cell?_setCell_other _ _ _ _ (by simp <;> omega)]; exact h.p0, by rw [World.cell?_setCell_other _ _ _ _ (by simp <;> omega)]; exact h.p1,
   World.cell?_setCell_same _ _ _ h.q0, by rw [World.cell?_setCell_other _ _ _ _ (by simp)]; exact h.q1,
   by rw [World.frozen?_setCell]; exact h.fp0, by rw [World.frozen?_setCell]; exact h.fp1, by rw [World.frozen?_setCell]; exact h.fq0, by rw [World.frozen?_setCell]; exact h.fq1, h.bel.setCell hq _⟩
theorem In.set1 {w : World} {p q : Nat} {lo hi : Int} {w' : World} (h : In w p q lo hi w') (hpq : p ≠ q) (hq : w.heap.size ≤ q) (v : Int) : In w p q lo v (w'.setCell ⟨q, 1, none⟩ (.int .i64 v)) :=
  ⟨by rw [World.cell?_setCell_other _ _ _ _ (by simp <;> omega)]; exact h.p0, by rw [World.cell?_setCell_other _ _ _ _ (by simp <;> omega)]; exact h.p1,
   by rw [World.cell?_setCell_other _ _ _ _ (by simp)]; exact h.q0, World.cell?_setCell_same _ _ _ h.q1,
   by rw [World.frozen?_setCell]; exact h.fp0, by rw [World.frozen?_setCell]; exact h.fp1, by rw [World.frozen?_setCell]; exact h.fq0, by rw [World.frozen?_setCell]; exact h.fq1, h.bel.setCell hq _⟩

theorem i_Hull (a : Option Addr) (n cap : Nat) (zs : List Int) (w : World) (hr : Row w w.heap.size a n zs) (hn : n ≤ 1048576) :
    Calls Tryz.prog 84 #[.slice a n cap] w fun e w' => e = .returned (.tuple #[span (pk (HT zs n) (mnK zs n)) (pk (HT zs n) (mxK zs n)), .bool (HT zs n)]) ∧ Below w.heap.size w w' := by
  by_cases h0 : n = 0
  · subst h0
    exact i_Hull1 a cap w
  · have h1 : 0 < n := by omega
    rw [ht_n h1]
    cases ht : tmK zs n with
    | false => exact i_Hull2 a n cap zs w hr hn h1 ht
    | true => exact i_Hull3 a n cap zs w hr hn h1 ht

end Go.Proofs.YtcgcmceobmpdiaaGreat.Hu

namespace Go.Proofs.YtcgcmceobmpdiaaGreat.Sr
open Go.ChangeShapes Go.WideShapes Go.ChangeAt Go.RowKit
open Ad (Tm)
open Ls (el Row)
open Sp (span pk)
open Hu (mnK mxK tmK HT)
set_option linter.unusedVariables false

theorem mm_tm {zs : List Int} : ∀ k, tmK zs (k + 1) = true → Tm (mnK zs (k + 1)) ∧ Tm (mxK zs (k + 1)) := by
  intro k
  induction k with
  | zero =>
    intro h
    rw [Hu.mn1, Hu.mx1]
    have : decide (Tm (el zs 0)) = true := by
      have h2 : (true && decide (Tm (el zs 0))) = true := h
      simpa using h2
    exact ⟨of_decide_eq_true this, of_decide_eq_true this⟩
  | succ k ih =>
    intro h
    have h2 : (tmK zs (k + 1) && decide (Tm (el zs (k + 1)))) = true := h
    rw [Bool.and_eq_true] at h2
    obtain ⟨i1, i2⟩ := ih h2.1
    have h3 := of_decide_eq_true h2.2
    have e1 : mnK zs (k + 1 + 1) = min (mnK zs (k + 1)) (el zs (k + 1)) := rfl
    have e2 : mxK zs (k + 1 + 1) = max (mxK zs (k + 1)) (el zs (k + 1)) := rfl
    rw [e1, e2]
    unfold Tm at *
    omega

theorem pk_tm {zs : List Int} {n : Nat} (h0 : 0 < n) : Tm (pk (HT zs n) (mnK zs n)) ∧ Tm (pk (HT zs n) (mxK zs n)) := by
  rw [Hu.ht_n h0]
  cases h : tmK zs n with
  | false => rw [Sp.pk_f, Sp.pk_f]; exact ⟨⟨by decide, by decide⟩, ⟨by decide, by decide⟩⟩
  | true =>
    obtain ⟨k, rfl⟩ : ∃ k, n = k + 1 := ⟨n - 1, by omega⟩
    exact mm_tm k h

/-- How far the hull's ends are apart; -1 where there is none, or it is no time. -/
def SO (zs : List Int) (n : Nat) : Int :=
  if n = 0 then 0 else if HT zs n = true ∧ Ad.ST (mxK zs n) (mnK zs n) = true then Ad.SV (mxK zs n) (mnK zs n) else -1

theorem so_0 (zs : List Int) : SO zs 0 = 0 := rfl
theorem so_no {zs : List Int} {n : Nat} (h : 0 < n) (h1 : HT zs n = false) : SO zs n = -1 := by
  rw [SO, if_neg (by omega), h1]; rfl
theorem so_yes {zs : List Int} {n : Nat} (h : 0 < n) (h1 : HT zs n = true) (h2 : Ad.ST (mxK zs n) (mnK zs n) = true) : SO zs n = Ad.SV (mxK zs n) (mnK zs n) := by
  rw [SO, if_neg (by omega), if_pos ⟨h1, h2⟩]
theorem so_far {zs : List Int} {n : Nat} (h : 0 < n) (h2 : Ad.ST (mxK zs n) (mnK zs n) = false) : SO zs n = -1 := by
  rw [SO, if_neg (by omega), h2]; simp

theorem st_00 : Ad.ST 0 0 = true := by decide
theorem sv_00 : Ad.SV 0 0 = 0 := by decide

end Go.Proofs.YtcgcmceobmpdiaaGreat.Sr
