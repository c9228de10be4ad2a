/-
  The Go functions of the fourth chapter that the document lists, impl's and spec's, each by one answer, at every config; each writes nothing that was there ahead of it.
-/
import Derived.Test.YtcgcmceobmpdiaaGreatCfg
import Derived.Test.YtcgcmceobmpdiaaGreatTk
namespace Go.Proofs.YtcgcmceobmpdiaaGreat.Cf
open Go.ChangeShapes Go.WideShapes Go.ChangeAt Go.RowKit
open Ad (Tm)
open Sp (span OK LK IN bcell retb reti)
set_option linter.unusedVariables false
set_option linter.unusedSimpArgs false

def WF (c x : Int) : Int := if c = 0 then x else -1
theorem wf_yes {c : Int} (h : c = 0) (x : Int) : WF c x = x := if_pos h
theorem wf_no {c : Int} (h : ¬ c = 0) (x : Int) : WF c x = -1 := if_neg h

set_option maxHeartbeats 2000000 in
theorem i_CodeOf (n l d r p s : Int) (w : World) :
    Calls Tryz.prog 61 #[cfg n l d r p s] w fun e w' => e = .returned (.int .i64 (CP n l d r p s)) ∧ Below w.heap.size w w' := by
  go_enter Tryz.func61, Tryz.ntmps61
  go_wp2_with fail
  refine (i_first4 _ _ _ _ _ _ _).mono ?_
  rintro e w2 ⟨rfl, hb2⟩
  go_wp2
  go_ret
  refine ⟨rfl, ?_⟩
  (repeat (first | exact Below.refl _ _ | assumption | refine Below.setCell ?_ (by first | omega | (simp <;> omega)) _ | refine Below.alloc ?_ (by first | omega | (simp <;> omega)) _ | refine Below.drew ?_ | refine below_drewN ?_ _ | refine Below.trans ?_ (Below.mono (by assumption) (by first | omega | (simp <;> omega)))))

set_option maxHeartbeats 2000000 in
theorem i_ConfigOk (n l d r p s : Int) (w : World) :
    Calls Tryz.prog 46 #[cfg n l d r p s] w fun e w' => e = .returned (.bool (CP n l d r p s == 0)) ∧ Below w.heap.size w w' := by
  go_enter Tryz.func46, Tryz.ntmps46
  go_wp2_with fail
  refine (i_CodeOf _ _ _ _ _ _ _).mono ?_
  rintro e w2 ⟨rfl, hb2⟩
  go_wp2
  go_ret
  refine ⟨rfl, ?_⟩
  (repeat (first | exact Below.refl _ _ | assumption | refine Below.setCell ?_ (by first | omega | (simp <;> omega)) _ | refine Below.alloc ?_ (by first | omega | (simp <;> omega)) _ | refine Below.drew ?_ | refine below_drewN ?_ _ | refine Below.trans ?_ (Below.mono (by assumption) (by first | omega | (simp <;> omega)))))

theorem cp_cr {n l d r p s : Int} (h : ¬ CR n l d r s = 0) : CR n l d r s = CP n l d r p s := by
  unfold CP
  unfold CR at h ⊢
  cases hN : N1 n <;> cases hL : L1 n l <;> cases hR : R1 d r s <;> simp_all

theorem s_in (lo hi n : Int) (h : Tm lo ∧ Tm hi ∧ lo ≤ hi) (w : World) :
    Calls Tryz.prog 36 #[.int .i64 n, .int .i64 lo, .int .i64 hi] w fun e w' => e = .returned (.bool (IN lo hi n)) ∧ w' = w := by
  rw [← lk_in h]; exact Sp.s_l1In lo hi n w

set_option maxHeartbeats 2000000 in
theorem s_Code (n l d r p s : Int) (w : World) :
    Calls Tryz.prog 69 #[cfg n l d r p s] w fun e w' => e = .returned (.int .i64 (CR n l d r s)) ∧ Below w.heap.size w w' := by
  cases hn : IN 1 16 n with
  | false =>
    have E : Hid (1 = CR n l d r s) := by unfold Hid CR N1; rw [hn]; rfl
    go_enter Tryz.func69, Tryz.ntmps69
    go_wp2_with (go_at_call 36; refine (s_in _ _ _ (by decide) _).mono ?_; rintro e w2 ⟨rfl, rfl⟩)
    go_ret
    exact ⟨reti (E.out), (Below.refl _ _).alloc (Nat.le_refl _) _⟩
  | true =>
    obtain ⟨n1, n2⟩ := n1_iff.1 hn
    cases hl : IN 0 16 l with
    | false =>
      have E : Hid (2 = CR n l d r s) := by
        have k : L1 n l = false := by
          rw [Bool.eq_false_iff]; intro k; have := l1_iff.1 k; rw [Bool.eq_false_iff] at hl; exact hl ((in_c (by decide)).trans (decide_eq_true ⟨by omega, by omega⟩))
        unfold Hid CR N1; rw [hn, k]; rfl
      go_enter Tryz.func69, Tryz.ntmps69
      go_wp2_with (go_at_call 36; refine (s_in _ _ _ (by decide) _).mono ?_; rintro e w2 ⟨rfl, rfl⟩)
      go_ret
      exact ⟨reti (E.out), (Below.refl _ _).alloc (Nat.le_refl _) _⟩
    | true =>
      have hl2 := hl
      rw [in_c (by decide), decide_eq_true_iff] at hl2
      obtain ⟨l1, l2⟩ := hl2
      by_cases hm : n < 3 * l + 1
      · have E : Hid (2 = CR n l d r s) := by
          have k : L1 n l = false := by rw [Bool.eq_false_iff]; intro k; have := l1_iff.1 k; omega
          unfold Hid CR N1; rw [hn, k]; rfl
        go_enter Tryz.func69, Tryz.ntmps69
        go_wp2_with (go_at_call 36; refine (s_in _ _ _ (by decide) _).mono ?_; rintro e w2 ⟨rfl, rfl⟩)
        go_ret
        exact ⟨reti (E.out), (Below.refl _ _).alloc (Nat.le_refl _) _⟩
      · have k : L1 n l = true := l1_iff.2 ⟨l1, by omega⟩
        cases hd : IN 0 1000000 d with
        | false =>
          have E : Hid (3 = CR n l d r s) := by unfold Hid CR N1 R1; rw [hn, k, hd]; rfl
          go_enter Tryz.func69, Tryz.ntmps69
          go_wp2_with (go_at_call 36; refine (s_in _ _ _ (by decide) _).mono ?_; rintro e w2 ⟨rfl, rfl⟩)
          go_ret
          exact ⟨reti (E.out), (Below.refl _ _).alloc (Nat.le_refl _) _⟩
        | true =>
          cases hr : IN 0 1000000 r with
          | false =>
            have E : Hid (3 = CR n l d r s) := by unfold Hid CR N1 R1; rw [hn, k, hd, hr]; rfl
            go_enter Tryz.func69, Tryz.ntmps69
            go_wp2_with (go_at_call 36; refine (s_in _ _ _ (by decide) _).mono ?_; rintro e w2 ⟨rfl, rfl⟩)
            go_ret
            exact ⟨reti (E.out), (Below.refl _ _).alloc (Nat.le_refl _) _⟩
          | true =>
            cases hs : IN 2 100000 s with
            | false =>
              have E : Hid (3 = CR n l d r s) := by unfold Hid CR N1 R1; rw [hn, k, hd, hr, hs]; rfl
              go_enter Tryz.func69, Tryz.ntmps69
              go_wp2_with (go_at_call 36; refine (s_in _ _ _ (by decide) _).mono ?_; rintro e w2 ⟨rfl, rfl⟩)
              go_ret
              exact ⟨reti (E.out), (Below.refl _ _).alloc (Nat.le_refl _) _⟩
            | true =>
              have E : Hid (0 = CR n l d r s) := by unfold Hid CR N1 R1; rw [hn, k, hd, hr, hs]; rfl
              go_enter Tryz.func69, Tryz.ntmps69
              go_wp2_with (go_at_call 36; refine (s_in _ _ _ (by decide) _).mono ?_; rintro e w2 ⟨rfl, rfl⟩)
              go_ret
              exact ⟨reti (E.out), (Below.refl _ _).alloc (Nat.le_refl _) _⟩

set_option maxHeartbeats 2000000 in
theorem s_GapMost (n l d r p s : Int) (w : World) :
    Calls Tryz.prog 88 #[cfg n l d r p s] w fun e w' => e = .returned (.int .i64 (GM n l d r s)) ∧ Below w.heap.size w w' := by
  have k1 := newS w n l d r p s 30
  by_cases h : CR n l d r s = 0
  · have H : Hid (CR n l d r s = 0) := h
    have E : GM n l d r s = 2 * d + 4 * r + 2 := if_pos h
    rw [E]
    clear E
    obtain ⟨m1, m2, m3⟩ := cr_zero.1 h
    have ⟨n1, n2⟩ := n1_iff.1 m1
    have ⟨l1, l2⟩ := l1_iff.1 m2
    have ⟨⟨d1, d2⟩, ⟨r1, r2⟩, s1, s2⟩ := r1_iff.1 m3
    clear m1 m2 m3
    go_enter Tryz.func88, Tryz.ntmps88
    go_wp2_with fail
    refine (s_Code _ _ _ _ _ _ _).mono ?_
    rintro e w2 ⟨rfl, hb2⟩
    have k2 := keepS hb2 k1
    have ⟨c20, c21, c22, c23, c24, c25, c26⟩ := k2
    go_wp2
    go_ret
    exact ⟨reti (by omega), c26.out⟩
  · have H : Hid (¬ CR n l d r s = 0) := h
    have E : GM n l d r s = -1 := if_neg h
    rw [E]
    clear E
    go_enter Tryz.func88, Tryz.ntmps88
    go_wp2_with fail
    refine (s_Code _ _ _ _ _ _ _).mono ?_
    rintro e w2 ⟨rfl, hb2⟩
    have k2 := keepS hb2 k1
    have ⟨c20, c21, c22, c23, c24, c25, c26⟩ := k2
    go_wp2
    go_ret
    exact ⟨rfl, c26.out⟩

set_option maxHeartbeats 2000000 in
theorem s_SkewMost (n l d r p s : Int) (w : World) :
    Calls Tryz.prog 78 #[cfg n l d r p s] w fun e w' => e = .returned (.int .i64 (SM n l d r s)) ∧ Below w.heap.size w w' := by
  have k1 := newS w n l d r p s 30
  by_cases h : CR n l d r s = 0
  · have H : Hid (CR n l d r s = 0) := h
    have E : SM n l d r s = 4 * d + 4 * r + 2 := if_pos h
    rw [E]
    clear E
    obtain ⟨m1, m2, m3⟩ := cr_zero.1 h
    have ⟨n1, n2⟩ := n1_iff.1 m1
    have ⟨l1, l2⟩ := l1_iff.1 m2
    have ⟨⟨d1, d2⟩, ⟨r1, r2⟩, s1, s2⟩ := r1_iff.1 m3
    clear m1 m2 m3
    go_enter Tryz.func78, Tryz.ntmps78
    go_wp2_with fail
    refine (s_Code _ _ _ _ _ _ _).mono ?_
    rintro e w2 ⟨rfl, hb2⟩
    have k2 := keepS hb2 k1
    have ⟨c20, c21, c22, c23, c24, c25, c26⟩ := k2
    go_wp2_with fail
    refine wp_region_noPanic ?_
    refine wp_region_held_drew (S := (fun w' => w'.cell? ⟨w.heap.size, 0, none⟩ = some (.int .i64 n) ∧ w'.cell? ⟨w.heap.size, 1, none⟩ = some (.int .i64 l) ∧ w'.cell? ⟨w.heap.size, 2, none⟩ = some (.int .i64 d) ∧ w'.cell? ⟨w.heap.size, 3, none⟩ = some (.int .i64 r) ∧ w'.cell? ⟨w.heap.size, 4, none⟩ = some (.int .i64 p) ∧ w'.cell? ⟨w.heap.size, 5, none⟩ = some (.int .i64 s) ∧ Hid (Below w.heap.size w w'))) (by kernel_rfl) (drewS k2) (fun hHeld => ?_)
    refine Tk.W 0 (some 6) (.load 30 (.tmp 1)) 30 none ?_
    refine Tk.W 2 (some 8) (.fieldAddr 30 (.tmp 1) 2) 0 none ?_
    refine Tk.W 3 (some 9) (.load 2 (.tmp 8)) 2 none ?_
    refine Tk.W 4 (some 10) (.binOp .mul 2 (.const (.int .i64 2)) (.tmp 9) 2) 2 none ?_
    refine Tk.R 1 (some 7) (.call ⟨.value (.func 88), #[.tmp 6], #[30]⟩) 2 none (fun K hK => ?_)
    go_simp
    refine (s_GapMost _ _ _ _ _ _ _).mono ?_
    rintro e vr111 ⟨rfl, hbr111⟩
    have kvr111 := keepS hbr111 hHeld
    try dsimp only
    refine hK.out _ _ kvr111 ?_; clear hK K hHeld; intro hHeld; try simp only [Act.put, List.setIfInBounds_toArray, List.set_cons_zero, List.set_cons_succ]
    refine Tk.W 5 (some 11) (.binOp .add 2 (.tmp 7) (.tmp 10) 2) 2 none ?_
    refine Tk.W 6 (some 2) (.assign (.tmp 11)) 2 none ?_
    refine wpAnyH_done (by kernel_rfl) ?_ _
    refine NoPanic.normal ?_
    go_wp2_with fail
    go_ret
    exact ⟨reti (by (try rw [show GM n l d r s = _ from if_pos H.out]); (try simp only [IntKind.wrap_i64]); omega), hHeld.2.2.2.2.2.2.out⟩
  · have H : Hid (¬ CR n l d r s = 0) := h
    have E : SM n l d r s = -1 := if_neg h
    rw [E]
    clear E
    go_enter Tryz.func78, Tryz.ntmps78
    go_wp2_with fail
    refine (s_Code _ _ _ _ _ _ _).mono ?_
    rintro e w2 ⟨rfl, hb2⟩
    have k2 := keepS hb2 k1
    have ⟨c20, c21, c22, c23, c24, c25, c26⟩ := k2
    go_wp2
    go_ret
    exact ⟨rfl, c26.out⟩

set_option maxHeartbeats 2000000 in
theorem s_AdjustMost (n l d r p s : Int) (w : World) :
    Calls Tryz.prog 70 #[cfg n l d r p s] w fun e w' => e = .returned (.int .i64 (AM n l d r s)) ∧ Below w.heap.size w w' := by
  have k1 := newS w n l d r p s 30
  by_cases h : CR n l d r s = 0
  · have H : Hid (CR n l d r s = 0) := h
    have E : AM n l d r s = 4 * d + 5 * r + 2 := if_pos h
    rw [E]
    clear E
    obtain ⟨m1, m2, m3⟩ := cr_zero.1 h
    have ⟨n1, n2⟩ := n1_iff.1 m1
    have ⟨l1, l2⟩ := l1_iff.1 m2
    have ⟨⟨d1, d2⟩, ⟨r1, r2⟩, s1, s2⟩ := r1_iff.1 m3
    clear m1 m2 m3
    go_enter Tryz.func70, Tryz.ntmps70
    go_wp2_with fail
    refine (s_Code _ _ _ _ _ _ _).mono ?_
    rintro e w2 ⟨rfl, hb2⟩
    have k2 := keepS hb2 k1
    have ⟨c20, c21, c22, c23, c24, c25, c26⟩ := k2
    go_wp2_with fail
    refine wp_region_noPanic ?_
    refine wp_region_held_drew (S := (fun w' => w'.cell? ⟨w.heap.size, 0, none⟩ = some (.int .i64 n) ∧ w'.cell? ⟨w.heap.size, 1, none⟩ = some (.int .i64 l) ∧ w'.cell? ⟨w.heap.size, 2, none⟩ = some (.int .i64 d) ∧ w'.cell? ⟨w.heap.size, 3, none⟩ = some (.int .i64 r) ∧ w'.cell? ⟨w.heap.size, 4, none⟩ = some (.int .i64 p) ∧ w'.cell? ⟨w.heap.size, 5, none⟩ = some (.int .i64 s) ∧ Hid (Below w.heap.size w w'))) (by kernel_rfl) (drewS k2) (fun hHeld => ?_)
    refine Tk.W 0 (some 6) (.load 30 (.tmp 1)) 30 none ?_
    refine Tk.W 2 (some 8) (.fieldAddr 30 (.tmp 1) 3) 0 none ?_
    refine Tk.W 3 (some 9) (.load 2 (.tmp 8)) 2 none ?_
    refine Tk.R 1 (some 7) (.call ⟨.value (.func 78), #[.tmp 6], #[30]⟩) 2 none (fun K hK => ?_)
    go_simp
    refine (s_SkewMost _ _ _ _ _ _ _).mono ?_
    rintro e vr121 ⟨rfl, hbr121⟩
    have kvr121 := keepS hbr121 hHeld
    try dsimp only
    refine hK.out _ _ kvr121 ?_; clear hK K hHeld; intro hHeld; try simp only [Act.put, List.setIfInBounds_toArray, List.set_cons_zero, List.set_cons_succ]
    refine Tk.W 4 (some 10) (.binOp .add 2 (.tmp 7) (.tmp 9) 2) 2 none ?_
    refine Tk.W 5 (some 2) (.assign (.tmp 10)) 2 none ?_
    refine wpAnyH_done (by kernel_rfl) ?_ _
    refine NoPanic.normal ?_
    go_wp2_with fail
    go_ret
    exact ⟨reti (by (try rw [show SM n l d r s = _ from if_pos H.out]); (try simp only [IntKind.wrap_i64]); omega), hHeld.2.2.2.2.2.2.out⟩
  · have H : Hid (¬ CR n l d r s = 0) := h
    have E : AM n l d r s = -1 := if_neg h
    rw [E]
    clear E
    go_enter Tryz.func70, Tryz.ntmps70
    go_wp2_with fail
    refine (s_Code _ _ _ _ _ _ _).mono ?_
    rintro e w2 ⟨rfl, hb2⟩
    have k2 := keepS hb2 k1
    have ⟨c20, c21, c22, c23, c24, c25, c26⟩ := k2
    go_wp2
    go_ret
    exact ⟨rfl, c26.out⟩

set_option maxHeartbeats 2000000 in
theorem s_CodeOf (n l d r p s : Int) (w : World) :
    Calls Tryz.prog 56 #[cfg n l d r p s] w fun e w' => e = .returned (.int .i64 (CP n l d r p s)) ∧ Below w.heap.size w w' := by
  have k1 := newS w n l d r p s 30
  by_cases h : CR n l d r s = 0
  · have H : Hid (CR n l d r s = 0) := h
    obtain ⟨m1, m2, m3⟩ := cr_zero.1 h
    have ⟨⟨d1, d2⟩, ⟨r1, r2⟩, s1, s2⟩ := r1_iff.1 m3
    have q1 := (prod (g := 4 * d + 5 * r + 2) (s := s) (by omega) (by omega) s1 s2)
    have q2 := wrapped q1.1 q1.2
    have A : AM n l d r s = 4 * d + 5 * r + 2 := if_pos h
    cases hp : IN 1 1000000000000000 p with
    | false =>
      have E : Hid (4 = CP n l d r p s) := by unfold Hid CP P1; rw [m1, m2, m3, hp]; rfl
      clear m1 m2 m3
      go_enter Tryz.func56, Tryz.ntmps56
      go_wp2_with fail
      refine (s_Code _ _ _ _ _ _ _).mono ?_
      rintro e w2 ⟨rfl, hb2⟩
      have k2 := keepS hb2 k1
      have ⟨c20, c21, c22, c23, c24, c25, c26⟩ := k2
      go_wp2_with fail
      refine wp_region_noPanic ?_
      refine wp_region_held_drew (S := (fun w' => w'.cell? ⟨w.heap.size, 0, none⟩ = some (.int .i64 n) ∧ w'.cell? ⟨w.heap.size, 1, none⟩ = some (.int .i64 l) ∧ w'.cell? ⟨w.heap.size, 2, none⟩ = some (.int .i64 d) ∧ w'.cell? ⟨w.heap.size, 3, none⟩ = some (.int .i64 r) ∧ w'.cell? ⟨w.heap.size, 4, none⟩ = some (.int .i64 p) ∧ w'.cell? ⟨w.heap.size, 5, none⟩ = some (.int .i64 s) ∧ Hid (Below w.heap.size w w'))) (by kernel_rfl) (drewS k2) (fun hHeld => ?_)
      refine Tk.W 0 (some 9) (.fieldAddr 30 (.tmp 1) 4) 0 none ?_
      refine Tk.W 1 (some 10) (.load 2 (.tmp 9)) 2 none ?_
      refine Tk.R 2 (some 11) (.call ⟨.value (.func 36), #[.tmp 10, .const (.int .i64 1), .const (.int .i64 1000000000000000)], #[2, 2, 2]⟩) 4 none (fun K hK => ?_)
      go_simp
      refine (s_in _ _ _ (by decide) _).mono ?_
      rintro e vr132 ⟨rfl, rfl⟩
      have kvr132 := hHeld
      try rw [hp]
      try dsimp only
      refine hK.out _ _ kvr132 ?_; clear hK K hHeld; intro hHeld; try simp only [Act.put, List.setIfInBounds_toArray, List.set_cons_zero, List.set_cons_succ]
      refine Tk.W 3 (some 12) (.unOp .not 4 (.tmp 11)) 4 none ?_
      refine Tk.W 4 (some 13) (.move (.tmp 12)) 4 none ?_
      refine Tk.N 5 (some 14) (.fieldAddr 30 (.tmp 1) 4) 0 (some (4, false)) ?_
      refine Tk.N 6 (some 15) (.load 2 (.tmp 14)) 2 (some (4, false)) ?_
      refine Tk.N 7 (some 16) (.load 30 (.tmp 1)) 30 (some (4, false)) ?_
      refine Tk.N 9 (some 18) (.fieldAddr 30 (.tmp 1) 5) 0 (some (4, false)) ?_
      refine Tk.N 10 (some 19) (.load 2 (.tmp 18)) 2 (some (4, false)) ?_
      first | refine wpAnyH_take (i := 8) (oi := { dst := some 17, op := Op.call { callee := Callee.value (Operand.func 70), args := #[Operand.tmp 16], argTypes := #[30] }, type := 2, pos := _, after := _, guard := some (4, false) }) (v := undef) rfl (by kernel_rfl) (by kernel_rfl) (by kernel_rfl) (fun _ _ _ h => h) (Or.inr ⟨by rfl, rfl⟩) (by assumption) ?_ | (refine wpAnyH_ready (rs := [8]) (by kernel_rfl) (by simp) ?_; refine AllReadyH.cons (o := ⟨some 17, .call ⟨.value (.func 70), #[.tmp 16], #[30]⟩, 2, _, _, some (4, false)⟩) rfl (fun K hK => ?_) AllReadyH.nil; go_simp; refine hK.out _ _ (by assumption) (fun hHeld => ?_); clear hK K)
      try simp only [Act.put, List.setIfInBounds_toArray, List.set_cons_zero, List.set_cons_succ]
      refine Tk.N 11 (some 20) (.binOp .mul 2 (.tmp 17) (.tmp 19) 2) 2 (some (4, false)) ?_
      refine Tk.N 12 (some 21) (.binOp .lss 2 (.tmp 15) (.tmp 20) 2) 4 (some (4, false)) ?_
      refine Tk.W 13 (some 22) (.pick (.tmp 13) (.const (.bool true)) (.tmp 21)) 4 none ?_
      refine wpAnyH_done (by kernel_rfl) ?_ _
      refine NoPanic.normal ?_
      go_wp2_with fail
      go_ret
      exact ⟨reti E.out, hHeld.2.2.2.2.2.2.out⟩
    | true =>
      cases hq : decide ((4 * d + 5 * r + 2) * s ≤ p) with
      | false =>
        have E : Hid (4 = CP n l d r p s) := by unfold Hid CP P1; rw [m1, m2, m3, hp, hq]; rfl
        clear m1 m2 m3
        go_enter Tryz.func56, Tryz.ntmps56
        go_wp2_with fail
        refine (s_Code _ _ _ _ _ _ _).mono ?_
        rintro e w2 ⟨rfl, hb2⟩
        have k2 := keepS hb2 k1
        have ⟨c20, c21, c22, c23, c24, c25, c26⟩ := k2
        rw [decide_eq_false_iff_not] at hq
        have hq2 : decide (p < (4 * d + 5 * r + 2) * s) = true := by simp; omega
        go_wp2_with fail
        refine wp_region_noPanic ?_
        refine wp_region_held_drew (S := (fun w' => w'.cell? ⟨w.heap.size, 0, none⟩ = some (.int .i64 n) ∧ w'.cell? ⟨w.heap.size, 1, none⟩ = some (.int .i64 l) ∧ w'.cell? ⟨w.heap.size, 2, none⟩ = some (.int .i64 d) ∧ w'.cell? ⟨w.heap.size, 3, none⟩ = some (.int .i64 r) ∧ w'.cell? ⟨w.heap.size, 4, none⟩ = some (.int .i64 p) ∧ w'.cell? ⟨w.heap.size, 5, none⟩ = some (.int .i64 s) ∧ Hid (Below w.heap.size w w'))) (by kernel_rfl) (drewS k2) (fun hHeld => ?_)
        refine Tk.W 0 (some 9) (.fieldAddr 30 (.tmp 1) 4) 0 none ?_
        refine Tk.W 1 (some 10) (.load 2 (.tmp 9)) 2 none ?_
        refine Tk.R 2 (some 11) (.call ⟨.value (.func 36), #[.tmp 10, .const (.int .i64 1), .const (.int .i64 1000000000000000)], #[2, 2, 2]⟩) 4 none (fun K hK => ?_)
        go_simp
        refine (s_in _ _ _ (by decide) _).mono ?_
        rintro e vr142 ⟨rfl, rfl⟩
        have kvr142 := hHeld
        try rw [hp]
        try dsimp only
        refine hK.out _ _ kvr142 ?_; clear hK K hHeld; intro hHeld; try simp only [Act.put, List.setIfInBounds_toArray, List.set_cons_zero, List.set_cons_succ]
        refine Tk.W 3 (some 12) (.unOp .not 4 (.tmp 11)) 4 none ?_
        refine Tk.W 4 (some 13) (.move (.tmp 12)) 4 none ?_
        refine Tk.W 5 (some 14) (.fieldAddr 30 (.tmp 1) 4) 0 (some (4, false)) ?_
        refine Tk.W 6 (some 15) (.load 2 (.tmp 14)) 2 (some (4, false)) ?_
        refine Tk.W 7 (some 16) (.load 30 (.tmp 1)) 30 (some (4, false)) ?_
        refine Tk.W 9 (some 18) (.fieldAddr 30 (.tmp 1) 5) 0 (some (4, false)) ?_
        refine Tk.W 10 (some 19) (.load 2 (.tmp 18)) 2 (some (4, false)) ?_
        refine Tk.R 8 (some 17) (.call ⟨.value (.func 70), #[.tmp 16], #[30]⟩) 2 (some (4, false)) (fun K hK => ?_)
        go_simp
        refine (s_AdjustMost _ _ _ _ _ _ _).mono ?_
        rintro e vr148 ⟨rfl, hbr148⟩
        have kvr148 := keepS hbr148 hHeld
        try rw [A]
        try dsimp only
        refine hK.out _ _ kvr148 ?_; clear hK K hHeld; intro hHeld; try simp only [Act.put, List.setIfInBounds_toArray, List.set_cons_zero, List.set_cons_succ]
        refine Tk.W 11 (some 20) (.binOp .mul 2 (.tmp 17) (.tmp 19) 2) 2 (some (4, false)) ?_
        refine Tk.W 12 (some 21) (.binOp .lss 2 (.tmp 15) (.tmp 20) 2) 4 (some (4, false)) ?_
        refine Tk.W 13 (some 22) (.pick (.tmp 13) (.const (.bool true)) (.tmp 21)) 4 none ?_
        refine wpAnyH_done (by kernel_rfl) ?_ _
        refine NoPanic.normal ?_
        go_wp2_with fail
        go_ret
        exact ⟨reti E.out, hHeld.2.2.2.2.2.2.out⟩
      | true =>
        have E : Hid (0 = CP n l d r p s) := by unfold Hid CP P1; rw [m1, m2, m3, hp, hq]; rfl
        clear m1 m2 m3
        go_enter Tryz.func56, Tryz.ntmps56
        go_wp2_with fail
        refine (s_Code _ _ _ _ _ _ _).mono ?_
        rintro e w2 ⟨rfl, hb2⟩
        have k2 := keepS hb2 k1
        have ⟨c20, c21, c22, c23, c24, c25, c26⟩ := k2
        rw [decide_eq_true_iff] at hq
        have hq2 : decide (p < (4 * d + 5 * r + 2) * s) = false := by simp; omega
        go_wp2_with fail
        refine wp_region_noPanic ?_
        refine wp_region_held_drew (S := (fun w' => w'.cell? ⟨w.heap.size, 0, none⟩ = some (.int .i64 n) ∧ w'.cell? ⟨w.heap.size, 1, none⟩ = some (.int .i64 l) ∧ w'.cell? ⟨w.heap.size, 2, none⟩ = some (.int .i64 d) ∧ w'.cell? ⟨w.heap.size, 3, none⟩ = some (.int .i64 r) ∧ w'.cell? ⟨w.heap.size, 4, none⟩ = some (.int .i64 p) ∧ w'.cell? ⟨w.heap.size, 5, none⟩ = some (.int .i64 s) ∧ Hid (Below w.heap.size w w'))) (by kernel_rfl) (drewS k2) (fun hHeld => ?_)
        refine Tk.W 0 (some 9) (.fieldAddr 30 (.tmp 1) 4) 0 none ?_
        refine Tk.W 1 (some 10) (.load 2 (.tmp 9)) 2 none ?_
        refine Tk.R 2 (some 11) (.call ⟨.value (.func 36), #[.tmp 10, .const (.int .i64 1), .const (.int .i64 1000000000000000)], #[2, 2, 2]⟩) 4 none (fun K hK => ?_)
        go_simp
        refine (s_in _ _ _ (by decide) _).mono ?_
        rintro e vr152 ⟨rfl, rfl⟩
        have kvr152 := hHeld
        try rw [hp]
        try dsimp only
        refine hK.out _ _ kvr152 ?_; clear hK K hHeld; intro hHeld; try simp only [Act.put, List.setIfInBounds_toArray, List.set_cons_zero, List.set_cons_succ]
        refine Tk.W 3 (some 12) (.unOp .not 4 (.tmp 11)) 4 none ?_
        refine Tk.W 4 (some 13) (.move (.tmp 12)) 4 none ?_
        refine Tk.W 5 (some 14) (.fieldAddr 30 (.tmp 1) 4) 0 (some (4, false)) ?_
        refine Tk.W 6 (some 15) (.load 2 (.tmp 14)) 2 (some (4, false)) ?_
        refine Tk.W 7 (some 16) (.load 30 (.tmp 1)) 30 (some (4, false)) ?_
        refine Tk.W 9 (some 18) (.fieldAddr 30 (.tmp 1) 5) 0 (some (4, false)) ?_
        refine Tk.W 10 (some 19) (.load 2 (.tmp 18)) 2 (some (4, false)) ?_
        refine Tk.R 8 (some 17) (.call ⟨.value (.func 70), #[.tmp 16], #[30]⟩) 2 (some (4, false)) (fun K hK => ?_)
        go_simp
        refine (s_AdjustMost _ _ _ _ _ _ _).mono ?_
        rintro e vr158 ⟨rfl, hbr158⟩
        have kvr158 := keepS hbr158 hHeld
        try rw [A]
        try dsimp only
        refine hK.out _ _ kvr158 ?_; clear hK K hHeld; intro hHeld; try simp only [Act.put, List.setIfInBounds_toArray, List.set_cons_zero, List.set_cons_succ]
        refine Tk.W 11 (some 20) (.binOp .mul 2 (.tmp 17) (.tmp 19) 2) 2 (some (4, false)) ?_
        refine Tk.W 12 (some 21) (.binOp .lss 2 (.tmp 15) (.tmp 20) 2) 4 (some (4, false)) ?_
        refine Tk.W 13 (some 22) (.pick (.tmp 13) (.const (.bool true)) (.tmp 21)) 4 none ?_
        refine wpAnyH_done (by kernel_rfl) ?_ _
        refine NoPanic.normal ?_
        go_wp2_with fail
        go_ret
        exact ⟨reti E.out, hHeld.2.2.2.2.2.2.out⟩
  · have H : Hid (¬ CR n l d r s = 0) := h
    have E : Hid (CR n l d r s = CP n l d r p s) := cp_cr h
    go_enter Tryz.func56, Tryz.ntmps56
    go_wp2_with fail
    refine (s_Code _ _ _ _ _ _ _).mono ?_
    rintro e w2 ⟨rfl, hb2⟩
    have k2 := keepS hb2 k1
    have ⟨c20, c21, c22, c23, c24, c25, c26⟩ := k2
    go_wp2
    go_ret
    exact ⟨reti E.out, c26.out⟩

set_option maxHeartbeats 2000000 in
theorem s_ConfigOk (n l d r p s : Int) (w : World) :
    Calls Tryz.prog 35 #[cfg n l d r p s] w fun e w' => e = .returned (.bool (CP n l d r p s == 0)) ∧ Below w.heap.size w w' := by
  go_enter Tryz.func35, Tryz.ntmps35
  go_wp2_with fail
  refine (s_CodeOf _ _ _ _ _ _ _).mono ?_
  rintro e w2 ⟨rfl, hb2⟩
  go_wp2
  go_ret
  refine ⟨rfl, ?_⟩
  (repeat (first | exact Below.refl _ _ | assumption | refine Below.setCell ?_ (by first | omega | (simp <;> omega)) _ | refine Below.alloc ?_ (by first | omega | (simp <;> omega)) _ | refine Below.drew ?_ | refine below_drewN ?_ _ | refine Below.trans ?_ (Below.mono (by assumption) (by first | omega | (simp <;> omega)))))

end Go.Proofs.YtcgcmceobmpdiaaGreat.Cf
