/-
  The Go functions of the fourth chapter that the document lists, impl's and spec's, each by one answer, at every config; each writes nothing that was there ahead of it.
-/
import Derived.Test.YtnocmfhlmpgbmaaGreatCfg
namespace Go.Proofs.YtnocmfhlmpgbmaaGreat.Cf
open Go.ChangeShapes Go.WideShapes Go.ChangeAt Go.RowKit
open Ad (Tm)
open Sp (span OK LK IN bcell retb reti)
set_option linter.unusedVariables false
set_option linter.unusedSimpArgs false

def WF (c x : Int) : Int := if c = 0 then x else -1
theorem wf_yes {c : Int} (h : c = 0) (x : Int) : WF c x = x := if_pos h
theorem wf_no {c : Int} (h : ¬ c = 0) (x : Int) : WF c x = -1 := if_neg h

set_option maxHeartbeats 2000000 in
theorem i_CodeOf (n l d r p s : Int) (w : World) :
    Calls Tryz.prog 90 #[cfg n l d r p s] w fun e w' => e = .returned (.int .i64 (CP n l d r p s)) ∧ Below w.heap.size w w' := by
  go_enter Tryz.func90, Tryz.ntmps90
  go_wp2_with fail
  refine (i_first4 _ _ _ _ _ _ _).mono ?_
  rintro e w2 ⟨rfl, hb2⟩
  go_wp2
  go_ret
  refine ⟨rfl, ?_⟩
  (repeat (first | exact Below.refl _ _ | assumption | refine Below.setCell ?_ (by first | omega | (simp <;> omega)) _ | refine Below.alloc ?_ (by first | omega | (simp <;> omega)) _ | refine Below.drew ?_ | refine below_drewN ?_ _ | refine Below.trans ?_ (Below.mono (by assumption) (by first | omega | (simp <;> omega)))))

set_option maxHeartbeats 2000000 in
theorem i_ConfigOk (n l d r p s : Int) (w : World) :
    Calls Tryz.prog 69 #[cfg n l d r p s] w fun e w' => e = .returned (.bool (CP n l d r p s == 0)) ∧ Below w.heap.size w w' := by
  go_enter Tryz.func69, Tryz.ntmps69
  go_wp2_with fail
  refine (i_CodeOf _ _ _ _ _ _ _).mono ?_
  rintro e w2 ⟨rfl, hb2⟩
  go_wp2
  go_ret
  refine ⟨rfl, ?_⟩
  (repeat (first | exact Below.refl _ _ | assumption | refine Below.setCell ?_ (by first | omega | (simp <;> omega)) _ | refine Below.alloc ?_ (by first | omega | (simp <;> omega)) _ | refine Below.drew ?_ | refine below_drewN ?_ _ | refine Below.trans ?_ (Below.mono (by assumption) (by first | omega | (simp <;> omega)))))

theorem cp_cr {n l d r p s : Int} (h : ¬ CR n l d r s = 0) : CR n l d r s = CP n l d r p s := by
  unfold CP
  unfold CR at h ⊢
  cases hN : N1 n <;> cases hL : L1 n l <;> cases hR : R1 d r s <;> simp_all

theorem s_in (lo hi n : Int) (h : Tm lo ∧ Tm hi ∧ lo ≤ hi) (w : World) :
    Calls Tryz.prog 43 #[.int .i64 n, .int .i64 lo, .int .i64 hi] w fun e w' => e = .returned (.bool (IN lo hi n)) ∧ w' = w := by
  rw [← lk_in h]; exact Sp.s_l1In lo hi n w

set_option maxHeartbeats 2000000 in
theorem s_Code (n l d r p s : Int) (w : World) :
    Calls Tryz.prog 97 #[cfg n l d r p s] w fun e w' => e = .returned (.int .i64 (CR n l d r s)) ∧ Below w.heap.size w w' := by
  cases hn : IN 1 16 n with
  | false =>
    have E : Hid (1 = CR n l d r s) := by unfold Hid CR N1; rw [hn]; rfl
    go_enter Tryz.func97, Tryz.ntmps97
    go_wp2_with (go_at_call 43; refine (s_in _ _ _ (by decide) _).mono ?_; rintro e w2 ⟨rfl, rfl⟩)
    go_ret
    exact ⟨reti (E.out), (Below.refl _ _).alloc (Nat.le_refl _) _⟩
  | true =>
    obtain ⟨n1, n2⟩ := n1_iff.1 hn
    cases hl : IN 0 16 l with
    | false =>
      have E : Hid (2 = CR n l d r s) := by
        have k : L1 n l = false := by
          rw [Bool.eq_false_iff]; intro k; have := l1_iff.1 k; rw [Bool.eq_false_iff] at hl; exact hl ((in_c (by decide)).trans (decide_eq_true ⟨by omega, by omega⟩))
        unfold Hid CR N1; rw [hn, k]; rfl
      go_enter Tryz.func97, Tryz.ntmps97
      go_wp2_with (go_at_call 43; refine (s_in _ _ _ (by decide) _).mono ?_; rintro e w2 ⟨rfl, rfl⟩)
      go_ret
      exact ⟨reti (E.out), (Below.refl _ _).alloc (Nat.le_refl _) _⟩
    | true =>
      have hl2 := hl
      rw [in_c (by decide), decide_eq_true_iff] at hl2
      obtain ⟨l1, l2⟩ := hl2
      by_cases hm : n < 3 * l + 1
      · have E : Hid (2 = CR n l d r s) := by
          have k : L1 n l = false := by rw [Bool.eq_false_iff]; intro k; have := l1_iff.1 k; omega
          unfold Hid CR N1; rw [hn, k]; rfl
        go_enter Tryz.func97, Tryz.ntmps97
        go_wp2_with (go_at_call 43; refine (s_in _ _ _ (by decide) _).mono ?_; rintro e w2 ⟨rfl, rfl⟩)
        go_ret
        exact ⟨reti (E.out), (Below.refl _ _).alloc (Nat.le_refl _) _⟩
      · have k : L1 n l = true := l1_iff.2 ⟨l1, by omega⟩
        cases hd : IN 0 1000000 d with
        | false =>
          have E : Hid (3 = CR n l d r s) := by unfold Hid CR N1 R1; rw [hn, k, hd]; rfl
          go_enter Tryz.func97, Tryz.ntmps97
          go_wp2_with (go_at_call 43; refine (s_in _ _ _ (by decide) _).mono ?_; rintro e w2 ⟨rfl, rfl⟩)
          go_ret
          exact ⟨reti (E.out), (Below.refl _ _).alloc (Nat.le_refl _) _⟩
        | true =>
          cases hr : IN 0 1000000 r with
          | false =>
            have E : Hid (3 = CR n l d r s) := by unfold Hid CR N1 R1; rw [hn, k, hd, hr]; rfl
            go_enter Tryz.func97, Tryz.ntmps97
            go_wp2_with (go_at_call 43; refine (s_in _ _ _ (by decide) _).mono ?_; rintro e w2 ⟨rfl, rfl⟩)
            go_ret
            exact ⟨reti (E.out), (Below.refl _ _).alloc (Nat.le_refl _) _⟩
          | true =>
            cases hs : IN 2 100000 s with
            | false =>
              have E : Hid (3 = CR n l d r s) := by unfold Hid CR N1 R1; rw [hn, k, hd, hr, hs]; rfl
              go_enter Tryz.func97, Tryz.ntmps97
              go_wp2_with (go_at_call 43; refine (s_in _ _ _ (by decide) _).mono ?_; rintro e w2 ⟨rfl, rfl⟩)
              go_ret
              exact ⟨reti (E.out), (Below.refl _ _).alloc (Nat.le_refl _) _⟩
            | true =>
              have E : Hid (0 = CR n l d r s) := by unfold Hid CR N1 R1; rw [hn, k, hd, hr, hs]; rfl
              go_enter Tryz.func97, Tryz.ntmps97
              go_wp2_with (go_at_call 43; refine (s_in _ _ _ (by decide) _).mono ?_; rintro e w2 ⟨rfl, rfl⟩)
              go_ret
              exact ⟨reti (E.out), (Below.refl _ _).alloc (Nat.le_refl _) _⟩

set_option maxHeartbeats 2000000 in
theorem s_GapMost (n l d r p s : Int) (w : World) :
    Calls Tryz.prog 114 #[cfg n l d r p s] w fun e w' => e = .returned (.int .i64 (GM n l d r s)) ∧ Below w.heap.size w w' := by
  have k1 := newS w n l d r p s 25
  by_cases h : CR n l d r s = 0
  · have H : Hid (CR n l d r s = 0) := h
    have E : GM n l d r s = 2 * d + 4 * r + 2 := if_pos h
    rw [E]
    clear E
    obtain ⟨m1, m2, m3⟩ := cr_zero.1 h
    have ⟨n1, n2⟩ := n1_iff.1 m1
    have ⟨l1, l2⟩ := l1_iff.1 m2
    have ⟨⟨d1, d2⟩, ⟨r1, r2⟩, s1, s2⟩ := r1_iff.1 m3
    clear m1 m2 m3
    go_enter Tryz.func114, Tryz.ntmps114
    go_wp2_with fail
    refine (s_Code _ _ _ _ _ _ _).mono ?_
    rintro e w2 ⟨rfl, hb2⟩
    have k2 := keepS hb2 k1
    have ⟨c20, c21, c22, c23, c24, c25, c26⟩ := k2
    go_wp2
    go_ret
    exact ⟨reti (by omega), c26.out⟩
  · have H : Hid (¬ CR n l d r s = 0) := h
    have E : GM n l d r s = -1 := if_neg h
    rw [E]
    clear E
    go_enter Tryz.func114, Tryz.ntmps114
    go_wp2_with fail
    refine (s_Code _ _ _ _ _ _ _).mono ?_
    rintro e w2 ⟨rfl, hb2⟩
    have k2 := keepS hb2 k1
    have ⟨c20, c21, c22, c23, c24, c25, c26⟩ := k2
    go_wp2
    go_ret
    exact ⟨rfl, c26.out⟩

set_option maxHeartbeats 2000000 in
theorem s_SkewMost (n l d r p s : Int) (w : World) :
    Calls Tryz.prog 107 #[cfg n l d r p s] w fun e w' => e = .returned (.int .i64 (SM n l d r s)) ∧ Below w.heap.size w w' := by
  have k1 := newS w n l d r p s 25
  by_cases h : CR n l d r s = 0
  · have H : Hid (CR n l d r s = 0) := h
    have E : SM n l d r s = 4 * d + 4 * r + 2 := if_pos h
    rw [E]
    clear E
    obtain ⟨m1, m2, m3⟩ := cr_zero.1 h
    have ⟨n1, n2⟩ := n1_iff.1 m1
    have ⟨l1, l2⟩ := l1_iff.1 m2
    have ⟨⟨d1, d2⟩, ⟨r1, r2⟩, s1, s2⟩ := r1_iff.1 m3
    clear m1 m2 m3
    go_enter Tryz.func107, Tryz.ntmps107
    go_wp2_with fail
    refine (s_Code _ _ _ _ _ _ _).mono ?_
    rintro e w2 ⟨rfl, hb2⟩
    have k2 := keepS hb2 k1
    have ⟨c20, c21, c22, c23, c24, c25, c26⟩ := k2
    go_wp2_with fail
    refine wp_region_noPanic ?_
    refine wp_region_held_drew (S := (fun w' => w'.cell? ⟨w.heap.size, 0, none⟩ = some (.int .i64 n) ∧ w'.cell? ⟨w.heap.size, 1, none⟩ = some (.int .i64 l) ∧ w'.cell? ⟨w.heap.size, 2, none⟩ = some (.int .i64 d) ∧ w'.cell? ⟨w.heap.size, 3, none⟩ = some (.int .i64 r) ∧ w'.cell? ⟨w.heap.size, 4, none⟩ = some (.int .i64 p) ∧ w'.cell? ⟨w.heap.size, 5, none⟩ = some (.int .i64 s) ∧ Hid (Below w.heap.size w w'))) (by kernel_rfl) (drewS k2) (fun hHeld => ?_)
    refine wpAnyH_take (i := 0) (oi := { dst := some 6, op := Op.load 25 (Operand.tmp 1), type := 25, pos := _, after := _, guard := none }) (v := ?vr110) rfl (by kernel_rfl) (by kernel_rfl) (by kernel_rfl) (fun _ _ _ h => h) (Or.inl ⟨by rfl, ?hyr110⟩) (by assumption) ?restr110
    case hyr110 => (intro w hSw; (try dsimp only at hSw); go_simp; first | done | with_reducible rfl)
    try simp only [Act.put, List.setIfInBounds_toArray, List.set_cons_zero, List.set_cons_succ]
    refine wpAnyH_take (i := 2) (oi := { dst := some 8, op := Op.fieldAddr 25 (Operand.tmp 1) 2, type := 0, pos := _, after := _, guard := none }) (v := ?vr112) rfl (by kernel_rfl) (by kernel_rfl) (by kernel_rfl) (fun _ _ _ h => h) (Or.inl ⟨by rfl, ?hyr112⟩) (by assumption) ?restr112
    case hyr112 => (intro w hSw; (try dsimp only at hSw); go_simp; first | done | with_reducible rfl)
    try simp only [Act.put, List.setIfInBounds_toArray, List.set_cons_zero, List.set_cons_succ]
    refine wpAnyH_take (i := 3) (oi := { dst := some 9, op := Op.load 2 (Operand.tmp 8), type := 2, pos := _, after := _, guard := none }) (v := ?vr113) rfl (by kernel_rfl) (by kernel_rfl) (by kernel_rfl) (fun _ _ _ h => h) (Or.inl ⟨by rfl, ?hyr113⟩) (by assumption) ?restr113
    case hyr113 => (intro w hSw; (try dsimp only at hSw); go_simp; first | done | with_reducible rfl)
    try simp only [Act.put, List.setIfInBounds_toArray, List.set_cons_zero, List.set_cons_succ]
    refine wpAnyH_take (i := 4) (oi := { dst := some 10, op := Op.binOp BinOp.mul 2 (Operand.const (Value.int IntKind.i64 2)) (Operand.tmp 9) 2, type := 2, pos := _, after := _, guard := none }) (v := ?vr114) rfl (by kernel_rfl) (by kernel_rfl) (by kernel_rfl) (fun _ _ _ h => h) (Or.inl ⟨by rfl, ?hyr114⟩) (by assumption) ?restr114
    case hyr114 => (intro w hSw; (try dsimp only at hSw); go_simp; first | done | with_reducible rfl)
    try simp only [Act.put, List.setIfInBounds_toArray, List.set_cons_zero, List.set_cons_succ]
    refine wpAnyH_ready (rs := [1]) (by kernel_rfl) (by simp) ?_
    refine AllReadyH.cons (o := { dst := some 7, op := Op.call { callee := Callee.value (Operand.func 114), args := #[Operand.tmp 6], argTypes := #[25] }, type := 2, pos := _, after := _, guard := none }) rfl (fun K hK => ?_) AllReadyH.nil
    go_simp
    refine (s_GapMost _ _ _ _ _ _ _).mono ?_
    rintro e vr111 ⟨rfl, hbr111⟩
    have kvr111 := keepS hbr111 hHeld
    try dsimp only
    refine hK.out _ _ kvr111 (fun hHeld' => ?_)
    clear hK K hHeld
    have hHeld := hHeld'
    clear hHeld'
    try simp only [Act.put, List.setIfInBounds_toArray, List.set_cons_zero, List.set_cons_succ]
    refine wpAnyH_take (i := 5) (oi := { dst := some 11, op := Op.binOp BinOp.add 2 (Operand.tmp 7) (Operand.tmp 10) 2, type := 2, pos := _, after := _, guard := none }) (v := ?vr115) rfl (by kernel_rfl) (by kernel_rfl) (by kernel_rfl) (fun _ _ _ h => h) (Or.inl ⟨by rfl, ?hyr115⟩) (by assumption) ?restr115
    case hyr115 => (intro w hSw; (try dsimp only at hSw); go_simp; first | done | with_reducible rfl)
    try simp only [Act.put, List.setIfInBounds_toArray, List.set_cons_zero, List.set_cons_succ]
    refine wpAnyH_take (i := 6) (oi := { dst := some 2, op := Op.assign (Operand.tmp 11), type := 2, pos := _, after := _, guard := none }) (v := ?vr116) rfl (by kernel_rfl) (by kernel_rfl) (by kernel_rfl) (fun _ _ _ h => h) (Or.inl ⟨by rfl, ?hyr116⟩) (by assumption) ?restr116
    case hyr116 => (intro w hSw; (try dsimp only at hSw); go_simp; first | done | with_reducible rfl)
    try simp only [Act.put, List.setIfInBounds_toArray, List.set_cons_zero, List.set_cons_succ]
    refine wpAnyH_done (by kernel_rfl) ?_ _
    refine NoPanic.normal ?_
    go_wp2_with fail
    go_ret
    exact ⟨reti (by (try rw [show GM n l d r s = _ from if_pos H.out]); (try simp only [IntKind.wrap_i64]); omega), hHeld.2.2.2.2.2.2.out⟩
  · have H : Hid (¬ CR n l d r s = 0) := h
    have E : SM n l d r s = -1 := if_neg h
    rw [E]
    clear E
    go_enter Tryz.func107, Tryz.ntmps107
    go_wp2_with fail
    refine (s_Code _ _ _ _ _ _ _).mono ?_
    rintro e w2 ⟨rfl, hb2⟩
    have k2 := keepS hb2 k1
    have ⟨c20, c21, c22, c23, c24, c25, c26⟩ := k2
    go_wp2
    go_ret
    exact ⟨rfl, c26.out⟩

set_option maxHeartbeats 2000000 in
theorem s_AdjustMost (n l d r p s : Int) (w : World) :
    Calls Tryz.prog 98 #[cfg n l d r p s] w fun e w' => e = .returned (.int .i64 (AM n l d r s)) ∧ Below w.heap.size w w' := by
  have k1 := newS w n l d r p s 25
  by_cases h : CR n l d r s = 0
  · have H : Hid (CR n l d r s = 0) := h
    have E : AM n l d r s = 4 * d + 5 * r + 2 := if_pos h
    rw [E]
    clear E
    obtain ⟨m1, m2, m3⟩ := cr_zero.1 h
    have ⟨n1, n2⟩ := n1_iff.1 m1
    have ⟨l1, l2⟩ := l1_iff.1 m2
    have ⟨⟨d1, d2⟩, ⟨r1, r2⟩, s1, s2⟩ := r1_iff.1 m3
    clear m1 m2 m3
    go_enter Tryz.func98, Tryz.ntmps98
    go_wp2_with fail
    refine (s_Code _ _ _ _ _ _ _).mono ?_
    rintro e w2 ⟨rfl, hb2⟩
    have k2 := keepS hb2 k1
    have ⟨c20, c21, c22, c23, c24, c25, c26⟩ := k2
    go_wp2_with fail
    refine wp_region_noPanic ?_
    refine wp_region_held_drew (S := (fun w' => w'.cell? ⟨w.heap.size, 0, none⟩ = some (.int .i64 n) ∧ w'.cell? ⟨w.heap.size, 1, none⟩ = some (.int .i64 l) ∧ w'.cell? ⟨w.heap.size, 2, none⟩ = some (.int .i64 d) ∧ w'.cell? ⟨w.heap.size, 3, none⟩ = some (.int .i64 r) ∧ w'.cell? ⟨w.heap.size, 4, none⟩ = some (.int .i64 p) ∧ w'.cell? ⟨w.heap.size, 5, none⟩ = some (.int .i64 s) ∧ Hid (Below w.heap.size w w'))) (by kernel_rfl) (drewS k2) (fun hHeld => ?_)
    refine wpAnyH_take (i := 0) (oi := { dst := some 6, op := Op.load 25 (Operand.tmp 1), type := 25, pos := _, after := _, guard := none }) (v := ?vr120) rfl (by kernel_rfl) (by kernel_rfl) (by kernel_rfl) (fun _ _ _ h => h) (Or.inl ⟨by rfl, ?hyr120⟩) (by assumption) ?restr120
    case hyr120 => (intro w hSw; (try dsimp only at hSw); go_simp; first | done | with_reducible rfl)
    try simp only [Act.put, List.setIfInBounds_toArray, List.set_cons_zero, List.set_cons_succ]
    refine wpAnyH_take (i := 2) (oi := { dst := some 8, op := Op.fieldAddr 25 (Operand.tmp 1) 3, type := 0, pos := _, after := _, guard := none }) (v := ?vr122) rfl (by kernel_rfl) (by kernel_rfl) (by kernel_rfl) (fun _ _ _ h => h) (Or.inl ⟨by rfl, ?hyr122⟩) (by assumption) ?restr122
    case hyr122 => (intro w hSw; (try dsimp only at hSw); go_simp; first | done | with_reducible rfl)
    try simp only [Act.put, List.setIfInBounds_toArray, List.set_cons_zero, List.set_cons_succ]
    refine wpAnyH_take (i := 3) (oi := { dst := some 9, op := Op.load 2 (Operand.tmp 8), type := 2, pos := _, after := _, guard := none }) (v := ?vr123) rfl (by kernel_rfl) (by kernel_rfl) (by kernel_rfl) (fun _ _ _ h => h) (Or.inl ⟨by rfl, ?hyr123⟩) (by assumption) ?restr123
    case hyr123 => (intro w hSw; (try dsimp only at hSw); go_simp; first | done | with_reducible rfl)
    try simp only [Act.put, List.setIfInBounds_toArray, List.set_cons_zero, List.set_cons_succ]
    refine wpAnyH_ready (rs := [1]) (by kernel_rfl) (by simp) ?_
    refine AllReadyH.cons (o := { dst := some 7, op := Op.call { callee := Callee.value (Operand.func 107), args := #[Operand.tmp 6], argTypes := #[25] }, type := 2, pos := _, after := _, guard := none }) rfl (fun K hK => ?_) AllReadyH.nil
    go_simp
    refine (s_SkewMost _ _ _ _ _ _ _).mono ?_
    rintro e vr121 ⟨rfl, hbr121⟩
    have kvr121 := keepS hbr121 hHeld
    try dsimp only
    refine hK.out _ _ kvr121 (fun hHeld' => ?_)
    clear hK K hHeld
    have hHeld := hHeld'
    clear hHeld'
    try simp only [Act.put, List.setIfInBounds_toArray, List.set_cons_zero, List.set_cons_succ]
    refine wpAnyH_take (i := 4) (oi := { dst := some 10, op := Op.binOp BinOp.add 2 (Operand.tmp 7) (Operand.tmp 9) 2, type := 2, pos := _, after := _, guard := none }) (v := ?vr124) rfl (by kernel_rfl) (by kernel_rfl) (by kernel_rfl) (fun _ _ _ h => h) (Or.inl ⟨by rfl, ?hyr124⟩) (by assumption) ?restr124
    case hyr124 => (intro w hSw; (try dsimp only at hSw); go_simp; first | done | with_reducible rfl)
    try simp only [Act.put, List.setIfInBounds_toArray, List.set_cons_zero, List.set_cons_succ]
    refine wpAnyH_take (i := 5) (oi := { dst := some 2, op := Op.assign (Operand.tmp 10), type := 2, pos := _, after := _, guard := none }) (v := ?vr125) rfl (by kernel_rfl) (by kernel_rfl) (by kernel_rfl) (fun _ _ _ h => h) (Or.inl ⟨by rfl, ?hyr125⟩) (by assumption) ?restr125
    case hyr125 => (intro w hSw; (try dsimp only at hSw); go_simp; first | done | with_reducible rfl)
    try simp only [Act.put, List.setIfInBounds_toArray, List.set_cons_zero, List.set_cons_succ]
    refine wpAnyH_done (by kernel_rfl) ?_ _
    refine NoPanic.normal ?_
    go_wp2_with fail
    go_ret
    exact ⟨reti (by (try rw [show SM n l d r s = _ from if_pos H.out]); (try simp only [IntKind.wrap_i64]); omega), hHeld.2.2.2.2.2.2.out⟩
  · have H : Hid (¬ CR n l d r s = 0) := h
    have E : AM n l d r s = -1 := if_neg h
    rw [E]
    clear E
    go_enter Tryz.func98, Tryz.ntmps98
    go_wp2_with fail
    refine (s_Code _ _ _ _ _ _ _).mono ?_
    rintro e w2 ⟨rfl, hb2⟩
    have k2 := keepS hb2 k1
    have ⟨c20, c21, c22, c23, c24, c25, c26⟩ := k2
    go_wp2
    go_ret
    exact ⟨rfl, c26.out⟩

set_option maxHeartbeats 2000000 in
theorem s_CodeOf (n l d r p s : Int) (w : World) :
    Calls Tryz.prog 79 #[cfg n l d r p s] w fun e w' => e = .returned (.int .i64 (CP n l d r p s)) ∧ Below w.heap.size w w' := by
  have k1 := newS w n l d r p s 25
  by_cases h : CR n l d r s = 0
  · have H : Hid (CR n l d r s = 0) := h
    obtain ⟨m1, m2, m3⟩ := cr_zero.1 h
    have ⟨⟨d1, d2⟩, ⟨r1, r2⟩, s1, s2⟩ := r1_iff.1 m3
    have q1 := (prod (g := 4 * d + 5 * r + 2) (s := s) (by omega) (by omega) s1 s2)
    have q2 := wrapped q1.1 q1.2
    have A : AM n l d r s = 4 * d + 5 * r + 2 := if_pos h
    cases hp : IN 1 1000000000000000 p with
    | false =>
      have E : Hid (4 = CP n l d r p s) := by unfold Hid CP P1; rw [m1, m2, m3, hp]; rfl
      clear m1 m2 m3
      go_enter Tryz.func79, Tryz.ntmps79
      go_wp2_with fail
      refine (s_Code _ _ _ _ _ _ _).mono ?_
      rintro e w2 ⟨rfl, hb2⟩
      have k2 := keepS hb2 k1
      have ⟨c20, c21, c22, c23, c24, c25, c26⟩ := k2
      go_wp2_with fail
      refine wp_region_noPanic ?_
      refine wp_region_held_drew (S := (fun w' => w'.cell? ⟨w.heap.size, 0, none⟩ = some (.int .i64 n) ∧ w'.cell? ⟨w.heap.size, 1, none⟩ = some (.int .i64 l) ∧ w'.cell? ⟨w.heap.size, 2, none⟩ = some (.int .i64 d) ∧ w'.cell? ⟨w.heap.size, 3, none⟩ = some (.int .i64 r) ∧ w'.cell? ⟨w.heap.size, 4, none⟩ = some (.int .i64 p) ∧ w'.cell? ⟨w.heap.size, 5, none⟩ = some (.int .i64 s) ∧ Hid (Below w.heap.size w w'))) (by kernel_rfl) (drewS k2) (fun hHeld => ?_)
      refine wpAnyH_take (i := 0) (oi := { dst := some 9, op := Op.fieldAddr 25 (Operand.tmp 1) 4, type := 0, pos := _, after := _, guard := none }) (v := ?vr130) rfl (by kernel_rfl) (by kernel_rfl) (by kernel_rfl) (fun _ _ _ h => h) (Or.inl ⟨by rfl, ?hyr130⟩) (by assumption) ?restr130
      case hyr130 => (intro w hSw; (try dsimp only at hSw); go_simp; first | done | with_reducible rfl)
      try simp only [Act.put, List.setIfInBounds_toArray, List.set_cons_zero, List.set_cons_succ]
      refine wpAnyH_take (i := 1) (oi := { dst := some 10, op := Op.load 2 (Operand.tmp 9), type := 2, pos := _, after := _, guard := none }) (v := ?vr131) rfl (by kernel_rfl) (by kernel_rfl) (by kernel_rfl) (fun _ _ _ h => h) (Or.inl ⟨by rfl, ?hyr131⟩) (by assumption) ?restr131
      case hyr131 => (intro w hSw; (try dsimp only at hSw); go_simp; first | done | with_reducible rfl)
      try simp only [Act.put, List.setIfInBounds_toArray, List.set_cons_zero, List.set_cons_succ]
      refine wpAnyH_ready (rs := [2]) (by kernel_rfl) (by simp) ?_
      refine AllReadyH.cons (o := { dst := some 11, op := Op.call { callee := Callee.value (Operand.func 43), args := #[Operand.tmp 10, Operand.const (Value.int IntKind.i64 1), Operand.const (Value.int IntKind.i64 1000000000000000)], argTypes := #[2, 2, 2] }, type := 4, pos := _, after := _, guard := none }) rfl (fun K hK => ?_) AllReadyH.nil
      go_simp
      refine (s_in _ _ _ (by decide) _).mono ?_
      rintro e vr132 ⟨rfl, rfl⟩
      have kvr132 := hHeld
      try rw [hp]
      try dsimp only
      refine hK.out _ _ kvr132 (fun hHeld' => ?_)
      clear hK K hHeld
      have hHeld := hHeld'
      clear hHeld'
      try simp only [Act.put, List.setIfInBounds_toArray, List.set_cons_zero, List.set_cons_succ]
      refine wpAnyH_take (i := 3) (oi := { dst := some 12, op := Op.unOp UnOp.not 4 (Operand.tmp 11), type := 4, pos := _, after := _, guard := none }) (v := ?vr133) rfl (by kernel_rfl) (by kernel_rfl) (by kernel_rfl) (fun _ _ _ h => h) (Or.inl ⟨by rfl, ?hyr133⟩) (by assumption) ?restr133
      case hyr133 => (intro w hSw; (try dsimp only at hSw); go_simp; first | done | with_reducible rfl)
      try simp only [Act.put, List.setIfInBounds_toArray, List.set_cons_zero, List.set_cons_succ]
      refine wpAnyH_take (i := 4) (oi := { dst := some 13, op := Op.move (Operand.tmp 12), type := 4, pos := _, after := _, guard := none }) (v := ?vr134) rfl (by kernel_rfl) (by kernel_rfl) (by kernel_rfl) (fun _ _ _ h => h) (Or.inl ⟨by rfl, ?hyr134⟩) (by assumption) ?restr134
      case hyr134 => (intro w hSw; (try dsimp only at hSw); go_simp; first | done | with_reducible rfl)
      try simp only [Act.put, List.setIfInBounds_toArray, List.set_cons_zero, List.set_cons_succ]
      refine wpAnyH_take (i := 5) (oi := { dst := some 14, op := Op.fieldAddr 25 (Operand.tmp 1) 4, type := 0, pos := _, after := _, guard := some (4, false) }) (v := undef) rfl (by kernel_rfl) (by kernel_rfl) (by kernel_rfl) (fun _ _ _ h => h) (Or.inr ⟨by rfl, rfl⟩) (by assumption) ?_
      try simp only [Act.put, List.setIfInBounds_toArray, List.set_cons_zero, List.set_cons_succ]
      refine wpAnyH_take (i := 6) (oi := { dst := some 15, op := Op.load 2 (Operand.tmp 14), type := 2, pos := _, after := _, guard := some (4, false) }) (v := undef) rfl (by kernel_rfl) (by kernel_rfl) (by kernel_rfl) (fun _ _ _ h => h) (Or.inr ⟨by rfl, rfl⟩) (by assumption) ?_
      try simp only [Act.put, List.setIfInBounds_toArray, List.set_cons_zero, List.set_cons_succ]
      refine wpAnyH_take (i := 7) (oi := { dst := some 16, op := Op.load 25 (Operand.tmp 1), type := 25, pos := _, after := _, guard := some (4, false) }) (v := undef) rfl (by kernel_rfl) (by kernel_rfl) (by kernel_rfl) (fun _ _ _ h => h) (Or.inr ⟨by rfl, rfl⟩) (by assumption) ?_
      try simp only [Act.put, List.setIfInBounds_toArray, List.set_cons_zero, List.set_cons_succ]
      refine wpAnyH_take (i := 9) (oi := { dst := some 18, op := Op.fieldAddr 25 (Operand.tmp 1) 5, type := 0, pos := _, after := _, guard := some (4, false) }) (v := undef) rfl (by kernel_rfl) (by kernel_rfl) (by kernel_rfl) (fun _ _ _ h => h) (Or.inr ⟨by rfl, rfl⟩) (by assumption) ?_
      try simp only [Act.put, List.setIfInBounds_toArray, List.set_cons_zero, List.set_cons_succ]
      refine wpAnyH_take (i := 10) (oi := { dst := some 19, op := Op.load 2 (Operand.tmp 18), type := 2, pos := _, after := _, guard := some (4, false) }) (v := undef) rfl (by kernel_rfl) (by kernel_rfl) (by kernel_rfl) (fun _ _ _ h => h) (Or.inr ⟨by rfl, rfl⟩) (by assumption) ?_
      try simp only [Act.put, List.setIfInBounds_toArray, List.set_cons_zero, List.set_cons_succ]
      first | refine wpAnyH_take (i := 8) (oi := { dst := some 17, op := Op.call { callee := Callee.value (Operand.func 98), args := #[Operand.tmp 16], argTypes := #[25] }, type := 2, pos := _, after := _, guard := some (4, false) }) (v := undef) rfl (by kernel_rfl) (by kernel_rfl) (by kernel_rfl) (fun _ _ _ h => h) (Or.inr ⟨by rfl, rfl⟩) (by assumption) ?_ | (refine wpAnyH_ready (rs := [8]) (by kernel_rfl) (by simp) ?_; refine AllReadyH.cons (o := { dst := some 17, op := Op.call { callee := Callee.value (Operand.func 98), args := #[Operand.tmp 16], argTypes := #[25] }, type := 2, pos := _, after := _, guard := some (4, false) }) rfl (fun K hK => ?_) AllReadyH.nil; go_simp; refine hK.out _ _ (by assumption) (fun hHeld => ?_); clear hK K)
      try simp only [Act.put, List.setIfInBounds_toArray, List.set_cons_zero, List.set_cons_succ]
      refine wpAnyH_take (i := 11) (oi := { dst := some 20, op := Op.binOp BinOp.mul 2 (Operand.tmp 17) (Operand.tmp 19) 2, type := 2, pos := _, after := _, guard := some (4, false) }) (v := undef) rfl (by kernel_rfl) (by kernel_rfl) (by kernel_rfl) (fun _ _ _ h => h) (Or.inr ⟨by rfl, rfl⟩) (by assumption) ?_
      try simp only [Act.put, List.setIfInBounds_toArray, List.set_cons_zero, List.set_cons_succ]
      refine wpAnyH_take (i := 12) (oi := { dst := some 21, op := Op.binOp BinOp.lss 2 (Operand.tmp 15) (Operand.tmp 20) 2, type := 4, pos := _, after := _, guard := some (4, false) }) (v := undef) rfl (by kernel_rfl) (by kernel_rfl) (by kernel_rfl) (fun _ _ _ h => h) (Or.inr ⟨by rfl, rfl⟩) (by assumption) ?_
      try simp only [Act.put, List.setIfInBounds_toArray, List.set_cons_zero, List.set_cons_succ]
      refine wpAnyH_take (i := 13) (oi := { dst := some 22, op := Op.pick (Operand.tmp 13) (Operand.const (Value.bool true)) (Operand.tmp 21), type := 4, pos := _, after := _, guard := none }) (v := ?vr1313) rfl (by kernel_rfl) (by kernel_rfl) (by kernel_rfl) (fun _ _ _ h => h) (Or.inl ⟨by rfl, ?hyr1313⟩) (by assumption) ?restr1313
      case hyr1313 => (intro w hSw; (try dsimp only at hSw); go_simp; first | done | with_reducible rfl)
      try simp only [Act.put, List.setIfInBounds_toArray, List.set_cons_zero, List.set_cons_succ]
      refine wpAnyH_done (by kernel_rfl) ?_ _
      refine NoPanic.normal ?_
      go_wp2_with fail
      go_ret
      exact ⟨reti E.out, hHeld.2.2.2.2.2.2.out⟩
    | true =>
      cases hq : decide ((4 * d + 5 * r + 2) * s ≤ p) with
      | false =>
        have E : Hid (4 = CP n l d r p s) := by unfold Hid CP P1; rw [m1, m2, m3, hp, hq]; rfl
        clear m1 m2 m3
        go_enter Tryz.func79, Tryz.ntmps79
        go_wp2_with fail
        refine (s_Code _ _ _ _ _ _ _).mono ?_
        rintro e w2 ⟨rfl, hb2⟩
        have k2 := keepS hb2 k1
        have ⟨c20, c21, c22, c23, c24, c25, c26⟩ := k2
        rw [decide_eq_false_iff_not] at hq
        have hq2 : decide (p < (4 * d + 5 * r + 2) * s) = true := by simp; omega
        go_wp2_with fail
        refine wp_region_noPanic ?_
        refine wp_region_held_drew (S := (fun w' => w'.cell? ⟨w.heap.size, 0, none⟩ = some (.int .i64 n) ∧ w'.cell? ⟨w.heap.size, 1, none⟩ = some (.int .i64 l) ∧ w'.cell? ⟨w.heap.size, 2, none⟩ = some (.int .i64 d) ∧ w'.cell? ⟨w.heap.size, 3, none⟩ = some (.int .i64 r) ∧ w'.cell? ⟨w.heap.size, 4, none⟩ = some (.int .i64 p) ∧ w'.cell? ⟨w.heap.size, 5, none⟩ = some (.int .i64 s) ∧ Hid (Below w.heap.size w w'))) (by kernel_rfl) (drewS k2) (fun hHeld => ?_)
        refine wpAnyH_take (i := 0) (oi := { dst := some 9, op := Op.fieldAddr 25 (Operand.tmp 1) 4, type := 0, pos := _, after := _, guard := none }) (v := ?vr140) rfl (by kernel_rfl) (by kernel_rfl) (by kernel_rfl) (fun _ _ _ h => h) (Or.inl ⟨by rfl, ?hyr140⟩) (by assumption) ?restr140
        case hyr140 => (intro w hSw; (try dsimp only at hSw); go_simp; first | done | with_reducible rfl)
        try simp only [Act.put, List.setIfInBounds_toArray, List.set_cons_zero, List.set_cons_succ]
        refine wpAnyH_take (i := 1) (oi := { dst := some 10, op := Op.load 2 (Operand.tmp 9), type := 2, pos := _, after := _, guard := none }) (v := ?vr141) rfl (by kernel_rfl) (by kernel_rfl) (by kernel_rfl) (fun _ _ _ h => h) (Or.inl ⟨by rfl, ?hyr141⟩) (by assumption) ?restr141
        case hyr141 => (intro w hSw; (try dsimp only at hSw); go_simp; first | done | with_reducible rfl)
        try simp only [Act.put, List.setIfInBounds_toArray, List.set_cons_zero, List.set_cons_succ]
        refine wpAnyH_ready (rs := [2]) (by kernel_rfl) (by simp) ?_
        refine AllReadyH.cons (o := { dst := some 11, op := Op.call { callee := Callee.value (Operand.func 43), args := #[Operand.tmp 10, Operand.const (Value.int IntKind.i64 1), Operand.const (Value.int IntKind.i64 1000000000000000)], argTypes := #[2, 2, 2] }, type := 4, pos := _, after := _, guard := none }) rfl (fun K hK => ?_) AllReadyH.nil
        go_simp
        refine (s_in _ _ _ (by decide) _).mono ?_
        rintro e vr142 ⟨rfl, rfl⟩
        have kvr142 := hHeld
        try rw [hp]
        try dsimp only
        refine hK.out _ _ kvr142 (fun hHeld' => ?_)
        clear hK K hHeld
        have hHeld := hHeld'
        clear hHeld'
        try simp only [Act.put, List.setIfInBounds_toArray, List.set_cons_zero, List.set_cons_succ]
        refine wpAnyH_take (i := 3) (oi := { dst := some 12, op := Op.unOp UnOp.not 4 (Operand.tmp 11), type := 4, pos := _, after := _, guard := none }) (v := ?vr143) rfl (by kernel_rfl) (by kernel_rfl) (by kernel_rfl) (fun _ _ _ h => h) (Or.inl ⟨by rfl, ?hyr143⟩) (by assumption) ?restr143
        case hyr143 => (intro w hSw; (try dsimp only at hSw); go_simp; first | done | with_reducible rfl)
        try simp only [Act.put, List.setIfInBounds_toArray, List.set_cons_zero, List.set_cons_succ]
        refine wpAnyH_take (i := 4) (oi := { dst := some 13, op := Op.move (Operand.tmp 12), type := 4, pos := _, after := _, guard := none }) (v := ?vr144) rfl (by kernel_rfl) (by kernel_rfl) (by kernel_rfl) (fun _ _ _ h => h) (Or.inl ⟨by rfl, ?hyr144⟩) (by assumption) ?restr144
        case hyr144 => (intro w hSw; (try dsimp only at hSw); go_simp; first | done | with_reducible rfl)
        try simp only [Act.put, List.setIfInBounds_toArray, List.set_cons_zero, List.set_cons_succ]
        refine wpAnyH_take (i := 5) (oi := { dst := some 14, op := Op.fieldAddr 25 (Operand.tmp 1) 4, type := 0, pos := _, after := _, guard := some (4, false) }) (v := ?vr145) rfl (by kernel_rfl) (by kernel_rfl) (by kernel_rfl) (fun _ _ _ h => h) (Or.inl ⟨by rfl, ?hyr145⟩) (by assumption) ?restr145
        case hyr145 => (intro w hSw; (try dsimp only at hSw); go_simp; first | done | with_reducible rfl)
        try simp only [Act.put, List.setIfInBounds_toArray, List.set_cons_zero, List.set_cons_succ]
        refine wpAnyH_take (i := 6) (oi := { dst := some 15, op := Op.load 2 (Operand.tmp 14), type := 2, pos := _, after := _, guard := some (4, false) }) (v := ?vr146) rfl (by kernel_rfl) (by kernel_rfl) (by kernel_rfl) (fun _ _ _ h => h) (Or.inl ⟨by rfl, ?hyr146⟩) (by assumption) ?restr146
        case hyr146 => (intro w hSw; (try dsimp only at hSw); go_simp; first | done | with_reducible rfl)
        try simp only [Act.put, List.setIfInBounds_toArray, List.set_cons_zero, List.set_cons_succ]
        refine wpAnyH_take (i := 7) (oi := { dst := some 16, op := Op.load 25 (Operand.tmp 1), type := 25, pos := _, after := _, guard := some (4, false) }) (v := ?vr147) rfl (by kernel_rfl) (by kernel_rfl) (by kernel_rfl) (fun _ _ _ h => h) (Or.inl ⟨by rfl, ?hyr147⟩) (by assumption) ?restr147
        case hyr147 => (intro w hSw; (try dsimp only at hSw); go_simp; first | done | with_reducible rfl)
        try simp only [Act.put, List.setIfInBounds_toArray, List.set_cons_zero, List.set_cons_succ]
        refine wpAnyH_take (i := 9) (oi := { dst := some 18, op := Op.fieldAddr 25 (Operand.tmp 1) 5, type := 0, pos := _, after := _, guard := some (4, false) }) (v := ?vr149) rfl (by kernel_rfl) (by kernel_rfl) (by kernel_rfl) (fun _ _ _ h => h) (Or.inl ⟨by rfl, ?hyr149⟩) (by assumption) ?restr149
        case hyr149 => (intro w hSw; (try dsimp only at hSw); go_simp; first | done | with_reducible rfl)
        try simp only [Act.put, List.setIfInBounds_toArray, List.set_cons_zero, List.set_cons_succ]
        refine wpAnyH_take (i := 10) (oi := { dst := some 19, op := Op.load 2 (Operand.tmp 18), type := 2, pos := _, after := _, guard := some (4, false) }) (v := ?vr1410) rfl (by kernel_rfl) (by kernel_rfl) (by kernel_rfl) (fun _ _ _ h => h) (Or.inl ⟨by rfl, ?hyr1410⟩) (by assumption) ?restr1410
        case hyr1410 => (intro w hSw; (try dsimp only at hSw); go_simp; first | done | with_reducible rfl)
        try simp only [Act.put, List.setIfInBounds_toArray, List.set_cons_zero, List.set_cons_succ]
        refine wpAnyH_ready (rs := [8]) (by kernel_rfl) (by simp) ?_
        refine AllReadyH.cons (o := { dst := some 17, op := Op.call { callee := Callee.value (Operand.func 98), args := #[Operand.tmp 16], argTypes := #[25] }, type := 2, pos := _, after := _, guard := some (4, false) }) rfl (fun K hK => ?_) AllReadyH.nil
        go_simp
        refine (s_AdjustMost _ _ _ _ _ _ _).mono ?_
        rintro e vr148 ⟨rfl, hbr148⟩
        have kvr148 := keepS hbr148 hHeld
        try rw [A]
        try dsimp only
        refine hK.out _ _ kvr148 (fun hHeld' => ?_)
        clear hK K hHeld
        have hHeld := hHeld'
        clear hHeld'
        try simp only [Act.put, List.setIfInBounds_toArray, List.set_cons_zero, List.set_cons_succ]
        refine wpAnyH_take (i := 11) (oi := { dst := some 20, op := Op.binOp BinOp.mul 2 (Operand.tmp 17) (Operand.tmp 19) 2, type := 2, pos := _, after := _, guard := some (4, false) }) (v := ?vr1411) rfl (by kernel_rfl) (by kernel_rfl) (by kernel_rfl) (fun _ _ _ h => h) (Or.inl ⟨by rfl, ?hyr1411⟩) (by assumption) ?restr1411
        case hyr1411 => (intro w hSw; (try dsimp only at hSw); go_simp; first | done | with_reducible rfl)
        try simp only [Act.put, List.setIfInBounds_toArray, List.set_cons_zero, List.set_cons_succ]
        refine wpAnyH_take (i := 12) (oi := { dst := some 21, op := Op.binOp BinOp.lss 2 (Operand.tmp 15) (Operand.tmp 20) 2, type := 4, pos := _, after := _, guard := some (4, false) }) (v := ?vr1412) rfl (by kernel_rfl) (by kernel_rfl) (by kernel_rfl) (fun _ _ _ h => h) (Or.inl ⟨by rfl, ?hyr1412⟩) (by assumption) ?restr1412
        case hyr1412 => (intro w hSw; (try dsimp only at hSw); go_simp; first | done | with_reducible rfl)
        try simp only [Act.put, List.setIfInBounds_toArray, List.set_cons_zero, List.set_cons_succ]
        refine wpAnyH_take (i := 13) (oi := { dst := some 22, op := Op.pick (Operand.tmp 13) (Operand.const (Value.bool true)) (Operand.tmp 21), type := 4, pos := _, after := _, guard := none }) (v := ?vr1413) rfl (by kernel_rfl) (by kernel_rfl) (by kernel_rfl) (fun _ _ _ h => h) (Or.inl ⟨by rfl, ?hyr1413⟩) (by assumption) ?restr1413
        case hyr1413 => (intro w hSw; (try dsimp only at hSw); go_simp; first | done | with_reducible rfl)
        try simp only [Act.put, List.setIfInBounds_toArray, List.set_cons_zero, List.set_cons_succ]
        refine wpAnyH_done (by kernel_rfl) ?_ _
        refine NoPanic.normal ?_
        go_wp2_with fail
        go_ret
        exact ⟨reti E.out, hHeld.2.2.2.2.2.2.out⟩
      | true =>
        have E : Hid (0 = CP n l d r p s) := by unfold Hid CP P1; rw [m1, m2, m3, hp, hq]; rfl
        clear m1 m2 m3
        go_enter Tryz.func79, Tryz.ntmps79
        go_wp2_with fail
        refine (s_Code _ _ _ _ _ _ _).mono ?_
        rintro e w2 ⟨rfl, hb2⟩
        have k2 := keepS hb2 k1
        have ⟨c20, c21, c22, c23, c24, c25, c26⟩ := k2
        rw [decide_eq_true_iff] at hq
        have hq2 : decide (p < (4 * d + 5 * r + 2) * s) = false := by simp; omega
        go_wp2_with fail
        refine wp_region_noPanic ?_
        refine wp_region_held_drew (S := (fun w' => w'.cell? ⟨w.heap.size, 0, none⟩ = some (.int .i64 n) ∧ w'.cell? ⟨w.heap.size, 1, none⟩ = some (.int .i64 l) ∧ w'.cell? ⟨w.heap.size, 2, none⟩ = some (.int .i64 d) ∧ w'.cell? ⟨w.heap.size, 3, none⟩ = some (.int .i64 r) ∧ w'.cell? ⟨w.heap.size, 4, none⟩ = some (.int .i64 p) ∧ w'.cell? ⟨w.heap.size, 5, none⟩ = some (.int .i64 s) ∧ Hid (Below w.heap.size w w'))) (by kernel_rfl) (drewS k2) (fun hHeld => ?_)
        refine wpAnyH_take (i := 0) (oi := { dst := some 9, op := Op.fieldAddr 25 (Operand.tmp 1) 4, type := 0, pos := _, after := _, guard := none }) (v := ?vr150) rfl (by kernel_rfl) (by kernel_rfl) (by kernel_rfl) (fun _ _ _ h => h) (Or.inl ⟨by rfl, ?hyr150⟩) (by assumption) ?restr150
        case hyr150 => (intro w hSw; (try dsimp only at hSw); go_simp; first | done | with_reducible rfl)
        try simp only [Act.put, List.setIfInBounds_toArray, List.set_cons_zero, List.set_cons_succ]
        refine wpAnyH_take (i := 1) (oi := { dst := some 10, op := Op.load 2 (Operand.tmp 9), type := 2, pos := _, after := _, guard := none }) (v := ?vr151) rfl (by kernel_rfl) (by kernel_rfl) (by kernel_rfl) (fun _ _ _ h => h) (Or.inl ⟨by rfl, ?hyr151⟩) (by assumption) ?restr151
        case hyr151 => (intro w hSw; (try dsimp only at hSw); go_simp; first | done | with_reducible rfl)
        try simp only [Act.put, List.setIfInBounds_toArray, List.set_cons_zero, List.set_cons_succ]
        refine wpAnyH_ready (rs := [2]) (by kernel_rfl) (by simp) ?_
        refine AllReadyH.cons (o := { dst := some 11, op := Op.call { callee := Callee.value (Operand.func 43), args := #[Operand.tmp 10, Operand.const (Value.int IntKind.i64 1), Operand.const (Value.int IntKind.i64 1000000000000000)], argTypes := #[2, 2, 2] }, type := 4, pos := _, after := _, guard := none }) rfl (fun K hK => ?_) AllReadyH.nil
        go_simp
        refine (s_in _ _ _ (by decide) _).mono ?_
        rintro e vr152 ⟨rfl, rfl⟩
        have kvr152 := hHeld
        try rw [hp]
        try dsimp only
        refine hK.out _ _ kvr152 (fun hHeld' => ?_)
        clear hK K hHeld
        have hHeld := hHeld'
        clear hHeld'
        try simp only [Act.put, List.setIfInBounds_toArray, List.set_cons_zero, List.set_cons_succ]
        refine wpAnyH_take (i := 3) (oi := { dst := some 12, op := Op.unOp UnOp.not 4 (Operand.tmp 11), type := 4, pos := _, after := _, guard := none }) (v := ?vr153) rfl (by kernel_rfl) (by kernel_rfl) (by kernel_rfl) (fun _ _ _ h => h) (Or.inl ⟨by rfl, ?hyr153⟩) (by assumption) ?restr153
        case hyr153 => (intro w hSw; (try dsimp only at hSw); go_simp; first | done | with_reducible rfl)
        try simp only [Act.put, List.setIfInBounds_toArray, List.set_cons_zero, List.set_cons_succ]
        refine wpAnyH_take (i := 4) (oi := { dst := some 13, op := Op.move (Operand.tmp 12), type := 4, pos := _, after := _, guard := none }) (v := ?vr154) rfl (by kernel_rfl) (by kernel_rfl) (by kernel_rfl) (fun _ _ _ h => h) (Or.inl ⟨by rfl, ?hyr154⟩) (by assumption) ?restr154
        case hyr154 => (intro w hSw; (try dsimp only at hSw); go_simp; first | done | with_reducible rfl)
        try simp only [Act.put, List.setIfInBounds_toArray, List.set_cons_zero, List.set_cons_succ]
        refine wpAnyH_take (i := 5) (oi := { dst := some 14, op := Op.fieldAddr 25 (Operand.tmp 1) 4, type := 0, pos := _, after := _, guard := some (4, false) }) (v := ?vr155) rfl (by kernel_rfl) (by kernel_rfl) (by kernel_rfl) (fun _ _ _ h => h) (Or.inl ⟨by rfl, ?hyr155⟩) (by assumption) ?restr155
        case hyr155 => (intro w hSw; (try dsimp only at hSw); go_simp; first | done | with_reducible rfl)
        try simp only [Act.put, List.setIfInBounds_toArray, List.set_cons_zero, List.set_cons_succ]
        refine wpAnyH_take (i := 6) (oi := { dst := some 15, op := Op.load 2 (Operand.tmp 14), type := 2, pos := _, after := _, guard := some (4, false) }) (v := ?vr156) rfl (by kernel_rfl) (by kernel_rfl) (by kernel_rfl) (fun _ _ _ h => h) (Or.inl ⟨by rfl, ?hyr156⟩) (by assumption) ?restr156
        case hyr156 => (intro w hSw; (try dsimp only at hSw); go_simp; first | done | with_reducible rfl)
        try simp only [Act.put, List.setIfInBounds_toArray, List.set_cons_zero, List.set_cons_succ]
        refine wpAnyH_take (i := 7) (oi := { dst := some 16, op := Op.load 25 (Operand.tmp 1), type := 25, pos := _, after := _, guard := some (4, false) }) (v := ?vr157) rfl (by kernel_rfl) (by kernel_rfl) (by kernel_rfl) (fun _ _ _ h => h) (Or.inl ⟨by rfl, ?hyr157⟩) (by assumption) ?restr157
        case hyr157 => (intro w hSw; (try dsimp only at hSw); go_simp; first | done | with_reducible rfl)
        try simp only [Act.put, List.setIfInBounds_toArray, List.set_cons_zero, List.set_cons_succ]
        refine wpAnyH_take (i := 9) (oi := { dst := some 18, op := Op.fieldAddr 25 (Operand.tmp 1) 5, type := 0, pos := _, after := _, guard := some (4, false) }) (v := ?vr159) rfl (by kernel_rfl) (by kernel_rfl) (by kernel_rfl) (fun _ _ _ h => h) (Or.inl ⟨by rfl, ?hyr159⟩) (by assumption) ?restr159
        case hyr159 => (intro w hSw; (try dsimp only at hSw); go_simp; first | done | with_reducible rfl)
        try simp only [Act.put, List.setIfInBounds_toArray, List.set_cons_zero, List.set_cons_succ]
        refine wpAnyH_take (i := 10) (oi := { dst := some 19, op := Op.load 2 (Operand.tmp 18), type := 2, pos := _, after := _, guard := some (4, false) }) (v := ?vr1510) rfl (by kernel_rfl) (by kernel_rfl) (by kernel_rfl) (fun _ _ _ h => h) (Or.inl ⟨by rfl, ?hyr1510⟩) (by assumption) ?restr1510
        case hyr1510 => (intro w hSw; (try dsimp only at hSw); go_simp; first | done | with_reducible rfl)
        try simp only [Act.put, List.setIfInBounds_toArray, List.set_cons_zero, List.set_cons_succ]
        refine wpAnyH_ready (rs := [8]) (by kernel_rfl) (by simp) ?_
        refine AllReadyH.cons (o := { dst := some 17, op := Op.call { callee := Callee.value (Operand.func 98), args := #[Operand.tmp 16], argTypes := #[25] }, type := 2, pos := _, after := _, guard := some (4, false) }) rfl (fun K hK => ?_) AllReadyH.nil
        go_simp
        refine (s_AdjustMost _ _ _ _ _ _ _).mono ?_
        rintro e vr158 ⟨rfl, hbr158⟩
        have kvr158 := keepS hbr158 hHeld
        try rw [A]
        try dsimp only
        refine hK.out _ _ kvr158 (fun hHeld' => ?_)
        clear hK K hHeld
        have hHeld := hHeld'
        clear hHeld'
        try simp only [Act.put, List.setIfInBounds_toArray, List.set_cons_zero, List.set_cons_succ]
        refine wpAnyH_take (i := 11) (oi := { dst := some 20, op := Op.binOp BinOp.mul 2 (Operand.tmp 17) (Operand.tmp 19) 2, type := 2, pos := _, after := _, guard := some (4, false) }) (v := ?vr1511) rfl (by kernel_rfl) (by kernel_rfl) (by kernel_rfl) (fun _ _ _ h => h) (Or.inl ⟨by rfl, ?hyr1511⟩) (by assumption) ?restr1511
        case hyr1511 => (intro w hSw; (try dsimp only at hSw); go_simp; first | done | with_reducible rfl)
        try simp only [Act.put, List.setIfInBounds_toArray, List.set_cons_zero, List.set_cons_succ]
        refine wpAnyH_take (i := 12) (oi := { dst := some 21, op := Op.binOp BinOp.lss 2 (Operand.tmp 15) (Operand.tmp 20) 2, type := 4, pos := _, after := _, guard := some (4, false) }) (v := ?vr1512) rfl (by kernel_rfl) (by kernel_rfl) (by kernel_rfl) (fun _ _ _ h => h) (Or.inl ⟨by rfl, ?hyr1512⟩) (by assumption) ?restr1512
        case hyr1512 => (intro w hSw; (try dsimp only at hSw); go_simp; first | done | with_reducible rfl)
        try simp only [Act.put, List.setIfInBounds_toArray, List.set_cons_zero, List.set_cons_succ]
        refine wpAnyH_take (i := 13) (oi := { dst := some 22, op := Op.pick (Operand.tmp 13) (Operand.const (Value.bool true)) (Operand.tmp 21), type := 4, pos := _, after := _, guard := none }) (v := ?vr1513) rfl (by kernel_rfl) (by kernel_rfl) (by kernel_rfl) (fun _ _ _ h => h) (Or.inl ⟨by rfl, ?hyr1513⟩) (by assumption) ?restr1513
        case hyr1513 => (intro w hSw; (try dsimp only at hSw); go_simp; first | done | with_reducible rfl)
        try simp only [Act.put, List.setIfInBounds_toArray, List.set_cons_zero, List.set_cons_succ]
        refine wpAnyH_done (by kernel_rfl) ?_ _
        refine NoPanic.normal ?_
        go_wp2_with fail
        go_ret
        exact ⟨reti E.out, hHeld.2.2.2.2.2.2.out⟩
  · have H : Hid (¬ CR n l d r s = 0) := h
    have E : Hid (CR n l d r s = CP n l d r p s) := cp_cr h
    go_enter Tryz.func79, Tryz.ntmps79
    go_wp2_with fail
    refine (s_Code _ _ _ _ _ _ _).mono ?_
    rintro e w2 ⟨rfl, hb2⟩
    have k2 := keepS hb2 k1
    have ⟨c20, c21, c22, c23, c24, c25, c26⟩ := k2
    go_wp2
    go_ret
    exact ⟨reti E.out, c26.out⟩

set_option maxHeartbeats 2000000 in
theorem s_ConfigOk (n l d r p s : Int) (w : World) :
    Calls Tryz.prog 42 #[cfg n l d r p s] w fun e w' => e = .returned (.bool (CP n l d r p s == 0)) ∧ Below w.heap.size w w' := by
  go_enter Tryz.func42, Tryz.ntmps42
  go_wp2_with fail
  refine (s_CodeOf _ _ _ _ _ _ _).mono ?_
  rintro e w2 ⟨rfl, hb2⟩
  go_wp2
  go_ret
  refine ⟨rfl, ?_⟩
  (repeat (first | exact Below.refl _ _ | assumption | refine Below.setCell ?_ (by first | omega | (simp <;> omega)) _ | refine Below.alloc ?_ (by first | omega | (simp <;> omega)) _ | refine Below.drew ?_ | refine below_drewN ?_ _ | refine Below.trans ?_ (Below.mono (by assumption) (by first | omega | (simp <;> omega)))))

end Go.Proofs.YtnocmfhlmpgbmaaGreat.Cf
