/-
  The Go function laws.FnPaid answers true at every code: a slewed clock of chapter 8 has shown, when PaidWhen tells so, just what it owed more, owes nothing then, goes on as the hardware, and owes something one ahead of it; PaidWhen of impl is that of spec at every drawn clock. No condition.
-/
import Derived.Test.YtcgcmceobmpdiaaRows
import Derived.WalkKit
import Derived.ProofKit
import Derived.OpenShut
import Derived.ShutString
import Derived.ChangeOld
import Derived.Below
import Derived.Test.YtcgcmceobmpdiaaDk2
namespace Go.Proofs.Ytcgcmceobmpdiaa.fnPaid
open Go.ChangeShapes Go.WideShapes Go.ChangeAt Go.RowKit
open Go.ChangeMaps (open_string shut_string)
set_option linter.unusedVariables false
set_option linter.unusedSimpArgs false

theorem own : ownKnob Try.prog.godebug = none := by kernel_rfl
theorem laidOut : laidOutB Try.prog = true := by kernel_rfl

/-- WHAT THE WALK IS TOLD OF A SLICE OF INTEGERS THAT CAME IN: it is nil; or it leads to a row of 'cap' cells, the numbers 'zs' (the first 'len' are its elements, the rest its spare room), each fitting its kind. -/
def IsRow (k : IntKind) (w : World) (a : Option Addr) (len cap : Nat) (zs : List Int) : Prop :=
  (a = none ∧ len = 0 ∧ cap = 0 ∧ zs = []) ∨
  ∃ x, a = some x ∧ len ≤ cap ∧ cap ≤ maxLen ∧ zs.length = cap ∧ (∀ i, i < zs.length → w.cell? (x.add i) = some (.int k (zs.getD i 0))) ∧ ∀ n ∈ zs, (Lit.int k n).wf = true

/-- What a clock shows and owes when all is paid, a hundred later, and one ahead of it. -/
theorem paid_facts {h v o s : Int} (h0 : 0 ≤ h ∧ h ≤ 1000) (v0 : -10000 ≤ v ∧ v ≤ 10000) (o0 : -60 ≤ o ∧ o ≤ 60) (s0 : 2 ≤ s ∧ s ≤ 12) :
    ∃ W : Int, Ck.WB h v o s = true ∧ Ck.WN h v o s = W ∧ h ≤ W ∧ W ≤ 2000 ∧ (Ck.FR h v o s W = true ∧ Ck.RV h v o s W = v + W - h + o ∧ Ck.OV h v o s W = 0) ∧ (Ck.FR h v o s (W + 100) = true ∧ Ck.RV h v o s (W + 100) = v + W - h + o + 100) ∧
      ((h < W ∧ Ck.FR h v o s (W - 1) = true ∧ Ck.OV h v o s (W - 1) ≠ 0) ∨ (W = h ∧ Ck.FR h v o s (W - 1) = false ∧ Ck.OV h v o s (W - 1) = 0)) := by
  have q := Ck.ck_small (h := h) (v := v) (o := o) (s := s) (by omega) (by omega) (by omega) (by omega)
  have a0 : 0 ≤ Ck.AB o ∧ Ck.AB o ≤ 60 := by unfold Ck.AB; split <;> omega
  obtain ⟨A, eA⟩ : ∃ A, Ck.AB o = A := ⟨_, rfl⟩
  rw [eA] at a0
  have m1 : A * s ≤ 60 * s := Int.mul_le_mul_of_nonneg_right a0.2 (by omega)
  have m0 : 0 ≤ A * s := Int.mul_nonneg a0.1 (by omega)
  have hw : Ck.WB h v o s = true := by
    rw [Ck.wb_is q, eA]
    exact decide_eq_true ((Int.le_ediv_iff_mul_le (by omega)).2 (by omega))
  have d0 : A * s / s = A := Int.mul_ediv_cancel _ (by omega)
  have d1 : A ≤ (A * s + 100) / s := by
    have := Int.ediv_le_ediv (a := A * s) (b := A * s + 100) (c := s) (by omega) (by omega)
    omega
  have d2 : (A * s - 1) / s < A := (Int.ediv_lt_iff_lt_mul (by omega)).2 (by omega)
  obtain ⟨P, eP⟩ : ∃ P, A * s = P := ⟨_, rfl⟩
  rw [eP] at m0 m1 d0 d1 d2
  have f0 := Ck.fr_yes (a := h + P) q ⟨by omega, by omega⟩
  have f1 := Ck.fr_yes (a := h + P + 100) q ⟨by omega, by omega⟩
  have e0 : h + P - h = P := by omega
  have e1 : h + P + 100 - h = P + 100 := by omega
  have n0 : Ck.PN o s P = A := by unfold Ck.PN; rw [eA]; omega
  have n1 : Ck.PN o s (P + 100) = A := by unfold Ck.PN; rw [eA]; omega
  have oA : (o < 0 → A = -o) ∧ (¬ o < 0 → A = o) := ⟨fun h => by rw [← eA, Ck.ab_neg h], fun h => by rw [← eA, Ck.ab_pos h]⟩
  have p0 : Ck.PD o s P = o := by
    unfold Ck.PD; rw [n0]
    split
    · rw [oA.1 (by assumption)]; omega
    · rw [oA.2 (by assumption)]
  have p1 : Ck.PD o s (P + 100) = o := by
    unfold Ck.PD; rw [n1]
    split
    · rw [oA.1 (by assumption)]; omega
    · rw [oA.2 (by assumption)]
  refine ⟨h + P, hw, by rw [Ck.wn_yes hw, eA, eP], by omega, by omega, ⟨f0, by rw [Ck.rv_yes f0, e0, p0]; omega, by rw [Ck.ov_yes f0, e0, p0]; omega⟩, ⟨f1, by rw [Ck.rv_yes f1, e1, p1]; omega⟩, ?_⟩
  by_cases hP : 0 < P
  · have f2 := Ck.fr_yes (a := h + P - 1) q ⟨by omega, by omega⟩
    have e2 : h + P - 1 - h = P - 1 := by omega
    refine .inl ⟨by omega, f2, ?_⟩
    rw [Ck.ov_yes f2, e2]
    have hA : A ≠ 0 := fun h => by rw [h, Int.zero_mul] at eP; omega
    have n2 : Ck.PN o s (P - 1) < A ∧ 0 ≤ Ck.PN o s (P - 1) := by
      have := Int.ediv_nonneg (show 0 ≤ P - 1 by omega) (show (0 : Int) ≤ s by omega)
      unfold Ck.PN; rw [eA]; omega
    unfold Ck.PD
    split
    · have := oA.1 (by assumption); omega
    · have := oA.2 (by assumption); omega
  · have f2 := Ck.fr_no2 (h := h) (v := v) (o := o) (s := s) (a := h + P - 1) (by omega)
    exact .inr ⟨by omega, f2, Ck.ov_no f2⟩

theorem code_of {w : World} {a : Option Addr} {len cap : Nat} {zs : List Int} (h : IsRow .u8 w a len cap zs) (hl : len ≤ 4096) : Dr.Code w w.heap.size a len := by
  refine ⟨hl, ?_⟩
  rcases h with ⟨_, h, _, _⟩ | ⟨x, rfl, h1, h2, h3, h4, h5⟩
  · exact .inl h
  · by_cases h0 : len = 0
    · exact .inl h0
    · obtain ⟨b, off, spot⟩ := x
      have hc := h4 0 (by omega)
      have hs : spot = none := by simpa [Addr.add] using World.cell?_spot hc
      subst hs
      have hb := World.block_lt_of_cell? _ _ hc
      refine .inr ⟨b, off, rfl, by simpa [Addr.add] using hb, fun k hk => ⟨zs.getD k 0, ?_, ?_⟩⟩
      · have hk4 := h4 k (by omega)
        by_cases hk0 : k = 0
        · subst hk0; simpa [Addr.add] using hk4
        · simpa [Addr.add, hk0] using hk4
      · have e : zs.getD k 0 = zs[k]'(by omega) := by simp [List.getD, show k < zs.length by omega]
        refine bounds_u8 (h5 _ ?_)
        rw [e]
        exact List.getElem_mem _

theorem small (a : Option Addr) (len cap : Nat) (h : len ≤ 4096) (w : World) : Calls Try.prog 11 #[.slice a len cap] w fun e w' => e = .returned (.bool false) ∧ w' = w := by
  have h' : ¬ (4096 : Int) < len := by omega
  go_enter Try.func11, Try.ntmps11
  go_wp2
  go_ret
  exact ⟨rfl, rfl⟩

theorem great (a : Option Addr) (len cap : Nat) (h : ¬ len ≤ 4096) (w : World) : Calls Try.prog 11 #[.slice a len cap] w fun e w' => e = .returned (.bool true) ∧ w' = w := by
  have h' : (4096 : Int) < len := by omega
  go_enter Try.func11, Try.ntmps11
  go_wp2
  go_ret
  exact ⟨rfl, rfl⟩

/-! The walk. -/
set_option maxHeartbeats 20000000 in
set_option maxRecDepth 100000 in
theorem walk (a0 : Option Addr) (len0 cap0 : Nat) (z0 : List Int) (w : World) (w0 : IsRow .u8 w a0 len0 cap0 z0) :
    Calls Try.prog 4 #[.slice a0 len0 cap0] w fun e w' => e = .returned (.bool true) ∧ Below w.heap.size w w' := by
  by_cases hl : len0 ≤ 4096
  · have code := code_of w0 hl
    clear w0
    go_enter Try.func4, Try.ntmps4
    go_wp2_with fail
    refine (small a0 len0 cap0 hl _).mono ?_
    rintro e w ⟨rfl, rfl⟩
    go_wp2_with fail
    refine (Di.roll w.heap.size a0 len0 cap0 12 w (Nat.le_refl _) code).mono ?_
    rintro e w1 ⟨rfl, st1⟩
    go_wp2_with fail
    refine (Di.below w w.heap.size w.heap.size a0 len0 cap0 1000 (by omega) (by omega) _ st1).mono ?_
    rintro e w2 ⟨⟨h, rfl, h0, h1⟩, st2⟩
    go_wp2_with fail
    refine (Di.around w w.heap.size w.heap.size a0 len0 cap0 10000 (by omega) (by omega) _ st2).mono ?_
    rintro e w3 ⟨⟨v, rfl, v0, v1⟩, st3⟩
    go_wp2_with fail
    refine (Di.around w w.heap.size w.heap.size a0 len0 cap0 60 (by omega) (by omega) _ st3).mono ?_
    rintro e w4 ⟨⟨o, rfl, o0, o1⟩, st4⟩
    have z4 := st4.lt
    have NK : Ck.Kb w w.heap.size a0 len0 cap0 w4.heap.size h v o (w4.alloc (.cells #[.int .i64 h, .int .i64 v, .int .i64 o] 29)) := ⟨st4.obj _, Rm.Room.new w4 (Ck.c3 h v o) 29, by omega⟩
    clear st1 st2 st3 st4
    go_wp2_with fail
    generalize (w4.alloc (.cells #[.int .i64 h, .int .i64 v, .int .i64 o] 29)) = w5 at NK ⊢
    refine (Di.below' w w.heap.size w.heap.size a0 len0 cap0 10 (by omega) (by omega) _ NK.st).mono ?_
    rintro e w6 ⟨⟨x, rfl, x0, x1⟩, st6, sp6⟩
    replace NK := NK.step st6 sp6
    clear st6 sp6
    obtain ⟨W, k0, k1, k2, k3, ⟨k4, k5, k6⟩, ⟨k7, k8⟩, kk⟩ := paid_facts (h := h) (v := v) (o := o) (s := 2 + x) ⟨h0, by omega⟩ ⟨v0, v1⟩ ⟨o0, o1⟩ ⟨by omega, by omega⟩
    have K1 : Hid (Ck.WB h v o (2 + x) = true ∧ Ck.WN h v o (2 + x) = W) := ⟨k0, k1⟩
    have K2 : Hid (Ck.FR h v o (2 + x) W = true ∧ Ck.RV h v o (2 + x) W = v + W - h + o ∧ Ck.OV h v o (2 + x) W = 0) := ⟨k4, k5, k6⟩
    have K3 : Hid (Ck.FR h v o (2 + x) (W + 100) = true ∧ Ck.RV h v o (2 + x) (W + 100) = v + W - h + o + 100) := ⟨k7, k8⟩
    have KK : Hid (_ ∨ _) := kk
    clear k0 k1 k4 k5 k6 k7 k8 kk
    have c0 := NK.R.cell 0 rfl
    have c1 := NK.R.cell 1 rfl
    have c2 := NK.R.cell 2 rfl
    go_wp2_with fail
    clear c0 c1 c2
    refine (Ck.i_PaidWhen h v o (2 + x) _).mono ?_
    rintro e w7 ⟨rfl, b⟩
    rw [K1.out.1, K1.out.2]
    replace NK := NK.below b
    clear b
    have c0 := NK.R.cell 0 rfl
    have c1 := NK.R.cell 1 rfl
    have c2 := NK.R.cell 2 rfl
    go_wp2_with fail
    clear c0 c1 c2
    refine (Ck.i_ReadAt h v o (2 + x) W _).mono ?_
    rintro e w8 ⟨rfl, b⟩
    rw [K2.out.1, K2.out.2.1]
    replace NK := NK.below b
    clear b
    have c0 := NK.R.cell 0 rfl
    have c1 := NK.R.cell 1 rfl
    have c2 := NK.R.cell 2 rfl
    go_wp2_with fail
    clear c0 c1 c2
    refine (Ck.i_OwedAt h v o (2 + x) W _).mono ?_
    rintro e w9 ⟨rfl, b⟩
    rw [K2.out.1, K2.out.2.2]
    replace NK := NK.below b
    clear b
    have c0 := NK.R.cell 0 rfl
    have c1 := NK.R.cell 1 rfl
    have c2 := NK.R.cell 2 rfl
    go_wp2_with fail
    clear c0 c1 c2
    refine (Ck.i_ReadAt h v o (2 + x) (W + 100) _).mono ?_
    rintro e w10 ⟨rfl, b⟩
    rw [K3.out.1, K3.out.2]
    replace NK := NK.below b
    clear b
    rcases KK.out with ⟨kw, kf, ko⟩ | ⟨kw, kf, ko⟩
    · clear KK
      have c0 := NK.R.cell 0 rfl
      have c1 := NK.R.cell 1 rfl
      have c2 := NK.R.cell 2 rfl
      go_wp2_with fail
      clear c0 c1 c2
      refine (Ck.i_OwedAt h v o (2 + x) (W - 1) _).mono ?_
      rintro e w11 ⟨rfl, b⟩
      rw [kf]
      obtain ⟨Y, hY⟩ : ∃ Y, Ck.OV h v o (2 + x) (W - 1) = Y := ⟨_, rfl⟩
      rw [hY] at ko ⊢
      clear hY
      have kb : (Y != 0) = true := by simp; exact ko
      clear ko
      replace NK := NK.below b
      clear b
      have c0 := NK.R.cell 0 rfl
      have c1 := NK.R.cell 1 rfl
      have c2 := NK.R.cell 2 rfl
      go_wp2_with fail
      clear c0 c1 c2
      refine (Dr.drawPaid w.heap.size a0 len0 cap0 w11 NK.st.step.size (code.later NK.out)).mono ?_
      rintro e w12 ⟨⟨h2, v2, o2, s2, rfl⟩, b⟩
      replace NK := NK.below b
      clear b
      have RK := Rm.Room.new w12 (Ck.c3 h2 v2 o2) 29
      have b13 : Below w12.heap.size w12 (w12.alloc (.cells #[.int .i64 h2, .int .i64 v2, .int .i64 o2] 29)) := (Below.refl _ w12).alloc (Nat.le_refl _) _
      replace NK := NK.below b13
      clear b13
      have e0 := RK.cell 0 rfl
      have e1 := RK.cell 1 rfl
      have e2 := RK.cell 2 rfl
      go_wp2_with fail
      clear e0 e1 e2
      refine (Ck.i_PaidWhen h2 v2 o2 s2 _).mono ?_
      rintro e w14 ⟨rfl, b⟩
      replace NK := NK.below b
      replace RK := RK.below b
      clear b
      have e0 := RK.cell 0 rfl
      have e1 := RK.cell 1 rfl
      have e2 := RK.cell 2 rfl
      go_wp2_with fail
      clear e0 e1 e2
      refine (Ck.s_PaidWhen h2 v2 o2 s2 _).mono ?_
      rintro e w15 ⟨rfl, b⟩
      replace NK := NK.below b
      replace RK := RK.below b
      clear b
      have c0 := NK.R.cell 0 rfl
      have c1 := NK.R.cell 1 rfl
      have c2 := NK.R.cell 2 rfl
      go_wp2
      go_ret
      exact ⟨rfl, NK.out⟩
    · clear KK
      have kw2 : ¬ h < W := by omega
      clear kw
      have c0 := NK.R.cell 0 rfl
      have c1 := NK.R.cell 1 rfl
      have c2 := NK.R.cell 2 rfl
      go_wp2_with fail
      clear c0 c1 c2
      refine (Ck.i_OwedAt h v o (2 + x) (W - 1) _).mono ?_
      rintro e w11 ⟨rfl, b⟩
      rw [kf, ko]
      replace NK := NK.below b
      clear b
      have c0 := NK.R.cell 0 rfl
      have c1 := NK.R.cell 1 rfl
      have c2 := NK.R.cell 2 rfl
      go_wp2_with fail
      clear c0 c1 c2
      refine (Dr.drawPaid w.heap.size a0 len0 cap0 w11 NK.st.step.size (code.later NK.out)).mono ?_
      rintro e w12 ⟨⟨h2, v2, o2, s2, rfl⟩, b⟩
      replace NK := NK.below b
      clear b
      have RK := Rm.Room.new w12 (Ck.c3 h2 v2 o2) 29
      have b13 : Below w12.heap.size w12 (w12.alloc (.cells #[.int .i64 h2, .int .i64 v2, .int .i64 o2] 29)) := (Below.refl _ w12).alloc (Nat.le_refl _) _
      replace NK := NK.below b13
      clear b13
      have e0 := RK.cell 0 rfl
      have e1 := RK.cell 1 rfl
      have e2 := RK.cell 2 rfl
      go_wp2_with fail
      clear e0 e1 e2
      refine (Ck.i_PaidWhen h2 v2 o2 s2 _).mono ?_
      rintro e w14 ⟨rfl, b⟩
      replace NK := NK.below b
      replace RK := RK.below b
      clear b
      have e0 := RK.cell 0 rfl
      have e1 := RK.cell 1 rfl
      have e2 := RK.cell 2 rfl
      go_wp2_with fail
      clear e0 e1 e2
      refine (Ck.s_PaidWhen h2 v2 o2 s2 _).mono ?_
      rintro e w15 ⟨rfl, b⟩
      replace NK := NK.below b
      replace RK := RK.below b
      clear b
      have c0 := NK.R.cell 0 rfl
      have c1 := NK.R.cell 1 rfl
      have c2 := NK.R.cell 2 rfl
      go_wp2
      go_ret
      exact ⟨Sp.retb (by rw [decide_eq_false (show ¬ h < W by omega)]; rfl), NK.out⟩
  · go_enter Try.func4, Try.ntmps4
    go_wp2_with fail
    refine (great a0 len0 cap0 hl _).mono ?_
    rintro e w ⟨rfl, rfl⟩
    go_wp2
    go_ret
    exact ⟨rfl, Below.refl _ _⟩

/-! The row. -/
set_option maxRecDepth 100000 in
theorem lifted (os : Os) (started : os.Started) (H : Type) (enc : TypeId × Value → H) :
    ReturnsInHanded {} Try.checked os 4 .any (Rows.fnPaidSpec.pre6 enc Try.prog Try.f4 Rows.fnPaidRow.domain false) (Rows.fnPaidSpec.post enc Try.prog Try.f4 false true false false) := by
  refine returnsInHanded_of_change (C := Try.checked) own started (by kernel_rfl) Try.func4
    (ChangeSpec.witness6 (enc := enc) (C := Try.checked) false ⟨#[], #[.slice none 0 0], []⟩ 8 (by kernel_rfl) (by kernel_rfl) (by kernel_rfl) (by kernel_rfl)) ?_
  intro W base args ds gs before hval0 hW hcnd _
  have hval : ∀ (j : Nat) t v, Try.f4.params[j]? = some t → args[j]? = some v → Value.okWide Try.prog W .any base t v := hval0
  have hW' := hW
  obtain ⟨p, q, hA0, hV, rfl, hfz, hnd⟩ := hW
  have hA : DataW.TrodAll enc Try.prog W 0 (fun _ => true) true Try.f4.params.toList args.toList ds p := hA0
  rw [Try.params4] at hA hval
  obtain ⟨v0, vs0, d0, ds0, p0, q0, hargs, rfl, rfl, h0, r0⟩ := trodAll_cons hA
  obtain ⟨rfl, rfl, rfl⟩ := trodAll_nil r0
  obtain rfl : args = #[v0] := by cases args; simp_all
  obtain ⟨rfl, rfl⟩ := trodVars_none hV
  obtain ⟨a0, len0, cap0, rfl⟩ := okWide_slice Try.underlying22 (hval 0 22 v0 rfl rfl)
  have k0 := h0
  have lt0 : ∀ x ∈ p0, x.block < W.heap.size := by obtain ⟨m, hm⟩ := k0; exact DataW.trod_lt m _ _ _ hm
  obtain ⟨z0, w0⟩ : ∃ zs, IsRow .u8 W a0 len0 cap0 zs := by
    obtain ⟨fuel, hf⟩ := h0
    rcases open_ints Try.underlying22 Try.underlying5 (by kernel_rfl) hf with ⟨hcs, _⟩ | ⟨x, l, c, zs, hcs, _, hl, hm, hz, _, hcell, hwz⟩
    · simp [Value.cells] at hcs
      obtain ⟨rfl, rfl, rfl⟩ := hcs
      exact ⟨[], .inl ⟨rfl, rfl, rfl, rfl⟩⟩
    · simp [Value.cells] at hcs
      obtain ⟨rfl, rfl, rfl⟩ := hcs
      exact ⟨zs, .inr ⟨_, rfl, hl, hm, by simpa using hz, hcell, hwz⟩⟩
  clear hA0 hval0
  refine (walk a0 len0 cap0 z0 W w0).mono fun e W' ⟨he, bel⟩ => ?_
  subst he
  exact ⟨_, rfl, _, _, _, [], _, [], hW', trodAll_mk1 (shut_bool Try.underlying4 _), (trodAll_cons_mk (Below.trod laidOut (by kernel_rfl) (of_decide_eq_true (by kernel_rfl)) k0 bel lt0) trodAll_mk0), rfl, bel.frame _, fun h => by cases h⟩

theorem over : Rows.fnPaidRow.holds Try.pinned (OpenSpec.ofChange Rows.fnPaidSpec) :=
  OpenClaim.holds_of_wide 4 Try.f4 rfl rfl rfl rfl rfl rfl rfl ⟨rfl, rfl, rfl, rfl, rfl⟩ rfl rfl rfl rfl rfl (by kernel_rfl) Try.func4 (by kernel_rfl)
    (of_decide_eq_true (by kernel_rfl)) (by unfold Func.isWrapper; first | (rw [if_pos (by decide +kernel)]; kernel_rfl) | (rw [if_neg (by decide +kernel)]; exact ⟨rfl, rfl⟩))
    (fun os started H enc _ => lifted os started H enc)

end Go.Proofs.Ytcgcmceobmpdiaa.fnPaid

namespace Go.Proofs.Ytcgcmceobmpdiaa
/-- The given statement. -/
theorem fnPaid_holds : Rows.FnPaidSaid := fnPaid.over
#print axioms fnPaid_holds
end Go.Proofs.Ytcgcmceobmpdiaa
