/-
  The Go function laws.FnMulDiv answers true whatever bytes it is given. No condition.
-/
import Derived.Test.YtcdmabjebohlgabRows
import Derived.WalkKit
import Derived.ProofKit
import Derived.OpenShut
import Derived.ShutString
import Derived.ChangeOld
import Derived.Below
import Derived.Test.YtcdmabjebohlgabAny
import Derived.Test.YtcdmabjebohlgabAdd
import Derived.Test.YtcdmabjebohlgabDice
namespace Go.Proofs.Ytcdmabjebohlgab.fnMulDiv
open Go.ChangeShapes Go.WideShapes Go.ChangeAt Go.RowKit
open Go.ChangeMaps (open_string shut_string)
set_option linter.unusedVariables false

theorem own : ownKnob Try.prog.godebug = none := by kernel_rfl
theorem laidOut : laidOutB Try.prog = true := by kernel_rfl

/-- WHAT THE WALK IS TOLD OF A SLICE OF INTEGERS THAT CAME IN: it is nil; or it leads to a row of 'cap' cells, the numbers 'zs' (the first 'len' are its elements, the rest its spare room), each fitting its kind. -/
def IsRow (k : IntKind) (w : World) (a : Option Addr) (len cap : Nat) (zs : List Int) : Prop :=
  (a = none ∧ len = 0 ∧ cap = 0 ∧ zs = []) ∨
  ∃ x, a = some x ∧ len ≤ cap ∧ cap ≤ maxLen ∧ zs.length = cap ∧ (∀ i, i < zs.length → w.cell? (x.add i) = some (.int k (zs.getD i 0))) ∧ ∀ n ∈ zs, (Lit.int k n).wf = true

theorem code_of {w : World} {a : Option Addr} {len cap : Nat} {zs : List Int} (h : IsRow .u8 w a len cap zs) (hl : len ≤ 4096) : Dr.Code w w.heap.size a len := by
  refine ⟨hl, ?_⟩
  rcases h with ⟨_, h, _, _⟩ | ⟨x, rfl, h1, h2, h3, h4, h5⟩
  · exact .inl h
  · by_cases h0 : len = 0
    · exact .inl h0
    · obtain ⟨b, off, spot⟩ := x
      have hc := h4 0 (by omega)
      have hs : spot = none := by simpa [Addr.add] using World.cell?_spot hc
      subst hs
      have hb := World.block_lt_of_cell? _ _ hc
      refine .inr ⟨b, off, rfl, by simpa [Addr.add] using hb, fun k hk => ⟨zs.getD k 0, ?_, ?_⟩⟩
      · have hk4 := h4 k (by omega)
        by_cases hk0 : k = 0
        · subst hk0; simpa [Addr.add] using hk4
        · simpa [Addr.add, hk0] using hk4
      · have e : zs.getD k 0 = zs[k]'(by omega) := by simp [List.getD, show k < zs.length by omega]
        refine bounds_u8 (h5 _ ?_)
        rw [e]
        exact List.getElem_mem _

theorem small (a : Option Addr) (len cap : Nat) (h : len ≤ 4096) (w : World) : Calls Try.prog 5 #[.slice a len cap] w fun e w' => e = .returned (.bool false) ∧ w' = w := by
  have h' : ¬ (4096 : Int) < len := by omega
  go_enter Try.func5, Try.ntmps5
  go_wp2
  go_ret
  exact ⟨rfl, rfl⟩

theorem great (a : Option Addr) (len cap : Nat) (h : ¬ len ≤ 4096) (w : World) : Calls Try.prog 5 #[.slice a len cap] w fun e w' => e = .returned (.bool true) ∧ w' = w := by
  have h' : (4096 : Int) < len := by omega
  go_enter Try.func5, Try.ntmps5
  go_wp2
  go_ret
  exact ⟨rfl, rfl⟩

open Go.Proofs.Ytcdmabjebohlgab.Mu (V T Ok Rng vt_yes)

theorem ok_comm (x y z : Int) : Ok y x z ↔ Ok x y z := by
  unfold Ok Rng
  rw [Int.mul_comm y x]
  constructor <;> (intro h; omega)
theorem t_comm (x y z : Int) : T y x z = T x y z := by
  unfold T; exact decide_eq_decide.2 (ok_comm x y z)
theorem v_comm (x y z : Int) : V y x z = V x y z := by
  unfold V
  by_cases h : Ok x y z
  · rw [if_pos h, if_pos ((ok_comm x y z).2 h), Int.mul_comm]
  · rw [if_neg h, if_neg (fun k => h ((ok_comm x y z).1 k))]

theorem prod_bd (a b : Int) (a0 : -1073742079 ≤ a) (a1 : a ≤ 1073742079) (b0 : -1073742079 ≤ b) (b1 : b ≤ 1073742079) : -1152922052215770241 - 3000000000 ≤ a * b ∧ a * b ≤ 1152922052215770241 + 3000000000 := by
  have h1 : 0 ≤ (1073742079 - a) * (1073742079 - b) := Int.mul_nonneg (by omega) (by omega)
  have h2 : 0 ≤ (1073742079 + a) * (1073742079 + b) := Int.mul_nonneg (by omega) (by omega)
  have h3 : 0 ≤ (1073742079 - a) * (1073742079 + b) := Int.mul_nonneg (by omega) (by omega)
  have h4 : 0 ≤ (1073742079 + a) * (1073742079 - b) := Int.mul_nonneg (by omega) (by omega)
  simp only [Int.sub_mul, Int.mul_sub, Int.add_mul, Int.mul_add] at h1 h2 h3 h4
  generalize a * b = N at *
  omega

/-- The first answer. -/
theorem first (a b c : Int) (a0 : -1073742079 ≤ a) (a1 : a ≤ 1073742079) (b0 : -1073742079 ≤ b) (b1 : b ≤ 1073742079) (c0 : 1 ≤ c) (c1 : c ≤ 8388608) :
    ∃ q P N : Int, V a b c = q ∧ T a b c = true ∧ q * c = P ∧ a * b = N ∧ P ≤ N ∧ N - P < c ∧ -2000000000000000000 ≤ P ∧ P ≤ 2000000000000000000 ∧ -2000000000000000000 ≤ N ∧ N ≤ 2000000000000000000 := by
  obtain ⟨p0, p1⟩ := prod_bd a b a0 a1 b0 b1
  obtain ⟨d0, d1⟩ := Ad.div_bd (n := a * b) c0 (by omega) (by omega)
  have e := Int.mul_ediv_add_emod (a * b) c
  have m0 := Int.emod_nonneg (a * b) (b := c) (by omega)
  have m1 := Int.emod_lt_of_pos (a * b) (b := c) (by omega)
  rw [Int.mul_comm] at e
  obtain ⟨hv, ht⟩ := vt_yes (a := a) (b := b) (c := c) (v := a * b / c) ⟨⟨⟨by omega, by omega⟩, by omega, by omega⟩, by omega, by omega⟩ rfl d0 d1
  exact ⟨_, _, _, hv, ht, rfl, rfl, by omega, by omega, by omega, by omega, by omega, by omega⟩

/-- By c and times c. -/
theorem again (a c : Int) (a0 : -1073742079 ≤ a) (a1 : a ≤ 1073742079) (c0 : 1 ≤ c) (c1 : c ≤ 8388608) : V a c c = a ∧ T a c c = true :=
  vt_yes ⟨⟨⟨by omega, by omega⟩, by omega, by omega⟩, by omega, by omega⟩ (Int.mul_ediv_cancel a (by omega)) (by omega) (by omega)

/-! The walk. -/
theorem walk (a0 : Option Addr) (len0 cap0 : Nat) (z0 : List Int) (w : World) (w0 : IsRow .u8 w a0 len0 cap0 z0) :
    Calls Try.prog 3 #[.slice a0 len0 cap0] w fun e w' => e = .returned (.bool true) ∧ Below w.heap.size w w' := by
  by_cases hl : len0 ≤ 4096
  · have code := code_of w0 hl
    clear w0
    go_enter Try.func3, Try.ntmps3
    go_wp2_with fail
    refine (small a0 len0 cap0 hl _).mono ?_
    rintro e w' ⟨rfl, rfl⟩
    go_wp2_with fail
    refine (Di.roll _ a0 len0 cap0 6 _ (Nat.le_refl _) code).mono ?_
    rintro e w1 ⟨rfl, st1⟩
    go_wp2_with fail
    refine (Di.around _ _ _ a0 len0 cap0 4194304 (by omega) (by omega) _ st1).mono ?_
    rintro e w2 ⟨⟨x1, rfl, x10, x11⟩, st2⟩
    go_wp2_with fail
    refine (Di.below _ _ _ a0 len0 cap0 256 (by omega) (by omega) _ st2).mono ?_
    rintro e w3 ⟨⟨x2, rfl, x20, x21⟩, st3⟩
    go_wp2_with fail
    refine (Di.around _ _ _ a0 len0 cap0 4194304 (by omega) (by omega) _ st3).mono ?_
    rintro e w4 ⟨⟨y1, rfl, y10, y11⟩, st4⟩
    go_wp2_with fail
    refine (Di.below _ _ _ a0 len0 cap0 256 (by omega) (by omega) _ st4).mono ?_
    rintro e w5 ⟨⟨y2, rfl, y20, y21⟩, st5⟩
    go_wp2_with fail
    refine (Di.below _ _ _ a0 len0 cap0 8388608 (by omega) (by omega) _ st5).mono ?_
    rintro e w6 ⟨⟨z1, rfl, z10, z11⟩, st6⟩
    have hb6 := st6.step.fresh (Nat.le_refl _)
    clear st1 st2 st3 st4 st5 st6
    obtain ⟨A, hA⟩ : ∃ A, x1 * 256 + x2 = A := ⟨_, rfl⟩
    obtain ⟨B, hB⟩ : ∃ B, y1 * 256 + y2 = B := ⟨_, rfl⟩
    obtain ⟨C, hC⟩ : ∃ C, 1 + z1 = C := ⟨_, rfl⟩
    have A0 : -1073742079 ≤ A := by omega
    have A1 : A ≤ 1073742079 := by omega
    have B0 : -1073742079 ≤ B := by omega
    have B1 : B ≤ 1073742079 := by omega
    have C0 : 1 ≤ C := by omega
    have C1 : C ≤ 8388608 := by omega
    obtain ⟨q, P, N, hV, hT, hP, hN, k1, k2, k3, k4, k5, k6⟩ := first A B C A0 A1 B0 B1 C0 C1
    obtain ⟨hV2, hT2⟩ := again A C A0 A1 C0 C1
    have hB6 := hb6.size
    go_wp2_with fail
    clear hA hB hC x10 x11 x20 x21 y10 y11 y20 y21 z10 z11
    refine (Mu.i_any A B C _).mono ?_
    rintro e w7 ⟨rfl, n7, rfl⟩
    go_wp2_with fail
    refine (Dr.drawMulDiv _ a0 len0 cap0 (w6.drewN n7) hB6 (code.later (below_drewN hb6 n7))).mono ?_
    rintro e w8 ⟨⟨x, y, z, rfl⟩, hb8⟩
    have hb := (below_drewN hb6 n7).trans (hb8.mono hB6)
    clear hb6 hb8 hB6 code
    have e1 := v_comm x y z
    have e2 := t_comm x y z
    cases hG : Mu.T x y z with
    | true =>
      go_wp2_with (first | (go_at_call 9; refine (Mu.i_any _ _ _ _).mono ?_; rintro e w9 ⟨rfl, n9, rfl⟩) | (go_at_call 11; refine (Mu.s_any _ _ _ _).mono ?_; rintro e w9 ⟨rfl, rfl⟩))
      go_ret
      exact ⟨rfl, by repeat (first | exact hb | apply below_drewN)⟩
    | false =>
      go_wp2_with (first | (go_at_call 9; refine (Mu.i_any _ _ _ _).mono ?_; rintro e w9 ⟨rfl, n9, rfl⟩) | (go_at_call 11; refine (Mu.s_any _ _ _ _).mono ?_; rintro e w9 ⟨rfl, rfl⟩))
      go_ret
      exact ⟨rfl, by repeat (first | exact hb | apply below_drewN)⟩
  · go_enter Try.func3, Try.ntmps3
    go_wp2_with (go_at_call 5; refine (great a0 len0 cap0 hl _).mono ?_; rintro e w' ⟨rfl, rfl⟩)
    go_ret
    exact ⟨rfl, Below.refl _ _⟩

/-! The row. -/
set_option maxRecDepth 100000 in
theorem lifted (os : Os) (started : os.Started) (H : Type) (enc : TypeId × Value → H) :
    ReturnsInHanded {} Try.checked os 3 .any (Rows.fnMulDivSpec.pre6 enc Try.prog Try.f3 Rows.fnMulDivRow.domain false) (Rows.fnMulDivSpec.post enc Try.prog Try.f3 false true false false) := by
  refine returnsInHanded_of_change (C := Try.checked) own started (by kernel_rfl) Try.func3
    (ChangeSpec.witness6 (enc := enc) (C := Try.checked) false ⟨#[], #[.slice none 0 0], []⟩ 8 (by kernel_rfl) (by kernel_rfl) (by kernel_rfl) (by kernel_rfl)) ?_
  intro W base args ds gs before hval0 hW hcnd _
  have hval : ∀ (j : Nat) t v, Try.f3.params[j]? = some t → args[j]? = some v → Value.okWide Try.prog W .any base t v := hval0
  have hW' := hW
  obtain ⟨p, q, hA0, hV, rfl, hfz, hnd⟩ := hW
  have hA : DataW.TrodAll enc Try.prog W 0 (fun _ => true) true Try.f3.params.toList args.toList ds p := hA0
  rw [Try.params3] at hA hval
  obtain ⟨v0, vs0, d0, ds0, p0, q0, hargs, rfl, rfl, h0, r0⟩ := trodAll_cons hA
  obtain ⟨rfl, rfl, rfl⟩ := trodAll_nil r0
  obtain rfl : args = #[v0] := by cases args; simp_all
  obtain ⟨rfl, rfl⟩ := trodVars_none hV
  obtain ⟨a0, len0, cap0, rfl⟩ := okWide_slice Try.underlying22 (hval 0 22 v0 rfl rfl)
  have k0 := h0
  have lt0 : ∀ x ∈ p0, x.block < W.heap.size := by obtain ⟨m, hm⟩ := k0; exact DataW.trod_lt m _ _ _ hm
  obtain ⟨z0, w0⟩ : ∃ zs, IsRow .u8 W a0 len0 cap0 zs := by
    obtain ⟨fuel, hf⟩ := h0
    rcases open_ints Try.underlying22 Try.underlying5 (by kernel_rfl) hf with ⟨hcs, _⟩ | ⟨x, l, c, zs, hcs, _, hl, hm, hz, _, hcell, hwz⟩
    · simp [Value.cells] at hcs
      obtain ⟨rfl, rfl, rfl⟩ := hcs
      exact ⟨[], .inl ⟨rfl, rfl, rfl, rfl⟩⟩
    · simp [Value.cells] at hcs
      obtain ⟨rfl, rfl, rfl⟩ := hcs
      exact ⟨zs, .inr ⟨_, rfl, hl, hm, by simpa using hz, hcell, hwz⟩⟩
  clear hA0 hval0
  refine (walk a0 len0 cap0 z0 W w0).mono fun e W' ⟨he, bel⟩ => ?_
  subst he
  exact ⟨_, rfl, _, _, _, [], _, [], hW', trodAll_mk1 (shut_bool Try.underlying4 _), (trodAll_cons_mk (Below.trod laidOut (by kernel_rfl) (of_decide_eq_true (by kernel_rfl)) k0 bel lt0) trodAll_mk0), rfl, bel.frame _, fun h => by cases h⟩

theorem over : Rows.fnMulDivRow.holds Try.pinned (OpenSpec.ofChange Rows.fnMulDivSpec) :=
  OpenClaim.holds_of_wide 3 Try.f3 rfl rfl rfl rfl rfl rfl rfl ⟨rfl, rfl, rfl, rfl, rfl⟩ rfl rfl rfl rfl rfl (by kernel_rfl) Try.func3 (by kernel_rfl)
    (of_decide_eq_true (by kernel_rfl)) (by unfold Func.isWrapper; first | (rw [if_pos (by decide +kernel)]; kernel_rfl) | (rw [if_neg (by decide +kernel)]; exact ⟨rfl, rfl⟩))
    (fun os started H enc _ => lifted os started H enc)

end Go.Proofs.Ytcdmabjebohlgab.fnMulDiv

namespace Go.Proofs.Ytcdmabjebohlgab
/-- The given statement. -/
theorem fnMulDiv_holds : Rows.FnMulDivSaid := fnMulDiv.over
#print axioms fnMulDiv_holds
end Go.Proofs.Ytcdmabjebohlgab
