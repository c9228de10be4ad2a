/-
  SealRight answers as its model at every list of keys and seal, and writes into no list.
-/
import Derived.Test.YtadmkojlobniaaaRows
import Derived.WalkKit
import Derived.ProofKit
import Derived.OpenShut
import Derived.ChangeOld
import Derived.Below
import Derived.Lib.SmallJoins
import Derived.Test.YtadmkojlobniaaaOpW
import Derived.Test.YtadmkojlobniaaaOpS
import Derived.Test.YtadmkojlobniaaaSl2
import Derived.Test.YtadmkojlobniaaaTk
namespace Go.Proofs.Ytadmkojlobniaaa.fnExactSealRight
open Go.ChangeShapes Go.WideShapes Go.ChangeAt Go.RowKit Go.Joins
set_option linter.unusedVariables false
set_option linter.unusedSimpArgs false

theorem own : ownKnob Try.prog.godebug = none := by kernel_rfl
theorem laidOut : laidOutB Try.prog = true := by kernel_rfl


/-! The walk. -/
set_option maxHeartbeats 20000000 in
set_option maxRecDepth 100000 in
theorem walk (b : Option Addr) (m mb : Nat) (os : List Int) (sR sK sT : Int) (w : World) (hs : Ls.Row w w.heap.size b m os) (lm : m ≤ maxLen) :
    Calls Try.prog 6 #[.slice b m mb, .agg #[.int .i64 sR, .int .i64 sK, .int .i64 sT]] w fun e w' => e = .returned (.bool true) ∧ Below w.heap.size w w' := by
  have BZ : Below w.heap.size w (w.alloc (.cells #[.int .i64 sR, .int .i64 sK, .int .i64 sT] 51)) := (Below.refl w.heap.size w).alloc (Nat.le_refl _) _
  by_cases hl : m ≤ 1048576
  case neg =>
    have d : decide ((1048576 : Int) < m) = true := decide_eq_true (by omega)
    go_enter Try.func6, Try.ntmps6
    go_wp2
    go_ret
    exact ⟨rfl, BZ⟩
  case pos =>
    have d : decide ((1048576 : Int) < m) = false := decide_eq_false (by omega)
    go_enter Try.func6, Try.ntmps6
    replace BZ := BZ.drew
    have RZ := Rm.Room.new w (Sl.c3 sR sK sT) 51
    replace RZ := RZ.drew
    go_wp2_with fail
    refine wp_region_noPanic ?_
    refine wp_region_held_drew (S := (fun w' => w'.cell? ⟨w.heap.size, 0, none⟩ = some (.int .i64 sR) ∧ w'.cell? ⟨w.heap.size, 1, none⟩ = some (.int .i64 sK) ∧ w'.cell? ⟨w.heap.size, 2, none⟩ = some (.int .i64 sT) ∧ Hid (Rm.Room w' w.heap.size (Sl.c3 sR sK sT) ∧ Below w.heap.size w w'))) (by kernel_rfl) ⟨RZ.cell 0 rfl, RZ.cell 1 rfl, RZ.cell 2 rfl, ⟨RZ, BZ⟩⟩ (fun hHeld => ?_)
    refine Tk.W 0 (some 11) (.move (.tmp 0)) 29 none ?_
    refine Tk.W 2 (some 13) (.load 51 (.tmp 3)) 51 none ?_
    refine Tk.R 1 (some 12) (.call ⟨.value (.func 18), #[.tmp 11], #[29]⟩) 29 none (fun K hK => ?_)
    go_simp
    refine (Ls.toInt64S _ _ _ os _ ((hs.later hHeld.2.2.2.out.2 (Nat.le_refl _)).more hHeld.2.2.2.out.2.size) hl).mono ?_
    rintro e w1 ⟨⟨g1, rfl, _, r1⟩, b1⟩
    have Rq3 := hHeld.2.2.2.out.1.below b1
    have Bq3 := hHeld.2.2.2.out.2.trans (b1.mono hHeld.2.2.2.out.2.size)
    clear b1
    try dsimp only
    refine hK.out _ _ ⟨Rq3.cell 0 rfl, Rq3.cell 1 rfl, Rq3.cell 2 rfl, ⟨Rq3, Bq3⟩⟩ ?_; clear hK K hHeld; intro hHeld; try simp only [Act.put, List.setIfInBounds_toArray, List.set_cons_zero, List.set_cons_succ]
    refine Tk.R 3 (some 14) (.call ⟨.value (.func 21), #[.tmp 13], #[51]⟩) 39 none (fun K hK => ?_)
    go_simp
    refine (Sl.toSeal sR sK sT _).mono ?_
    rintro e w2 ⟨rfl, b2⟩
    have Rq4 := hHeld.2.2.2.out.1.below b2
    have Bq4 := hHeld.2.2.2.out.2.trans (b2.mono hHeld.2.2.2.out.2.size)
    replace r1 := (r1.later b2 (Nat.le_refl _)).more b2.size
    clear b2
    try dsimp only
    refine hK.out _ _ ⟨Rq4.cell 0 rfl, Rq4.cell 1 rfl, Rq4.cell 2 rfl, ⟨Rq4, Bq4⟩⟩ ?_; clear hK K hHeld; intro hHeld; try simp only [Act.put, List.setIfInBounds_toArray, List.set_cons_zero, List.set_cons_succ]
    refine Tk.R 4 (some 15) (.call ⟨.value (.func 16), #[.tmp 12, .tmp 14], #[29, 39]⟩) 4 none (fun K hK => ?_)
    go_simp
    refine (Sl.s_SealRight _ _ _ os sR sK sT _ r1 hl).mono ?_
    rintro e w3 ⟨rfl, b3⟩
    have Rq5 := hHeld.2.2.2.out.1.below b3
    have Bq5 := hHeld.2.2.2.out.2.trans (b3.mono hHeld.2.2.2.out.2.size)
    clear b3 r1
    try dsimp only
    refine hK.out _ _ ⟨Rq5.cell 0 rfl, Rq5.cell 1 rfl, Rq5.cell 2 rfl, ⟨Rq5, Bq5⟩⟩ ?_; clear hK K hHeld; intro hHeld; try simp only [Act.put, List.setIfInBounds_toArray, List.set_cons_zero, List.set_cons_succ]
    refine Tk.W 5 (some 5) (.assign (.tmp 15)) 4 none ?_
    refine wpAnyH_done (by kernel_rfl) ?_ _
    refine NoPanic.normal ?_
    obtain ⟨_, _, _, ⟨R, B⟩⟩ := hHeld
    go_wp2_with fail
    refine (Ls.toInt64S _ _ _ os _ ((hs.later B (Nat.le_refl _)).more B.size) hl).mono ?_
    rintro e w3 ⟨⟨g3, rfl, _, r3⟩, b3⟩
    replace B := B.trans (b3.mono B.size)
    replace R := R.below b3
    have c0 := R.cell 0 rfl
    have c1 := R.cell 1 rfl
    have c2 := R.cell 2 rfl
    go_wp2_with fail
    clear c0 c1 c2
    refine (Sl.toSeal sR sK sT _).mono ?_
    rintro e w4 ⟨rfl, b4⟩
    replace B := B.trans (b4.mono B.size)
    replace r3 := (r3.later b4 (Nat.le_refl _)).more b4.size
    clear b3 b4 R
    go_wp2_with fail
    refine (Sl.i_SealRight _ _ _ os sR sK sT _ r3 hl).mono ?_
    rintro e w7 ⟨rfl, b7⟩
    replace B := B.trans (b7.mono B.size)
    replace r3 := (r3.later b7 (Nat.le_refl _)).more b7.size
    clear b7
    go_wp2_with fail
    refine (Ls.toInt64S _ _ _ os _ ((hs.later B (Nat.le_refl _)).more B.size) hl).mono ?_
    rintro e w5 ⟨⟨g5, rfl, _, r5⟩, b5⟩
    replace B := B.trans (b5.mono B.size)
    replace r3 := (r3.later b5 (Nat.le_refl _)).more b5.size
    clear b5
    go_wp2_with fail
    refine (Ls.eqInt64S _ _ _ _ _ os _ r3 r5 hl).mono ?_
    rintro e w6 ⟨rfl, b6⟩
    replace B := B.trans (b6.mono B.size)
    go_wp2
    go_ret
    exact ⟨rfl, B⟩

/-! The row. -/
set_option maxRecDepth 100000 in
theorem lifted (os : Os) (started : os.Started) (H : Type) (enc : TypeId × Value → H) :
    ReturnsInHanded {} Try.checked os 6 .any (Rows.fnExactSealRightSpec.pre6 enc Try.prog Try.f6 Rows.fnExactSealRightRow.domain false) (Rows.fnExactSealRightSpec.post enc Try.prog Try.f6 false true false false) := by
  refine returnsInHanded_of_change (C := Try.checked) own started (by kernel_rfl) Try.func6
    (ChangeSpec.witness6 (enc := enc) (C := Try.checked) false ⟨#[], #[.slice none 0 0, .agg #[.int .i64 0, .int .i64 0, .int .i64 0]], []⟩ 8 (by kernel_rfl) (by kernel_rfl) (by kernel_rfl) (by kernel_rfl)) ?_
  intro W base args ds gs before hval0 hW hcnd _
  have hval : ∀ (j : Nat) t v, Try.f6.params[j]? = some t → args[j]? = some v → Value.okWide Try.prog W .any base t v := hval0
  have hW' := hW
  obtain ⟨p, q, hA0, hV, rfl, hfz, hnd⟩ := hW
  have hA : DataW.TrodAll enc Try.prog W 0 (fun _ => true) true Try.f6.params.toList args.toList ds p := hA0
  rw [Try.params6] at hA hval
  obtain ⟨v0, vs0, d0, ds0, p0, q0, hargs, rfl, rfl, h0, r0⟩ := trodAll_cons hA
  obtain ⟨v1, vs1, d1, ds1, p1, q1, rfl, rfl, rfl, h1, r1⟩ := trodAll_cons r0
  obtain ⟨rfl, rfl, rfl⟩ := trodAll_nil r1
  obtain rfl : args = #[v0, v1] := by cases args; simp_all
  obtain ⟨rfl, rfl⟩ := trodVars_none hV
  have k0' := h0
  have lt0' : ∀ x ∈ p0, x.block < W.heap.size := by obtain ⟨m, hm⟩ := k0'; exact DataW.trod_lt m _ _ _ hm
  have rd0 := Rd.Reads.of h0
  obtain ⟨b, m, mb, rfl⟩ := okWide_slice Try.underlying29 (hval 0 29 v0 rfl rfl)
  obtain ⟨b_0, m_0, mb_0, os, e0, hs, lm, _⟩ := rd0.ints Try.underlying29 Try.underlying2 Rd.cells_int
  simp [Value.cells] at e0
  obtain ⟨rfl, rfl, rfl⟩ := e0
  have k1' := h1
  have lt1' : ∀ x ∈ p1, x.block < W.heap.size := by obtain ⟨m, hm⟩ := k1'; exact DataW.trod_lt m _ _ _ hm
  have rd1 := Rd.Reads.of h1
  obtain ⟨cs1, rfl, _⟩ := okWide_struct Try.underlying51 (hval 1 51 v1 rfl rfl)
  obtain ⟨sR, sK, sT, rfl⟩ := Rd.sealed3 rd1
  clear hA0 hval0
  refine (walk b m mb os sR sK sT W hs lm).mono fun e W' ⟨he, bel⟩ => ?_
  subst he
  exact ⟨_, rfl, _, _, _, [], _, [], hW', trodAll_mk1 (shut_bool Try.underlying4 _), (trodAll_cons_mk (Below.trod laidOut (by kernel_rfl) (of_decide_eq_true (by kernel_rfl)) k0' bel lt0') (trodAll_cons_mk (Below.trod laidOut (by kernel_rfl) (of_decide_eq_true (by kernel_rfl)) k1' bel lt1') trodAll_mk0)), rfl, bel.frame _, fun h => by cases h⟩

theorem over : Rows.fnExactSealRightRow.holds Try.pinned (OpenSpec.ofChange Rows.fnExactSealRightSpec) :=
  OpenClaim.holds_of_wide 6 Try.f6 rfl rfl rfl rfl rfl rfl rfl ⟨rfl, rfl, rfl, rfl, rfl⟩ rfl rfl rfl rfl rfl (by kernel_rfl) Try.func6 (by kernel_rfl)
    (of_decide_eq_true (by kernel_rfl)) (by unfold Func.isWrapper; first | (rw [if_pos (by decide +kernel)]; kernel_rfl) | (rw [if_neg (by decide +kernel)]; exact ⟨rfl, rfl⟩))
    (fun os started H enc _ => lifted os started H enc)

end Go.Proofs.Ytadmkojlobniaaa.fnExactSealRight

namespace Go.Proofs.Ytadmkojlobniaaa
/-- The given statement. -/
theorem fnExactSealRight_holds : Rows.FnExactSealRightSaid := fnExactSealRight.over
#print axioms fnExactSealRight_holds
end Go.Proofs.Ytadmkojlobniaaa
