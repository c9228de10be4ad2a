/-
  FnExactNearIn: for every world handed in, however great, impl.NearIn answers as spec.NearIn and leaves its argument as it was; the call returns true, and nothing that was there ahead of it is written.
-/
import Derived.Test.YtloicicgcdfgnaaRows
import Derived.WalkKit
import Derived.ProofKit
import Derived.OpenShut
import Derived.ChangeOld
import Derived.Below
import Derived.Lib.SmallJoins
import Derived.Test.YtloicicgcdfgnaaBase
import Derived.Test.YtloicicgcdfgnaaNearIn
import Derived.Test.YtloicicgcdfgnaaPut
import Derived.Test.YtloicicgcdfgnaaTk
namespace Go.Proofs.Ytloicicgcdfgnaa.fnExactNearIn
open Go.ChangeShapes Go.WideShapes Go.ChangeAt Go.RowKit Go.Joins
set_option linter.unusedVariables false
set_option linter.unusedSimpArgs false

theorem own : ownKnob Try.prog.godebug = none := by kernel_rfl
theorem laidOut : laidOutB Try.prog = true := by kernel_rfl


/-! The walk. -/
set_option maxHeartbeats 20000000 in
set_option maxRecDepth 100000 in
theorem walk (n l d r p s t : Int) (a : Option Addr) (k ka : Nat) (b : Option Addr) (m mb : Nat) (ks os : List Int) (w : World) (hr : Ls.Row w w.heap.size a k ks) (hs : Ls.Row w w.heap.size b m os) (lk : k ≤ maxLen) (lm : m ≤ maxLen) :
    Calls Try.prog 11 #[.agg #[.int .i64 n, .int .i64 l, .int .i64 d, .int .i64 r, .int .i64 p, .int .i64 s, .slice a k ka, .slice b m mb, .int .i64 t]] w fun e w' => e = .returned (.bool true) ∧ Below w.heap.size w w' := by
  by_cases hl : k + m ≤ 1048576
  case neg =>
    go_enter Try.func11, Try.ntmps11
    go_wp2_with fail
    refine (Wl.szWorld_no n l d r p s t a b k ka m mb _ hl lk lm).mono ?_
    rintro e w2 ⟨rfl, b2⟩
    go_wp2
    go_ret
    exact ⟨rfl, ((Below.refl _ w).alloc (Nat.le_refl _) _).trans (b2.mono (by simp))⟩
  case pos =>
    have hk : k ≤ 1048576 := by omega
    have hm : m ≤ 1048576 := by omega
    have R0 := Rm.Room.new w (Wl.c9 n l d r p s (.slice a k ka) (.slice b m mb) t) 61
    have BB := (Below.refl w.heap.size w).alloc (Nat.le_refl _) (.cells (Wl.c9 n l d r p s (.slice a k ka) (.slice b m mb) t).toArray 61)
    go_enter Try.func11, Try.ntmps11
    go_wp2_with fail
    refine (Wl.szWorld_yes n l d r p s t a b k ka m mb _ hl).mono ?_
    rintro e w2 ⟨⟨x2, rfl, hx2⟩, b2⟩
    have hx2b : decide (x2 < 0) = false := by simp; omega
    have z_b2 := b2.size
    simp at z_b2
    replace R0 := R0.below b2
    replace BB := BB.trans (b2.mono BB.size)
    have cR00 := R0.cell 0 rfl
    have cR01 := R0.cell 1 rfl
    have cR02 := R0.cell 2 rfl
    have cR03 := R0.cell 3 rfl
    have cR04 := R0.cell 4 rfl
    have cR05 := R0.cell 5 rfl
    have cR06 := R0.cell 6 rfl
    have cR07 := R0.cell 7 rfl
    have cR08 := R0.cell 8 rfl
    have lR0 := R0.lt (by simp)
    go_wp2_with fail
    refine (Wl.toWorld n l d r p s t a b k ka m mb ks os _ ((hr.later BB (Nat.le_refl _)).more BB.size) ((hs.later BB (Nat.le_refl _)).more BB.size) hk hm).mono ?_
    rintro e w3 ⟨⟨g1, h1, rfl, hK1, hO1, gh1⟩, b3⟩
    clear cR00 cR01 cR02 cR03 cR04 cR05 cR06 cR07 cR08 lR0
    have z_b3 := b3.size
    (try simp at z_b3)
    replace R0 := R0.below b3
    replace BB := BB.trans (b3.mono BB.size)
    have cR00 := R0.cell 0 rfl
    have cR01 := R0.cell 1 rfl
    have cR02 := R0.cell 2 rfl
    have cR03 := R0.cell 3 rfl
    have cR04 := R0.cell 4 rfl
    have cR05 := R0.cell 5 rfl
    have cR06 := R0.cell 6 rfl
    have cR07 := R0.cell 7 rfl
    have cR08 := R0.cell 8 rfl
    have lR0 := R0.lt (by simp)
    go_wp2_with fail
    refine (Wl.s_NearIn n l d r p s t _ _ k k m m ks os _ hK1.row hO1.row hk hm).mono ?_
    rintro e w4 ⟨rfl, b4⟩
    clear cR00 cR01 cR02 cR03 cR04 cR05 cR06 cR07 cR08 lR0
    have z_b4 := b4.size
    (try simp at z_b4)
    replace R0 := R0.below b4
    replace BB := BB.trans (b4.mono BB.size)
    have cR00 := R0.cell 0 rfl
    have cR01 := R0.cell 1 rfl
    have cR02 := R0.cell 2 rfl
    have cR03 := R0.cell 3 rfl
    have cR04 := R0.cell 4 rfl
    have cR05 := R0.cell 5 rfl
    have cR06 := R0.cell 6 rfl
    have cR07 := R0.cell 7 rfl
    have cR08 := R0.cell 8 rfl
    have lR0 := R0.lt (by simp)
    go_wp2_with fail
    refine (Wl.toWorld n l d r p s t a b k ka m mb ks os _ ((hr.later BB (Nat.le_refl _)).more BB.size) ((hs.later BB (Nat.le_refl _)).more BB.size) hk hm).mono ?_
    rintro e w5 ⟨⟨g2, h2, rfl, hK2, hO2, gh2⟩, b5⟩
    clear cR00 cR01 cR02 cR03 cR04 cR05 cR06 cR07 cR08 lR0
    have z_b5 := b5.size
    (try simp at z_b5)
    replace R0 := R0.below b5
    replace BB := BB.trans (b5.mono BB.size)
    have cR00 := R0.cell 0 rfl
    have cR01 := R0.cell 1 rfl
    have cR02 := R0.cell 2 rfl
    have cR03 := R0.cell 3 rfl
    have cR04 := R0.cell 4 rfl
    have cR05 := R0.cell 5 rfl
    have cR06 := R0.cell 6 rfl
    have cR07 := R0.cell 7 rfl
    have cR08 := R0.cell 8 rfl
    have lR0 := R0.lt (by simp)
    go_wp2_with fail
    have bn1 := (Below.refl w5.heap.size w5).alloc (Nat.le_refl _) (.cells #[.int .i64 n, .int .i64 l, .int .i64 d, .int .i64 r, .int .i64 p, .int .i64 s, .slice (some ⟨g2, 0, none⟩) k k, .slice (some ⟨h2, 0, none⟩) m m, .int .i64 t] 31)
    have z_bn1 := bn1.size
    have RX := Rm.Room.new w5 [.int .i64 n, .int .i64 l, .int .i64 d, .int .i64 r, .int .i64 p, .int .i64 s, .slice (some ⟨g2, 0, none⟩) k k, .slice (some ⟨h2, 0, none⟩) m m, .int .i64 t] 31
    replace R0 := R0.below bn1
    replace hK2 := hK2.later bn1 hK2.2.2.1
    replace hO2 := hO2.later bn1 hO2.2.2.1
    replace BB := BB.trans (bn1.mono BB.size)
    clear cR00 cR01 cR02 cR03 cR04 cR05 cR06 cR07 cR08 lR0
    refine (Wl.i_NearIn n l d r p s t _ _ k k m m ks os _ hK2.row hO2.row hk hm).mono ?_
    rintro e w6 ⟨rfl, b6⟩
    replace R0 := R0.below b6
    replace RX := RX.below b6
    replace hK2 := hK2.later b6 hK2.2.2.1
    replace hO2 := hO2.later b6 hO2.2.2.1
    replace BB := BB.trans (b6.mono BB.size)
    have cR00 := R0.cell 0 rfl
    have cR01 := R0.cell 1 rfl
    have cR02 := R0.cell 2 rfl
    have cR03 := R0.cell 3 rfl
    have cR04 := R0.cell 4 rfl
    have cR05 := R0.cell 5 rfl
    have cR06 := R0.cell 6 rfl
    have cR07 := R0.cell 7 rfl
    have cR08 := R0.cell 8 rfl
    have lR0 := R0.lt (by simp)
    have cRX0 := RX.cell 0 rfl
    have cRX1 := RX.cell 1 rfl
    have cRX2 := RX.cell 2 rfl
    have cRX3 := RX.cell 3 rfl
    have cRX4 := RX.cell 4 rfl
    have cRX5 := RX.cell 5 rfl
    have cRX6 := RX.cell 6 rfl
    have cRX7 := RX.cell 7 rfl
    have cRX8 := RX.cell 8 rfl
    have lRX := RX.lt (by simp)
    go_wp2_with fail
    refine wp_region_noPanic ?_
    refine wp_region_held_drew (S := (fun w' => w'.cell? ⟨w.heap.size, 0, none⟩ = some (.int .i64 n) ∧ w'.cell? ⟨w.heap.size, 1, none⟩ = some (.int .i64 l) ∧ w'.cell? ⟨w.heap.size, 2, none⟩ = some (.int .i64 d) ∧ w'.cell? ⟨w.heap.size, 3, none⟩ = some (.int .i64 r) ∧ w'.cell? ⟨w.heap.size, 4, none⟩ = some (.int .i64 p) ∧ w'.cell? ⟨w.heap.size, 5, none⟩ = some (.int .i64 s) ∧ w'.cell? ⟨w.heap.size, 6, none⟩ = some (.slice a k ka) ∧ w'.cell? ⟨w.heap.size, 7, none⟩ = some (.slice b m mb) ∧ w'.cell? ⟨w.heap.size, 8, none⟩ = some (.int .i64 t) ∧ w'.cell? ⟨w5.heap.size, 0, none⟩ = some (.int .i64 n) ∧ w'.cell? ⟨w5.heap.size, 1, none⟩ = some (.int .i64 l) ∧ w'.cell? ⟨w5.heap.size, 2, none⟩ = some (.int .i64 d) ∧ w'.cell? ⟨w5.heap.size, 3, none⟩ = some (.int .i64 r) ∧ w'.cell? ⟨w5.heap.size, 4, none⟩ = some (.int .i64 p) ∧ w'.cell? ⟨w5.heap.size, 5, none⟩ = some (.int .i64 s) ∧ w'.cell? ⟨w5.heap.size, 6, none⟩ = some (.slice (some ⟨g2, 0, none⟩) k k) ∧ w'.cell? ⟨w5.heap.size, 7, none⟩ = some (.slice (some ⟨h2, 0, none⟩) m m) ∧ w'.cell? ⟨w5.heap.size, 8, none⟩ = some (.int .i64 t) ∧ Hid (Below w.heap.size w w' ∧ Rm.Room w' (w.heap.size) [.int .i64 n, .int .i64 l, .int .i64 d, .int .i64 r, .int .i64 p, .int .i64 s, .slice a k ka, .slice b m mb, .int .i64 t] ∧ Rm.Room w' (w5.heap.size) [.int .i64 n, .int .i64 l, .int .i64 d, .int .i64 r, .int .i64 p, .int .i64 s, .slice (some ⟨g2, 0, none⟩) k k, .slice (some ⟨h2, 0, none⟩) m m, .int .i64 t] ∧ Ow.Has w' w4.heap.size g2 0 k ks ∧ Ow.Has w' w4.heap.size h2 0 m os))) (by kernel_rfl) ⟨R0.cell 0 rfl, R0.cell 1 rfl, R0.cell 2 rfl, R0.cell 3 rfl, R0.cell 4 rfl, R0.cell 5 rfl, R0.cell 6 rfl, R0.cell 7 rfl, R0.cell 8 rfl, RX.cell 0 rfl, RX.cell 1 rfl, RX.cell 2 rfl, RX.cell 3 rfl, RX.cell 4 rfl, RX.cell 5 rfl, RX.cell 6 rfl, RX.cell 7 rfl, RX.cell 8 rfl, ⟨BB.drew, R0.drew, RX.drew, hK2.later (Below.refl _ _).drew hK2.2.2.1, hO2.later (Below.refl _ _).drew hO2.2.2.1⟩⟩ (fun hHeld => ?_)
    refine Tk.W 0 (some 22) (.load 31 (.tmp 5)) 31 none ?_
    refine Tk.W 1 (some 23) (.load 61 (.tmp 1)) 61 none ?_
    refine Tk.R 2 (some 24) (.call ⟨.value (.func 36), #[.tmp 23], #[61]⟩) 31 none (fun K hK => ?_)
    go_simp
    refine (Wl.toWorld n l d r p s t a b k ka m mb ks os _ ((hr.later hHeld.2.2.2.2.2.2.2.2.2.2.2.2.2.2.2.2.2.2.out.1 (Nat.le_refl _)).more hHeld.2.2.2.2.2.2.2.2.2.2.2.2.2.2.2.2.2.2.out.1.size) ((hs.later hHeld.2.2.2.2.2.2.2.2.2.2.2.2.2.2.2.2.2.2.out.1 (Nat.le_refl _)).more hHeld.2.2.2.2.2.2.2.2.2.2.2.2.2.2.2.2.2.2.out.1.size) hk hm).mono ?_
    rintro e vq3 ⟨⟨gn, hn, rfl, kK_q3, kO_q3, _⟩, b_q3⟩
    have ⟨BB_q3, R0_q3, RX_q3, hK2_q3, hO2_q3⟩ := hHeld.2.2.2.2.2.2.2.2.2.2.2.2.2.2.2.2.2.2.out
    have BB2_q3 := BB_q3.trans (b_q3.mono BB_q3.size)
    have R02_q3 := R0_q3.below b_q3
    have RX2_q3 := RX_q3.below b_q3
    have hK22_q3 := hK2_q3.later b_q3 hK2_q3.2.2.1
    have hO22_q3 := hO2_q3.later b_q3 hO2_q3.2.2.1
    have kvq3 := Tk.kv hK (w := vq3) ⟨R02_q3.cell 0 rfl, R02_q3.cell 1 rfl, R02_q3.cell 2 rfl, R02_q3.cell 3 rfl, R02_q3.cell 4 rfl, R02_q3.cell 5 rfl, R02_q3.cell 6 rfl, R02_q3.cell 7 rfl, R02_q3.cell 8 rfl, RX2_q3.cell 0 rfl, RX2_q3.cell 1 rfl, RX2_q3.cell 2 rfl, RX2_q3.cell 3 rfl, RX2_q3.cell 4 rfl, RX2_q3.cell 5 rfl, RX2_q3.cell 6 rfl, RX2_q3.cell 7 rfl, RX2_q3.cell 8 rfl, ⟨BB2_q3, R02_q3, RX2_q3, hK22_q3, hO22_q3⟩⟩
    have hKn := kK_q3.row
    have hOn := kO_q3.row
    have hKx := hK22_q3.row
    have hOx := hO22_q3.row
    try dsimp only
    refine hK.out _ _ kvq3 ?_; clear hK K hHeld; intro hHeld; try simp only [Act.put, List.setIfInBounds_toArray, List.set_cons_zero, List.set_cons_succ]
    refine Tk.R 3 (some 25) (.call ⟨.value (.func 38), #[.tmp 22, .tmp 24], #[31, 31]⟩) 4 none (fun K hK => ?_)
    go_simp
    refine (Wl.eqWorld n l d r p s t _ _ _ _ k _ _ m _ _ ks os _ hKx hKn hOx hOn hk hm).mono ?_
    rintro e vq4 ⟨rfl, b_q4⟩
    have ⟨BB_q4, R0_q4, RX_q4, hK2_q4, hO2_q4⟩ := hHeld.2.2.2.2.2.2.2.2.2.2.2.2.2.2.2.2.2.2.out
    have BB2_q4 := BB_q4.trans (b_q4.mono BB_q4.size)
    have R02_q4 := R0_q4.below b_q4
    have RX2_q4 := RX_q4.below b_q4
    have hK22_q4 := hK2_q4.later b_q4 hK2_q4.2.2.1
    have hO22_q4 := hO2_q4.later b_q4 hO2_q4.2.2.1
    have kvq4 := Tk.kv hK (w := vq4) ⟨R02_q4.cell 0 rfl, R02_q4.cell 1 rfl, R02_q4.cell 2 rfl, R02_q4.cell 3 rfl, R02_q4.cell 4 rfl, R02_q4.cell 5 rfl, R02_q4.cell 6 rfl, R02_q4.cell 7 rfl, R02_q4.cell 8 rfl, RX2_q4.cell 0 rfl, RX2_q4.cell 1 rfl, RX2_q4.cell 2 rfl, RX2_q4.cell 3 rfl, RX2_q4.cell 4 rfl, RX2_q4.cell 5 rfl, RX2_q4.cell 6 rfl, RX2_q4.cell 7 rfl, RX2_q4.cell 8 rfl, ⟨BB2_q4, R02_q4, RX2_q4, hK22_q4, hO22_q4⟩⟩
    try dsimp only
    refine hK.out _ _ kvq4 ?_; clear hK K hHeld; intro hHeld; try simp only [Act.put, List.setIfInBounds_toArray, List.set_cons_zero, List.set_cons_succ]
    refine Tk.W 4 (some 26) (.unOp .not 4 (.tmp 25)) 4 none ?_
    refine wpAnyH_done (by kernel_rfl) ?_ _
    refine NoPanic.normal ?_
    clear BB R0 RX hK2 hO2
    obtain ⟨BB, R0, RX, hK2, hO2⟩ := hHeld.2.2.2.2.2.2.2.2.2.2.2.2.2.2.2.2.2.2.out
    clear hHeld
    go_wp2
    go_ret
    exact ⟨rfl, BB⟩

/-! The row. -/
set_option maxRecDepth 100000 in
theorem lifted (os : Os) (started : os.Started) (H : Type) (enc : TypeId × Value → H) :
    ReturnsInHanded {} Try.checked os 11 .any (Rows.fnExactNearInSpec.pre6 enc Try.prog Try.f11 Rows.fnExactNearInRow.domain false) (Rows.fnExactNearInSpec.post enc Try.prog Try.f11 false true false false) := by
  refine returnsInHanded_of_change (C := Try.checked) own started (by kernel_rfl) Try.func11
    (ChangeSpec.witness6 (enc := enc) (C := Try.checked) false ⟨#[], #[.agg #[.int .i64 0, .int .i64 0, .int .i64 0, .int .i64 0, .int .i64 0, .int .i64 0, .slice none 0 0, .slice none 0 0, .int .i64 0]], []⟩ 8 (by kernel_rfl) (by kernel_rfl) (by kernel_rfl) (by kernel_rfl)) ?_
  intro W base args ds gs before hval0 hW hcnd _
  have hval : ∀ (j : Nat) t v, Try.f11.params[j]? = some t → args[j]? = some v → Value.okWide Try.prog W .any base t v := hval0
  have hW' := hW
  obtain ⟨p, q, hA0, hV, rfl, hfz, hnd⟩ := hW
  have hA : DataW.TrodAll enc Try.prog W 0 (fun _ => true) true Try.f11.params.toList args.toList ds p := hA0
  rw [Try.params11] at hA hval
  obtain ⟨v0, vs0, d0, ds0, p0, q0, hargs, rfl, rfl, h0, r0⟩ := trodAll_cons hA
  obtain ⟨rfl, rfl, rfl⟩ := trodAll_nil r0
  obtain rfl : args = #[v0] := by cases args; simp_all
  obtain ⟨rfl, rfl⟩ := trodVars_none hV
  have k0' := h0
  have lt0' : ∀ x ∈ p0, x.block < W.heap.size := by obtain ⟨m, hm⟩ := k0'; exact DataW.trod_lt m _ _ _ hm
  have rd0 := Rd.Reads.of h0
  obtain ⟨cs0, rfl, _⟩ := okWide_struct Try.underlying61 (hval 0 61 v0 rfl rfl)
  obtain ⟨n, l, d, r, p, s, t, a, k, ka, b, m, mb, ks, os, rfl, hr, hs, lk, lm⟩ := Rd.world rd0
  clear hA0 hval0
  refine (walk n l d r p s t a k ka b m mb ks os W hr hs lk lm).mono fun e W' ⟨he, bel⟩ => ?_
  subst he
  exact ⟨_, rfl, _, _, _, [], _, [], hW', trodAll_mk1 (shut_bool Try.underlying4 _), (trodAll_cons_mk (Below.trod laidOut (by kernel_rfl) (of_decide_eq_true (by kernel_rfl)) k0' bel lt0') trodAll_mk0), rfl, bel.frame _, fun h => by cases h⟩

theorem over : Rows.fnExactNearInRow.holds Try.pinned (OpenSpec.ofChange Rows.fnExactNearInSpec) :=
  OpenClaim.holds_of_wide 11 Try.f11 rfl rfl rfl rfl rfl rfl rfl ⟨rfl, rfl, rfl, rfl, rfl⟩ rfl rfl rfl rfl rfl (by kernel_rfl) Try.func11 (by kernel_rfl)
    (of_decide_eq_true (by kernel_rfl)) (by unfold Func.isWrapper; first | (rw [if_pos (by decide +kernel)]; kernel_rfl) | (rw [if_neg (by decide +kernel)]; exact ⟨rfl, rfl⟩))
    (fun os started H enc _ => lifted os started H enc)

end Go.Proofs.Ytloicicgcdfgnaa.fnExactNearIn

namespace Go.Proofs.Ytloicicgcdfgnaa
/-- The given statement. -/
theorem fnExactNearIn_holds : Rows.FnExactNearInSaid := fnExactNearIn.over
#print axioms fnExactNearIn_holds
end Go.Proofs.Ytloicicgcdfgnaa
