/-
  The Go function laws.FnMono answers true at every code: a slewed clock of chapter 8 that is read at one hard after the other never goes back, and is at most 1 in Slew, and 1, faster or slower than the hardware; ahead of its Hard it shows nothing. No condition.
-/
import Derived.Test.YtcgcmceobmpdiaaRows
import Derived.WalkKit
import Derived.ProofKit
import Derived.OpenShut
import Derived.ShutString
import Derived.ChangeOld
import Derived.Below
import Derived.Test.YtcgcmceobmpdiaaDk
namespace Go.Proofs.Ytcgcmceobmpdiaa.fnMono
open Go.ChangeShapes Go.WideShapes Go.ChangeAt Go.RowKit
open Go.ChangeMaps (open_string shut_string)
set_option linter.unusedVariables false
set_option linter.unusedSimpArgs false

theorem own : ownKnob Try.prog.godebug = none := by kernel_rfl
theorem laidOut : laidOutB Try.prog = true := by kernel_rfl

/-- WHAT THE WALK IS TOLD OF A SLICE OF INTEGERS THAT CAME IN: it is nil; or it leads to a row of 'cap' cells, the numbers 'zs' (the first 'len' are its elements, the rest its spare room), each fitting its kind. -/
def IsRow (k : IntKind) (w : World) (a : Option Addr) (len cap : Nat) (zs : List Int) : Prop :=
  (a = none ∧ len = 0 ∧ cap = 0 ∧ zs = []) ∨
  ∃ x, a = some x ∧ len ≤ cap ∧ cap ≤ maxLen ∧ zs.length = cap ∧ (∀ i, i < zs.length → w.cell? (x.add i) = some (.int k (zs.getD i 0))) ∧ ∀ n ∈ zs, (Lit.int k n).wf = true

theorem code_of {w : World} {a : Option Addr} {len cap : Nat} {zs : List Int} (h : IsRow .u8 w a len cap zs) (hl : len ≤ 4096) : Dr.Code w w.heap.size a len := by
  refine ⟨hl, ?_⟩
  rcases h with ⟨_, h, _, _⟩ | ⟨x, rfl, h1, h2, h3, h4, h5⟩
  · exact .inl h
  · by_cases h0 : len = 0
    · exact .inl h0
    · obtain ⟨b, off, spot⟩ := x
      have hc := h4 0 (by omega)
      have hs : spot = none := by simpa [Addr.add] using World.cell?_spot hc
      subst hs
      have hb := World.block_lt_of_cell? _ _ hc
      refine .inr ⟨b, off, rfl, by simpa [Addr.add] using hb, fun k hk => ⟨zs.getD k 0, ?_, ?_⟩⟩
      · have hk4 := h4 k (by omega)
        by_cases hk0 : k = 0
        · subst hk0; simpa [Addr.add] using hk4
        · simpa [Addr.add, hk0] using hk4
      · have e : zs.getD k 0 = zs[k]'(by omega) := by simp [List.getD, show k < zs.length by omega]
        refine bounds_u8 (h5 _ ?_)
        rw [e]
        exact List.getElem_mem _

theorem small (a : Option Addr) (len cap : Nat) (h : len ≤ 4096) (w : World) : Calls Try.prog 11 #[.slice a len cap] w fun e w' => e = .returned (.bool false) ∧ w' = w := by
  have h' : ¬ (4096 : Int) < len := by omega
  go_enter Try.func11, Try.ntmps11
  go_wp2
  go_ret
  exact ⟨rfl, rfl⟩

theorem great (a : Option Addr) (len cap : Nat) (h : ¬ len ≤ 4096) (w : World) : Calls Try.prog 11 #[.slice a len cap] w fun e w' => e = .returned (.bool true) ∧ w' = w := by
  have h' : (4096 : Int) < len := by omega
  go_enter Try.func11, Try.ntmps11
  go_wp2
  go_ret
  exact ⟨rfl, rfl⟩

/-! The walk. -/
set_option maxHeartbeats 20000000 in
set_option maxRecDepth 100000 in
theorem walk (a0 : Option Addr) (len0 cap0 : Nat) (z0 : List Int) (w : World) (w0 : IsRow .u8 w a0 len0 cap0 z0) :
    Calls Try.prog 3 #[.slice a0 len0 cap0] w fun e w' => e = .returned (.bool true) ∧ Below w.heap.size w w' := by
  by_cases hl : len0 ≤ 4096
  · have code := code_of w0 hl
    clear w0
    go_enter Try.func3, Try.ntmps3
    go_wp2_with fail
    refine (small a0 len0 cap0 hl _).mono ?_
    rintro e w ⟨rfl, rfl⟩
    go_wp2_with fail
    refine (Di.roll w.heap.size a0 len0 cap0 11 w (Nat.le_refl _) code).mono ?_
    rintro e w1 ⟨rfl, st1⟩
    go_wp2_with fail
    refine (Di.below w w.heap.size w.heap.size a0 len0 cap0 1000 (by omega) (by omega) _ st1).mono ?_
    rintro e w2 ⟨⟨h, rfl, h0, h1⟩, st2⟩
    go_wp2_with fail
    refine (Di.around w w.heap.size w.heap.size a0 len0 cap0 10000 (by omega) (by omega) _ st2).mono ?_
    rintro e w3 ⟨⟨v, rfl, v0, v1⟩, st3⟩
    go_wp2_with fail
    refine (Di.around w w.heap.size w.heap.size a0 len0 cap0 60 (by omega) (by omega) _ st3).mono ?_
    rintro e w4 ⟨⟨o, rfl, o0, o1⟩, st4⟩
    have z4 := st4.lt
    have NK : Ck.Kb w w.heap.size a0 len0 cap0 w4.heap.size h v o (w4.alloc (.cells #[.int .i64 h, .int .i64 v, .int .i64 o] 29)) := ⟨st4.obj _, Rm.Room.new w4 (Ck.c3 h v o) 29, by omega⟩
    clear st1 st2 st3 st4 code
    go_wp2_with fail
    generalize (w4.alloc (.cells #[.int .i64 h, .int .i64 v, .int .i64 o] 29)) = w5 at NK ⊢
    refine (Di.below' w w.heap.size w.heap.size a0 len0 cap0 10 (by omega) (by omega) _ NK.st).mono ?_
    rintro e w6 ⟨⟨x, rfl, x0, x1⟩, st6, sp6⟩
    replace NK := NK.step st6 sp6
    clear st6 sp6
    have hq := Ck.ck_small (h := h) (v := v) (o := o) (s := 2 + x) (by omega) (by omega) (by omega) (by omega)
    have HR : Hid (Ck.FR h v o (2 + x) h = true ∧ Ck.RV h v o (2 + x) h = v) := Ck.rv_here hq
    clear hq
    have c0 := NK.R.cell 0 rfl
    have c1 := NK.R.cell 1 rfl
    have c2 := NK.R.cell 2 rfl
    go_wp2_with fail
    clear c0 c1 c2
    refine (Ck.i_ReadAt h v o (2 + x) h _).mono ?_
    rintro e w7 ⟨rfl, b⟩
    rw [HR.out.1, HR.out.2]
    replace NK := NK.below b
    clear b
    have c0 := NK.R.cell 0 rfl
    have c1 := NK.R.cell 1 rfl
    have c2 := NK.R.cell 2 rfl
    go_wp2_with fail
    clear c0 c1 c2
    go_loopw [6, 7, 9] (fun tv lv iv wr => ∃ (i : Nat) (T L : Int), i ≤ 10 ∧ iv = .int .i64 i ∧ tv = .int .i64 T ∧ lv = .int .i64 L ∧ h ≤ T ∧ T ≤ h + 60 * i ∧ Hid (Ck.RV h v o (2 + x) T = L) ∧ Ck.Kb w w.heap.size a0 len0 cap0 w4.heap.size h v o wr) (fun _ _ iv _ => 10 - (intOf iv).toNat)
    case atStart => exact ⟨0, h, v, by omega, rfl, rfl, rfl, by omega, by omega, HR.out.2, NK⟩
    case round =>
      clear NK
      obtain ⟨i, T, L, hi, rfl, rfl, rfl, t0, t1, HL, NK⟩ := hrel
      by_cases hlt : i < 10
      · have hi2 : (i : Int) < 10 := by omega
        go_wp2_with fail
        refine (Di.below' w w.heap.size w.heap.size a0 len0 cap0 60 (by omega) (by omega) _ NK.st).mono ?_
        rintro e w8 ⟨⟨y, rfl, y0, y1⟩, st8, sp8⟩
        replace NK := NK.step st8 sp8
        clear st8 sp8
        obtain ⟨m0, ⟨m1, m2⟩, m3, m4, m5, ⟨m6, m7⟩, m8, m9⟩ := Ck.mono_step (h := h) (v := v) (o := o) (s := 2 + x) (T := T) (y := y) ⟨h0, by omega⟩ ⟨v0, v1⟩ ⟨o0, o1⟩ ⟨by omega, by omega⟩ ⟨t0, by omega⟩ ⟨y0, y1⟩
        rw [HL.out] at m3 m4 m5 m6 m7
        obtain ⟨X, hX⟩ : ∃ X, Ck.RV h v o (2 + x) (T + y) = X := ⟨_, rfl⟩
        rw [hX] at m1 m2 m3 m4 m5
        have HX : Hid (Ck.RV h v o (2 + x) (T + y) = X) := hX
        have HF : Hid (Ck.FR h v o (2 + x) (T + y) = true) := m0
        clear hX m0
        obtain ⟨D, hD⟩ : ∃ D, y / (2 + x) = D := ⟨_, rfl⟩
        rw [hD] at m4 m5 m8 m9
        have c0 := NK.R.cell 0 rfl
        have c1 := NK.R.cell 1 rfl
        have c2 := NK.R.cell 2 rfl
        go_wp2_with fail
        clear c0 c1 c2
        refine (Ck.i_ReadAt h v o (2 + x) (T + y) _).mono ?_
        rintro e w9 ⟨rfl, b⟩
        rw [HF.out, HX.out]
        replace NK := NK.below b
        clear b
        have c0 := NK.R.cell 0 rfl
        have c1 := NK.R.cell 1 rfl
        have c2 := NK.R.cell 2 rfl
        go_wp2_with fail
        clear c0 c1 c2
        refine (Ck.s_ReadAt h v o (2 + x) (T + y) _).mono ?_
        rintro e w10 ⟨rfl, b⟩
        rw [HF.out, HX.out]
        replace NK := NK.below b
        clear b
        have eD : y.tdiv (2 + x) = D := by rw [Int.tdiv_eq_ediv_of_nonneg y0]; exact hD
        clear hD
        have hs0 : (2 + x) ≠ 0 := by omega
        have n1 : ¬ X - L < 0 := by omega
        have n2 : ¬ D + 1 < X - L - y := by omega
        have n3 : ¬ D + 1 < y - (X - L) := by omega
        go_wp2_with fail
        go_roundw
        case rel => exact ⟨i + 1, T + y, X, by omega, by go_num, by go_num, by go_num, by omega, by omega, HX, NK⟩
        case measure => simp [intOf]; omega
      · have e10 : i = 10 := by omega
        subst e10
        have c0 := NK.R.cell 0 rfl
        have c1 := NK.R.cell 1 rfl
        have c2 := NK.R.cell 2 rfl
        go_wp2_with fail
        clear c0 c1 c2
        refine (Ck.i_ReadAt h v o (2 + x) (h - 1) _).mono ?_
        rintro e w9 ⟨rfl, b⟩
        rw [Ck.fr_early, Ck.rv_no Ck.fr_early]
        replace NK := NK.below b
        clear b
        go_wp2
        go_ret
        exact ⟨rfl, NK.out⟩
  · go_enter Try.func3, Try.ntmps3
    go_wp2_with fail
    refine (great a0 len0 cap0 hl _).mono ?_
    rintro e w ⟨rfl, rfl⟩
    go_wp2
    go_ret
    exact ⟨rfl, Below.refl _ _⟩

/-! The row. -/
set_option maxRecDepth 100000 in
theorem lifted (os : Os) (started : os.Started) (H : Type) (enc : TypeId × Value → H) :
    ReturnsInHanded {} Try.checked os 3 .any (Rows.fnMonoSpec.pre6 enc Try.prog Try.f3 Rows.fnMonoRow.domain false) (Rows.fnMonoSpec.post enc Try.prog Try.f3 false true false false) := by
  refine returnsInHanded_of_change (C := Try.checked) own started (by kernel_rfl) Try.func3
    (ChangeSpec.witness6 (enc := enc) (C := Try.checked) false ⟨#[], #[.slice none 0 0], []⟩ 8 (by kernel_rfl) (by kernel_rfl) (by kernel_rfl) (by kernel_rfl)) ?_
  intro W base args ds gs before hval0 hW hcnd _
  have hval : ∀ (j : Nat) t v, Try.f3.params[j]? = some t → args[j]? = some v → Value.okWide Try.prog W .any base t v := hval0
  have hW' := hW
  obtain ⟨p, q, hA0, hV, rfl, hfz, hnd⟩ := hW
  have hA : DataW.TrodAll enc Try.prog W 0 (fun _ => true) true Try.f3.params.toList args.toList ds p := hA0
  rw [Try.params3] at hA hval
  obtain ⟨v0, vs0, d0, ds0, p0, q0, hargs, rfl, rfl, h0, r0⟩ := trodAll_cons hA
  obtain ⟨rfl, rfl, rfl⟩ := trodAll_nil r0
  obtain rfl : args = #[v0] := by cases args; simp_all
  obtain ⟨rfl, rfl⟩ := trodVars_none hV
  obtain ⟨a0, len0, cap0, rfl⟩ := okWide_slice Try.underlying22 (hval 0 22 v0 rfl rfl)
  have k0 := h0
  have lt0 : ∀ x ∈ p0, x.block < W.heap.size := by obtain ⟨m, hm⟩ := k0; exact DataW.trod_lt m _ _ _ hm
  obtain ⟨z0, w0⟩ : ∃ zs, IsRow .u8 W a0 len0 cap0 zs := by
    obtain ⟨fuel, hf⟩ := h0
    rcases open_ints Try.underlying22 Try.underlying5 (by kernel_rfl) hf with ⟨hcs, _⟩ | ⟨x, l, c, zs, hcs, _, hl, hm, hz, _, hcell, hwz⟩
    · simp [Value.cells] at hcs
      obtain ⟨rfl, rfl, rfl⟩ := hcs
      exact ⟨[], .inl ⟨rfl, rfl, rfl, rfl⟩⟩
    · simp [Value.cells] at hcs
      obtain ⟨rfl, rfl, rfl⟩ := hcs
      exact ⟨zs, .inr ⟨_, rfl, hl, hm, by simpa using hz, hcell, hwz⟩⟩
  clear hA0 hval0
  refine (walk a0 len0 cap0 z0 W w0).mono fun e W' ⟨he, bel⟩ => ?_
  subst he
  exact ⟨_, rfl, _, _, _, [], _, [], hW', trodAll_mk1 (shut_bool Try.underlying4 _), (trodAll_cons_mk (Below.trod laidOut (by kernel_rfl) (of_decide_eq_true (by kernel_rfl)) k0 bel lt0) trodAll_mk0), rfl, bel.frame _, fun h => by cases h⟩

theorem over : Rows.fnMonoRow.holds Try.pinned (OpenSpec.ofChange Rows.fnMonoSpec) :=
  OpenClaim.holds_of_wide 3 Try.f3 rfl rfl rfl rfl rfl rfl rfl ⟨rfl, rfl, rfl, rfl, rfl⟩ rfl rfl rfl rfl rfl (by kernel_rfl) Try.func3 (by kernel_rfl)
    (of_decide_eq_true (by kernel_rfl)) (by unfold Func.isWrapper; first | (rw [if_pos (by decide +kernel)]; kernel_rfl) | (rw [if_neg (by decide +kernel)]; exact ⟨rfl, rfl⟩))
    (fun os started H enc _ => lifted os started H enc)

end Go.Proofs.Ytcgcmceobmpdiaa.fnMono

namespace Go.Proofs.Ytcgcmceobmpdiaa
/-- The given statement. -/
theorem fnMono_holds : Rows.FnMonoSaid := fnMono.over
#print axioms fnMono_holds
end Go.Proofs.Ytcgcmceobmpdiaa
