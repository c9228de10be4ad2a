/-
  The Go function laws.FnSums answers true whatever bytes it is given. No condition.
-/
import Derived.Test.YtcdmabjebohlgabRows
import Derived.WalkKit
import Derived.ProofKit
import Derived.OpenShut
import Derived.ShutString
import Derived.ChangeOld
import Derived.Below
import Derived.Test.YtcdmabjebohlgabAdd
import Derived.Test.YtcdmabjebohlgabDraw2
namespace Go.Proofs.Ytcdmabjebohlgab.fnSums
open Go.ChangeShapes Go.WideShapes Go.ChangeAt Go.RowKit
open Go.ChangeMaps (open_string shut_string)
set_option linter.unusedVariables false

theorem own : ownKnob Try.prog.godebug = none := by kernel_rfl
theorem laidOut : laidOutB Try.prog = true := by kernel_rfl

/-- WHAT THE WALK IS TOLD OF A SLICE OF INTEGERS THAT CAME IN: it is nil; or it leads to a row of 'cap' cells, the numbers 'zs' (the first 'len' are its elements, the rest its spare room), each fitting its kind. -/
def IsRow (k : IntKind) (w : World) (a : Option Addr) (len cap : Nat) (zs : List Int) : Prop :=
  (a = none ∧ len = 0 ∧ cap = 0 ∧ zs = []) ∨
  ∃ x, a = some x ∧ len ≤ cap ∧ cap ≤ maxLen ∧ zs.length = cap ∧ (∀ i, i < zs.length → w.cell? (x.add i) = some (.int k (zs.getD i 0))) ∧ ∀ n ∈ zs, (Lit.int k n).wf = true

theorem code_of {w : World} {a : Option Addr} {len cap : Nat} {zs : List Int} (h : IsRow .u8 w a len cap zs) (hl : len ≤ 4096) : Dr.Code w w.heap.size a len := by
  refine ⟨hl, ?_⟩
  rcases h with ⟨_, h, _, _⟩ | ⟨x, rfl, h1, h2, h3, h4, h5⟩
  · exact .inl h
  · by_cases h0 : len = 0
    · exact .inl h0
    · obtain ⟨b, off, spot⟩ := x
      have hc := h4 0 (by omega)
      have hs : spot = none := by simpa [Addr.add] using World.cell?_spot hc
      subst hs
      have hb := World.block_lt_of_cell? _ _ hc
      refine .inr ⟨b, off, rfl, by simpa [Addr.add] using hb, fun k hk => ⟨zs.getD k 0, ?_, ?_⟩⟩
      · have hk4 := h4 k (by omega)
        by_cases hk0 : k = 0
        · subst hk0; simpa [Addr.add] using hk4
        · simpa [Addr.add, hk0] using hk4
      · have e : zs.getD k 0 = zs[k]'(by omega) := by simp [List.getD, show k < zs.length by omega]
        refine bounds_u8 (h5 _ ?_)
        rw [e]
        exact List.getElem_mem _

theorem small (a : Option Addr) (len cap : Nat) (h : len ≤ 4096) (w : World) : Calls Try.prog 5 #[.slice a len cap] w fun e w' => e = .returned (.bool false) ∧ w' = w := by
  have h' : ¬ (4096 : Int) < len := by omega
  go_enter Try.func5, Try.ntmps5
  go_wp2
  go_ret
  exact ⟨rfl, rfl⟩

theorem great (a : Option Addr) (len cap : Nat) (h : ¬ len ≤ 4096) (w : World) : Calls Try.prog 5 #[.slice a len cap] w fun e w' => e = .returned (.bool true) ∧ w' = w := by
  have h' : (4096 : Int) < len := by omega
  go_enter Try.func5, Try.ntmps5
  go_wp2
  go_ret
  exact ⟨rfl, rfl⟩

theorem left (n k : Int) (hk : 1 ≤ k) (hm : k ≤ 9223372036854775807) : 0 ≤ wrap64 (n - wrap64 (n / k * k)) ∧ wrap64 (n - wrap64 (n / k * k)) < k := by
  have e := Int.mul_ediv_add_emod n k
  have m0 := Int.emod_nonneg n (b := k) (by omega)
  have m1 := Int.emod_lt_of_pos n (b := k) (by omega)
  rw [Int.mul_comm] at e
  unfold wrap64
  generalize n / k * k = X at *
  omega

/-! The walk. -/
theorem walk (a0 : Option Addr) (len0 cap0 : Nat) (z0 : List Int) (w : World) (w0 : IsRow .u8 w a0 len0 cap0 z0) :
    Calls Try.prog 4 #[.slice a0 len0 cap0] w fun e w' => e = .returned (.bool true) ∧ Below w.heap.size w w' := by
  by_cases hl : len0 ≤ 4096
  · have code := code_of w0 hl
    clear w0
    go_enter Try.func4, Try.ntmps4
    go_wp2_with fail
    refine (small a0 len0 cap0 hl _).mono ?_
    rintro e w' ⟨rfl, rfl⟩
    go_wp2_with fail
    refine (Dr.drawAddNs _ a0 len0 cap0 _ (Nat.le_refl _) code).mono ?_
    rintro e w1 ⟨⟨x, y, rfl, ⟨x0, x1⟩, y0, y1⟩, hb1⟩
    have hz1 := hb1.size
    have code1 := code.later hb1
    cases hA : Ad.AT x y with
    | true =>
      obtain ⟨hB1, hB2⟩ := Ad.back hA
      go_wp2_with (first | (go_at_call 13; refine (Ad.ia _ _ _).mono ?_; rintro e w2 ⟨rfl, rfl⟩) | (go_at_call 14; refine (Ad.sa _ _ _).mono ?_; rintro e w2 ⟨rfl, rfl⟩) | (go_at_call 15; refine (Ad.is _ _ y0 y1 _).mono ?_; rintro e w2 ⟨rfl, rfl⟩) | (go_at_call 16; refine (Ad.ss _ _ y0 y1 _).mono ?_; rintro e w2 ⟨rfl, rfl⟩) | (go_at_call 17; refine (Ad.io _ _).mono ?_; rintro e w2 ⟨rfl, rfl⟩) | (go_at_call 18; refine (Ad.so _ _).mono ?_; rintro e w2 ⟨rfl, rfl⟩))
      refine (Dr.drawFloorDiv _ a0 len0 cap0 _ hz1 code1).mono ?_
      rintro e w3 ⟨⟨n, k, rfl, ⟨n0, n1⟩, k0, k1⟩, hb3⟩
      have hb := hb1.trans (hb3.mono hz1)
      clear hb1 hb3 hz1 code1 code
      by_cases h1 : (-4000000000000000000 : Int) ≤ n
      · by_cases h2 : n ≤ 4000000000000000000
        · have ht : decide (Ad.Tm n) = true := decide_eq_true ⟨h1, h2⟩
          by_cases h3 : 1 ≤ k
          · obtain ⟨l1, l2⟩ := left n k h3 k1
            go_wp2_with (first | (go_at_call 20; refine (Ad.fd4 _ _ h1 h2 h3 _).mono ?_; rintro e w3 ⟨rfl, rfl⟩) | (go_at_call 18; refine (Ad.so _ _).mono ?_; rintro e w3 ⟨rfl, rfl⟩))
            go_ret
            exact ⟨rfl, hb⟩
          · have h3' : k < 1 := by omega
            go_wp2_with (first | (go_at_call 20; refine (Ad.fd3 _ _ h1 h2 h3' _).mono ?_; rintro e w3 ⟨rfl, rfl⟩) | (go_at_call 18; refine (Ad.so _ _).mono ?_; rintro e w3 ⟨rfl, rfl⟩))
            go_ret
            exact ⟨rfl, hb⟩
        · have ht : decide (Ad.Tm n) = false := decide_eq_false (fun h => h2 h.2)
          go_wp2_with (first | (go_at_call 20; refine (Ad.fd2 _ _ (by omega) (by omega) _).mono ?_; rintro e w3 ⟨rfl, rfl⟩) | (go_at_call 18; refine (Ad.so _ _).mono ?_; rintro e w3 ⟨rfl, rfl⟩))
          go_ret
          exact ⟨rfl, hb⟩
      · have ht : decide (Ad.Tm n) = false := decide_eq_false (fun h => h1 h.1)
        go_wp2_with (first | (go_at_call 20; refine (Ad.fd1 _ _ (by omega) _).mono ?_; rintro e w3 ⟨rfl, rfl⟩) | (go_at_call 18; refine (Ad.so _ _).mono ?_; rintro e w3 ⟨rfl, rfl⟩))
        go_ret
        exact ⟨rfl, hb⟩
    | false =>
      go_wp2_with (first | (go_at_call 13; refine (Ad.ia _ _ _).mono ?_; rintro e w2 ⟨rfl, rfl⟩) | (go_at_call 14; refine (Ad.sa _ _ _).mono ?_; rintro e w2 ⟨rfl, rfl⟩) | (go_at_call 15; refine (Ad.is _ _ y0 y1 _).mono ?_; rintro e w2 ⟨rfl, rfl⟩) | (go_at_call 16; refine (Ad.ss _ _ y0 y1 _).mono ?_; rintro e w2 ⟨rfl, rfl⟩) | (go_at_call 17; refine (Ad.io _ _).mono ?_; rintro e w2 ⟨rfl, rfl⟩) | (go_at_call 18; refine (Ad.so _ _).mono ?_; rintro e w2 ⟨rfl, rfl⟩))
      refine (Dr.drawFloorDiv _ a0 len0 cap0 _ hz1 code1).mono ?_
      rintro e w3 ⟨⟨n, k, rfl, ⟨n0, n1⟩, k0, k1⟩, hb3⟩
      have hb := hb1.trans (hb3.mono hz1)
      clear hb1 hb3 hz1 code1 code
      by_cases h1 : (-4000000000000000000 : Int) ≤ n
      · by_cases h2 : n ≤ 4000000000000000000
        · have ht : decide (Ad.Tm n) = true := decide_eq_true ⟨h1, h2⟩
          by_cases h3 : 1 ≤ k
          · obtain ⟨l1, l2⟩ := left n k h3 k1
            go_wp2_with (first | (go_at_call 20; refine (Ad.fd4 _ _ h1 h2 h3 _).mono ?_; rintro e w3 ⟨rfl, rfl⟩) | (go_at_call 18; refine (Ad.so _ _).mono ?_; rintro e w3 ⟨rfl, rfl⟩))
            go_ret
            exact ⟨rfl, hb⟩
          · have h3' : k < 1 := by omega
            go_wp2_with (first | (go_at_call 20; refine (Ad.fd3 _ _ h1 h2 h3' _).mono ?_; rintro e w3 ⟨rfl, rfl⟩) | (go_at_call 18; refine (Ad.so _ _).mono ?_; rintro e w3 ⟨rfl, rfl⟩))
            go_ret
            exact ⟨rfl, hb⟩
        · have ht : decide (Ad.Tm n) = false := decide_eq_false (fun h => h2 h.2)
          go_wp2_with (first | (go_at_call 20; refine (Ad.fd2 _ _ (by omega) (by omega) _).mono ?_; rintro e w3 ⟨rfl, rfl⟩) | (go_at_call 18; refine (Ad.so _ _).mono ?_; rintro e w3 ⟨rfl, rfl⟩))
          go_ret
          exact ⟨rfl, hb⟩
      · have ht : decide (Ad.Tm n) = false := decide_eq_false (fun h => h1 h.1)
        go_wp2_with (first | (go_at_call 20; refine (Ad.fd1 _ _ (by omega) _).mono ?_; rintro e w3 ⟨rfl, rfl⟩) | (go_at_call 18; refine (Ad.so _ _).mono ?_; rintro e w3 ⟨rfl, rfl⟩))
        go_ret
        exact ⟨rfl, hb⟩
  · go_enter Try.func4, Try.ntmps4
    go_wp2_with (go_at_call 5; refine (great a0 len0 cap0 hl _).mono ?_; rintro e w' ⟨rfl, rfl⟩)
    go_ret
    exact ⟨rfl, Below.refl _ _⟩

/-! The row. -/
set_option maxRecDepth 100000 in
theorem lifted (os : Os) (started : os.Started) (H : Type) (enc : TypeId × Value → H) :
    ReturnsInHanded {} Try.checked os 4 .any (Rows.fnSumsSpec.pre6 enc Try.prog Try.f4 Rows.fnSumsRow.domain false) (Rows.fnSumsSpec.post enc Try.prog Try.f4 false true false false) := by
  refine returnsInHanded_of_change (C := Try.checked) own started (by kernel_rfl) Try.func4
    (ChangeSpec.witness6 (enc := enc) (C := Try.checked) false ⟨#[], #[.slice none 0 0], []⟩ 8 (by kernel_rfl) (by kernel_rfl) (by kernel_rfl) (by kernel_rfl)) ?_
  intro W base args ds gs before hval0 hW hcnd _
  have hval : ∀ (j : Nat) t v, Try.f4.params[j]? = some t → args[j]? = some v → Value.okWide Try.prog W .any base t v := hval0
  have hW' := hW
  obtain ⟨p, q, hA0, hV, rfl, hfz, hnd⟩ := hW
  have hA : DataW.TrodAll enc Try.prog W 0 (fun _ => true) true Try.f4.params.toList args.toList ds p := hA0
  rw [Try.params4] at hA hval
  obtain ⟨v0, vs0, d0, ds0, p0, q0, hargs, rfl, rfl, h0, r0⟩ := trodAll_cons hA
  obtain ⟨rfl, rfl, rfl⟩ := trodAll_nil r0
  obtain rfl : args = #[v0] := by cases args; simp_all
  obtain ⟨rfl, rfl⟩ := trodVars_none hV
  obtain ⟨a0, len0, cap0, rfl⟩ := okWide_slice Try.underlying22 (hval 0 22 v0 rfl rfl)
  have k0 := h0
  have lt0 : ∀ x ∈ p0, x.block < W.heap.size := by obtain ⟨m, hm⟩ := k0; exact DataW.trod_lt m _ _ _ hm
  obtain ⟨z0, w0⟩ : ∃ zs, IsRow .u8 W a0 len0 cap0 zs := by
    obtain ⟨fuel, hf⟩ := h0
    rcases open_ints Try.underlying22 Try.underlying5 (by kernel_rfl) hf with ⟨hcs, _⟩ | ⟨x, l, c, zs, hcs, _, hl, hm, hz, _, hcell, hwz⟩
    · simp [Value.cells] at hcs
      obtain ⟨rfl, rfl, rfl⟩ := hcs
      exact ⟨[], .inl ⟨rfl, rfl, rfl, rfl⟩⟩
    · simp [Value.cells] at hcs
      obtain ⟨rfl, rfl, rfl⟩ := hcs
      exact ⟨zs, .inr ⟨_, rfl, hl, hm, by simpa using hz, hcell, hwz⟩⟩
  clear hA0 hval0
  refine (walk a0 len0 cap0 z0 W w0).mono fun e W' ⟨he, bel⟩ => ?_
  subst he
  exact ⟨_, rfl, _, _, _, [], _, [], hW', trodAll_mk1 (shut_bool Try.underlying4 _), (trodAll_cons_mk (Below.trod laidOut (by kernel_rfl) (of_decide_eq_true (by kernel_rfl)) k0 bel lt0) trodAll_mk0), rfl, bel.frame _, fun h => by cases h⟩

theorem over : Rows.fnSumsRow.holds Try.pinned (OpenSpec.ofChange Rows.fnSumsSpec) :=
  OpenClaim.holds_of_wide 4 Try.f4 rfl rfl rfl rfl rfl rfl rfl ⟨rfl, rfl, rfl, rfl, rfl⟩ rfl rfl rfl rfl rfl (by kernel_rfl) Try.func4 (by kernel_rfl)
    (of_decide_eq_true (by kernel_rfl)) (by unfold Func.isWrapper; first | (rw [if_pos (by decide +kernel)]; kernel_rfl) | (rw [if_neg (by decide +kernel)]; exact ⟨rfl, rfl⟩))
    (fun os started H enc _ => lifted os started H enc)

end Go.Proofs.Ytcdmabjebohlgab.fnSums

namespace Go.Proofs.Ytcdmabjebohlgab
/-- The given statement. -/
theorem fnSums_holds : Rows.FnSumsSaid := fnSums.over
#print axioms fnSums_holds
end Go.Proofs.Ytcdmabjebohlgab
