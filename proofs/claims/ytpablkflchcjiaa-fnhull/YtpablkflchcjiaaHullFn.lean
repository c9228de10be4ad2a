/-
  The Go function laws.FnHull answers true at every code: all are within what impl.Hull answers, its ends are among them, and it is as wide as impl.SpreadOf tells. No condition.
-/
import Derived.Test.YtpablkflchcjiaaRows
import Derived.WalkKit
import Derived.ProofKit
import Derived.OpenShut
import Derived.ShutString
import Derived.ChangeOld
import Derived.Below
import Derived.Test.YtpablkflchcjiaaMth
import Derived.Test.YtpablkflchcjiaaRoll
import Derived.Deep.RegionHeld3
namespace Go.Proofs.Ytpablkflchcjiaa.fnHull
open Go.ChangeShapes Go.WideShapes Go.ChangeAt Go.RowKit
open Go.ChangeMaps (open_string shut_string)
set_option linter.unusedVariables false
set_option linter.unusedSimpArgs false

theorem own : ownKnob Try.prog.godebug = none := by kernel_rfl
theorem laidOut : laidOutB Try.prog = true := by kernel_rfl

/-- WHAT THE WALK IS TOLD OF A SLICE OF INTEGERS THAT CAME IN: it is nil; or it leads to a row of 'cap' cells, the numbers 'zs' (the first 'len' are its elements, the rest its spare room), each fitting its kind. -/
def IsRow (k : IntKind) (w : World) (a : Option Addr) (len cap : Nat) (zs : List Int) : Prop :=
  (a = none ∧ len = 0 ∧ cap = 0 ∧ zs = []) ∨
  ∃ x, a = some x ∧ len ≤ cap ∧ cap ≤ maxLen ∧ zs.length = cap ∧ (∀ i, i < zs.length → w.cell? (x.add i) = some (.int k (zs.getD i 0))) ∧ ∀ n ∈ zs, (Lit.int k n).wf = true

theorem code_of {w : World} {a : Option Addr} {len cap : Nat} {zs : List Int} (h : IsRow .u8 w a len cap zs) (hl : len ≤ 4096) : Dr.Code w w.heap.size a len := by
  refine ⟨hl, ?_⟩
  rcases h with ⟨_, h, _, _⟩ | ⟨x, rfl, h1, h2, h3, h4, h5⟩
  · exact .inl h
  · by_cases h0 : len = 0
    · exact .inl h0
    · obtain ⟨b, off, spot⟩ := x
      have hc := h4 0 (by omega)
      have hs : spot = none := by simpa [Addr.add] using World.cell?_spot hc
      subst hs
      have hb := World.block_lt_of_cell? _ _ hc
      refine .inr ⟨b, off, rfl, by simpa [Addr.add] using hb, fun k hk => ⟨zs.getD k 0, ?_, ?_⟩⟩
      · have hk4 := h4 k (by omega)
        by_cases hk0 : k = 0
        · subst hk0; simpa [Addr.add] using hk4
        · simpa [Addr.add, hk0] using hk4
      · have e : zs.getD k 0 = zs[k]'(by omega) := by simp [List.getD, show k < zs.length by omega]
        refine bounds_u8 (h5 _ ?_)
        rw [e]
        exact List.getElem_mem _

theorem small (a : Option Addr) (len cap : Nat) (h : len ≤ 4096) (w : World) : Calls Try.prog 10 #[.slice a len cap] w fun e w' => e = .returned (.bool false) ∧ w' = w := by
  have h' : ¬ (4096 : Int) < len := by omega
  go_enter Try.func10, Try.ntmps10
  go_wp2
  go_ret
  exact ⟨rfl, rfl⟩

theorem great (a : Option Addr) (len cap : Nat) (h : ¬ len ≤ 4096) (w : World) : Calls Try.prog 10 #[.slice a len cap] w fun e w' => e = .returned (.bool true) ∧ w' = w := by
  have h' : (4096 : Int) < len := by omega
  go_enter Try.func10, Try.ntmps10
  go_wp2
  go_ret
  exact ⟨rfl, rfl⟩


set_option maxHeartbeats 1000000 in
theorem has (a : Option Addr) (n cap : Nat) (zs : List Int) (v : Int) (w : World) (hr : Ls.Row w w.heap.size a n zs) (hv : ∃ k, k < n ∧ Ls.el zs k = v) (hn : n ≤ 1048576) :
    Calls Try.prog 18 #[.slice a n cap, .int .i64 v] w fun e w' => e = .returned (.bool true) ∧ Below w.heap.size w w' := by
  obtain ⟨hz, hrow⟩ := hr
  obtain ⟨q, hq, hqv⟩ := hv
  rcases hrow with hrow | ⟨b, off, rfl, hB, hc⟩
  · omega
  have HC : Hid (∀ k, k < n → w.cell? ⟨b, off + k, none⟩ = some (.int .i64 (Ls.el zs k))) := hc
  have HQ : Hid (Ls.el zs q = v) := hqv
  clear hc hqv
  go_enter Try.func18, Try.ntmps18
  go_wp2
  go_loop [5] (fun i => ∃ k : Nat, k ≤ q ∧ i = .int .i64 k) (fun i => n - (intOf i).toNat)
  case atStart => exact ⟨0, Nat.zero_le _, rfl⟩
  case round =>
    obtain ⟨k, hk, rfl⟩ := hrel
    have hi : (k : Int) < n := by omega
    have hc1 := HC.out k (by omega)
    by_cases hx : Ls.el zs k = v
    · rw [hx] at hc1
      clear hx
      go_wp2
      go_ret
      exact ⟨rfl, Below.refl _ _⟩
    · have hk2 : k < q := by
        rcases Nat.lt_or_ge k q with h | h
        · exact h
        · exact absurd (by rw [show k = q by omega]; exact HQ.out) hx
      go_wp2
      go_round
      case rel => exact ⟨k + 1, by omega, by go_num⟩
      case measure => simp [intOf]; omega

/-- What holds of the span at s and of the row at g, and what has been there. -/
def Sx (w0 : World) (B g s n : Nat) (zs : List Int) (mn mx : Int) (w : World) : Prop :=
  w.cell? ⟨s, 0, none⟩ = some (.int .i64 mn) ∧ w.cell? ⟨s, 1, none⟩ = some (.int .i64 mx) ∧ Hid (Ow.Has w B g 0 n zs ∧ Below w0.heap.size w0 w)
theorem keepS {w0 W w1 : World} {B g s n : Nat} {zs : List Int} {mn mx : Int} (hb : Below W.heap.size W w1) (h : Sx w0 B g s n zs mn mx W) : Sx w0 B g s n zs mn mx w1 := by
  obtain ⟨h0, h1, h2⟩ := h
  refine ⟨?_, ?_, h2.out.1.later hb h2.out.1.2.2.1, h2.out.2.trans (hb.mono h2.out.2.size)⟩
  · rw [hb.cell (World.block_lt_of_cell? _ _ h0)]; exact h0
  · rw [hb.cell (World.block_lt_of_cell? _ _ h1)]; exact h1
theorem rowS {w0 W : World} {B g s n : Nat} {zs : List Int} {mn mx : Int} (h : Sx w0 B g s n zs mn mx W) : Ls.Row W W.heap.size (some ⟨g, 0, none⟩) n zs := h.2.2.out.1.row
theorem drewS {w0 W : World} {B g s n : Nat} {zs : List Int} {mn mx : Int} (h : Sx w0 B g s n zs mn mx W) : Sx w0 B g s n zs mn mx W.drew := keepS (Below.refl _ _).drew h
theorem belS {w0 W : World} {B g s n : Nat} {zs : List Int} {mn mx : Int} (h : Sx w0 B g s n zs mn mx W) : Below w0.heap.size w0 W := h.2.2.out.2

/-! The walk. -/
set_option maxHeartbeats 20000000 in
set_option maxRecDepth 100000 in
theorem walk (a0 : Option Addr) (len0 cap0 : Nat) (z0 : List Int) (w : World) (w0 : IsRow .u8 w a0 len0 cap0 z0) :
    Calls Try.prog 3 #[.slice a0 len0 cap0] w fun e w' => e = .returned (.bool true) ∧ Below w.heap.size w w' := by
  by_cases hl : len0 ≤ 4096
  · have code := code_of w0 hl
    clear w0
    go_enter Try.func3, Try.ntmps3
    go_wp2_with fail
    refine (small a0 len0 cap0 hl _).mono ?_
    rintro e w ⟨rfl, rfl⟩
    go_wp2_with fail
    refine (Di.roll _ a0 len0 cap0 7 _ (Nat.le_refl _) code).mono ?_
    rintro e x1 ⟨rfl, st1⟩
    go_wp2_with fail
    refine (Di.below _ _ _ a0 len0 cap0 9 (by omega) (by omega) _ st1).mono ?_
    rintro e x3 ⟨⟨q, rfl, q0, q1⟩, st3⟩
    obtain ⟨Q, rfl⟩ : ∃ Q : Nat, q = Q := ⟨q.toNat, by omega⟩
    have s3 := st3.step.size
    clear st1
    go_wp2_with fail
    refine (Rw.row' _ _ a0 len0 cap0 (1 + Q) _ 1000 (by omega) (by omega) (by omega) (by omega) _ _ st3 s3).mono ?_
    rintro e x4 ⟨⟨g, c, rfl, zs, hz, hzb⟩, st4, -⟩
    obtain ⟨n, hn⟩ : ∃ n, Hid (1 + Q = n) := ⟨_, rfl⟩
    have hn9 : n ≤ 9 := by have := hn.out; omega
    have hnp : 0 < n := by have := hn.out; omega
    rw [hn.out] at hz ⊢
    have bB : Below w.heap.size w x4 := st4.step.fresh (Nat.le_refl _)
    have s4 := bB.size
    have hH := hz.has
    have hzl : zs.length = n := hH.1
    clear st3 st4 hz
    have htm : Hu.tmK zs n = true := Tr.tm_of hzl (fun x hx => by have := hzb x hx; exact ⟨by omega, by omega⟩)
    have hHT : Hu.HT zs n = true := by rw [Hu.ht_n hnp]; exact htm
    obtain ⟨⟨k1, u1, e1⟩, ⟨k2, u2, e2⟩⟩ := Tr.mm_in (zs := zs) hnp
    have v1 := hzb _ (List.getElem_mem (l := zs) (n := k1) (by omega))
    have v2 := hzb _ (List.getElem_mem (l := zs) (n := k2) (by omega))
    rw [← Ow.el_get, e1] at v1
    rw [← Ow.el_get, e2] at v2
    have hmm := (Tr.mm_all (zs := zs) n k1 u1).2
    rw [e1] at hmm
    have HI : Hid (∀ k, k < n → Sp.IN (Hu.mnK zs n) (Hu.mxK zs n) (Ls.el zs k) = true) := fun k hk => by
      have h := Tr.mm_all (zs := zs) n k hk
      unfold Sp.IN Sp.OK Sp.LK
      rw [decide_eq_true ⟨⟨by omega, by omega⟩, ⟨by omega, by omega⟩, by omega⟩, decide_eq_true h.1, decide_eq_true h.2]
      rfl
    have keyH := Hu.i_Hull (some ⟨g, 0, none⟩) n c zs x4 hH.row (by omega)
    rw [hHT, Sp.pk_t, Sp.pk_t] at keyH
    have hSO : Sr.SO zs n = Hu.mxK zs n - Hu.mnK zs n := by
      have hs := Ad.s_yes (a := Hu.mxK zs n) (b := Hu.mnK zs n) ⟨⟨by omega, by omega⟩, ⟨by omega, by omega⟩, by omega, by omega⟩
      rw [Sr.so_yes hnp hHT hs.2, hs.1]
    have keySO := fun x hr => Sr.i_SpreadOf (some ⟨g, 0, none⟩) n c zs x hr (by omega)
    rw [hSO] at keySO
    have HL : Hid (∃ k, k < n ∧ Ls.el zs k = Hu.mnK zs n) := ⟨k1, u1, e1⟩
    have HR : Hid (∃ k, k < n ∧ Ls.el zs k = Hu.mxK zs n) := ⟨k2, u2, e2⟩
    generalize Hu.mnK zs n = mn at HI keyH keySO HL HR v1 hmm
    generalize Hu.mxK zs n = mx at HI keyH keySO HL HR v2 hmm
    clear e1 e2 u1 u2 hSO htm hHT hzb
    obtain ⟨v10, v11⟩ := v1
    obtain ⟨v20, v21⟩ := v2
    go_wp2_with fail
    refine keyH.mono ?_
    rintro e x5 ⟨rfl, b5⟩
    have s5 := b5.size
    have h5 := hH.later b5 hH.2.2.1
    have B5 := (bB.trans (b5.mono s4)).alloc (by omega) (.cells #[.int .i64 mn, .int .i64 mx] 31)
    have h5 : Sx w x3.heap.size g x5.heap.size n zs mn mx (x5.alloc (.cells #[.int .i64 mn, .int .i64 mx] 31)) :=
      ⟨Sp.cell_at _ _ _ _ _ rfl, Sp.cell_at _ _ _ _ _ rfl, h5.later ((Below.refl _ _).alloc (Nat.le_refl _) _) h5.2.2.1, B5⟩
    clear hH B5 keyH bB b5
    go_wp2_with fail
    refine (Hu.i_Hull1 _ _ _).mono ?_
    rintro e x6 ⟨rfl, b6⟩
    have h6 := keepS (((Below.refl _ _).alloc (Nat.le_refl _) (.cells #[] 2)).trans (b6.mono (by simp))) h5
    have h6 := keepS ((Below.refl _ _).alloc (Nat.le_refl _) (.cells #[.int .i64 0, .int .i64 0] 31)) h6
    have sz6 := h6.2.2.out.2.size
    clear h5 b6
    go_wp2_with fail
    generalize hS : x5.heap.size = S at h6 ⊢
    go_loopw [9] (fun i wr => ∃ k : Nat, k ≤ n ∧ i = .int .i64 k ∧ Sx w x3.heap.size g S n zs mn mx wr) (fun i _ => n - (intOf i).toNat)
    case atStart => exact ⟨0, Nat.zero_le _, rfl, h6⟩
    case round =>
      obtain ⟨k, hk, rfl, hx⟩ := hrel
      obtain ⟨c0, c1, hh⟩ := id hx
      by_cases hlt : k < n
      · have hi' : (k : Int) < n := by omega
        have hck := hh.out.1.2.2.2.1 k hlt
        rw [Nat.zero_add] at hck
        have hin := HI.out k hlt
        have ky := fun x => Sp.i_InSpan mn mx (Ls.el zs k) x
        rw [hin] at ky
        clear hin
        go_wp2_with fail
        go_region_with (go_at_call 15; refine (ky _).mono ?_; rintro e x7 ⟨rfl, b7⟩)
        all_goals
          go_wp2_with fail
          go_roundw
          case rel => exact ⟨k + 1, by omega, by go_num, keepS b7 (drewS hx)⟩
          case measure => simp [intOf]; omega
      · have hi' : ¬ (k : Int) < n := by omega
        have e : k = n := by omega
        subst e
        have bB := hh.out.2
        go_wp2_with fail
        refine (Rw.drawHull _ a0 len0 cap0 _ bB.size (code.later bB)).mono ?_
        rintro e x8 ⟨⟨g8, c8, k8, rfl, ⟨ys, o8⟩, hk8⟩, b8⟩
        have h8 := keepS b8 hx
        have r8 := o8.row
        have s8 := b8.size
        clear hx c0 c1 hh o8
        have key8 := fun x hr => Hu.i_Hull (some ⟨g8, 0, none⟩) k8 c8 ys x hr (by omega)
        have key9 := fun x hr => Hu.s_Hull (some ⟨g8, 0, none⟩) k8 c8 ys x hr (by omega)
        generalize Hu.HT ys k8 = T at key8 key9
        go_wp2_with fail
        refine (key8 _ r8).mono ?_
        rintro e x9 ⟨rfl, b9⟩
        have s9 := b9.size
        have b9' := b9.alloc s9 (.cells #[.int .i64 (Sp.pk T (Hu.mnK ys k8)), .int .i64 (Sp.pk T (Hu.mxK ys k8))] 31)
        have r9 := r8.later b9' (Nat.le_refl _)
        have h9 := keepS b9' h8
        have s9' := b9'.size
        go_wp2_with fail
        refine (key9 _ (r9.more s9')).mono ?_
        rintro e x10 ⟨rfl, b10⟩
        have b10' := b10.alloc b10.size (.cells #[.int .i64 (Sp.pk T (Hu.mnK ys k8)), .int .i64 (Sp.pk T (Hu.mxK ys k8))] 31)
        have h10 := keepS b10' h9
        clear h8 h9 r8 r9 b8 b9 b10 b9' b10' key8 key9 bB
        go_wp2_with fail
        have hmx : -2001 ≤ mx - mn := by omega
        have hmx' : mx - mn ≤ 2001 := by omega
        generalize x10.alloc (.cells #[.int .i64 (Sp.pk T (Hu.mnK ys k8)), .int .i64 (Sp.pk T (Hu.mxK ys k8))] 31) = W at h10 ⊢
        obtain ⟨c0, c1, hh⟩ := id h10
        have h10' : W.cell? ⟨S, 0, none⟩ = some (.int .i64 mn) ∧ W.cell? ⟨S, 1, none⟩ = some (.int .i64 mx) ∧ Hid (Ow.Has W x3.heap.size g 0 k zs ∧ Below w.heap.size w W) := h10
        have hwr : IntKind.i64.wrap (mx - mn) = mx - mn := by rw [IntKind.wrap_i64]; omega
        go_region_held3 (fun w' => w'.cell? ⟨S, 0, none⟩ = some (.int .i64 mn) ∧ w'.cell? ⟨S, 1, none⟩ = some (.int .i64 mx) ∧ Hid (Ow.Has w' x3.heap.size g 0 k zs ∧ Below w.heap.size w w')) (first | exact keepS (by assumption) (by assumption) | exact drewS (by assumption) | go_keep) (first | (go_at_call 18; refine (has _ _ _ zs _ _ (rowS (by assumption)) (by first | exact HL.out | exact HR.out) (by omega)).mono ?_; rintro e x11 ⟨rfl, b11⟩; have h11 := keepS b11 (by assumption)) | (go_at_call 19; refine (keySO _ (rowS (by assumption))).mono ?_; rintro e x12 ⟨rfl, b12⟩; have h12 := keepS b12 (by assumption)))
        all_goals
          go_wp2_with fail
          go_ret
          exact ⟨rfl, belS (by assumption)⟩
  · go_enter Try.func3, Try.ntmps3
    go_wp2_with (go_at_call 10; refine (great a0 len0 cap0 hl _).mono ?_; rintro e w' ⟨rfl, rfl⟩)
    go_ret
    exact ⟨rfl, Below.refl _ _⟩

/-! The row. -/
set_option maxRecDepth 100000 in
theorem lifted (os : Os) (started : os.Started) (H : Type) (enc : TypeId × Value → H) :
    ReturnsInHanded {} Try.checked os 3 .any (Rows.fnHullSpec.pre6 enc Try.prog Try.f3 Rows.fnHullRow.domain false) (Rows.fnHullSpec.post enc Try.prog Try.f3 false true false false) := by
  refine returnsInHanded_of_change (C := Try.checked) own started (by kernel_rfl) Try.func3
    (ChangeSpec.witness6 (enc := enc) (C := Try.checked) false ⟨#[], #[.slice none 0 0], []⟩ 8 (by kernel_rfl) (by kernel_rfl) (by kernel_rfl) (by kernel_rfl)) ?_
  intro W base args ds gs before hval0 hW hcnd _
  have hval : ∀ (j : Nat) t v, Try.f3.params[j]? = some t → args[j]? = some v → Value.okWide Try.prog W .any base t v := hval0
  have hW' := hW
  obtain ⟨p, q, hA0, hV, rfl, hfz, hnd⟩ := hW
  have hA : DataW.TrodAll enc Try.prog W 0 (fun _ => true) true Try.f3.params.toList args.toList ds p := hA0
  rw [Try.params3] at hA hval
  obtain ⟨v0, vs0, d0, ds0, p0, q0, hargs, rfl, rfl, h0, r0⟩ := trodAll_cons hA
  obtain ⟨rfl, rfl, rfl⟩ := trodAll_nil r0
  obtain rfl : args = #[v0] := by cases args; simp_all
  obtain ⟨rfl, rfl⟩ := trodVars_none hV
  obtain ⟨a0, len0, cap0, rfl⟩ := okWide_slice Try.underlying22 (hval 0 22 v0 rfl rfl)
  have k0 := h0
  have lt0 : ∀ x ∈ p0, x.block < W.heap.size := by obtain ⟨m, hm⟩ := k0; exact DataW.trod_lt m _ _ _ hm
  obtain ⟨z0, w0⟩ : ∃ zs, IsRow .u8 W a0 len0 cap0 zs := by
    obtain ⟨fuel, hf⟩ := h0
    rcases open_ints Try.underlying22 Try.underlying5 (by kernel_rfl) hf with ⟨hcs, _⟩ | ⟨x, l, c, zs, hcs, _, hl, hm, hz, _, hcell, hwz⟩
    · simp [Value.cells] at hcs
      obtain ⟨rfl, rfl, rfl⟩ := hcs
      exact ⟨[], .inl ⟨rfl, rfl, rfl, rfl⟩⟩
    · simp [Value.cells] at hcs
      obtain ⟨rfl, rfl, rfl⟩ := hcs
      exact ⟨zs, .inr ⟨_, rfl, hl, hm, by simpa using hz, hcell, hwz⟩⟩
  clear hA0 hval0
  refine (walk a0 len0 cap0 z0 W w0).mono fun e W' ⟨he, bel⟩ => ?_
  subst he
  exact ⟨_, rfl, _, _, _, [], _, [], hW', trodAll_mk1 (shut_bool Try.underlying4 _), (trodAll_cons_mk (Below.trod laidOut (by kernel_rfl) (of_decide_eq_true (by kernel_rfl)) k0 bel lt0) trodAll_mk0), rfl, bel.frame _, fun h => by cases h⟩

theorem over : Rows.fnHullRow.holds Try.pinned (OpenSpec.ofChange Rows.fnHullSpec) :=
  OpenClaim.holds_of_wide 3 Try.f3 rfl rfl rfl rfl rfl rfl rfl ⟨rfl, rfl, rfl, rfl, rfl⟩ rfl rfl rfl rfl rfl (by kernel_rfl) Try.func3 (by kernel_rfl)
    (of_decide_eq_true (by kernel_rfl)) (by unfold Func.isWrapper; first | (rw [if_pos (by decide +kernel)]; kernel_rfl) | (rw [if_neg (by decide +kernel)]; exact ⟨rfl, rfl⟩))
    (fun os started H enc _ => lifted os started H enc)

end Go.Proofs.Ytpablkflchcjiaa.fnHull

namespace Go.Proofs.Ytpablkflchcjiaa
/-- The given statement. -/
theorem fnHull_holds : Rows.FnHullSaid := fnHull.over
#print axioms fnHull_holds
end Go.Proofs.Ytpablkflchcjiaa
