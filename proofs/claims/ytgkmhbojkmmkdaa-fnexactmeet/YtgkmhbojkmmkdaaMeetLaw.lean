/-
  The Go function laws.FnExactMeet answers true at every two spans: impl.Meet answers there as spec.Meet. No condition.
-/
import Derived.Test.YtgkmhbojkmmkdaaRows
import Derived.WalkKit
import Derived.ProofKit
import Derived.OpenShut
import Derived.ChangeOld
import Derived.Below
import Derived.Lib.SmallJoins
import Derived.Test.YtgkmhbojkmmkdaaMeet
import Derived.Deep.DeepCutAuto
namespace Go.Proofs.Ytgkmhbojkmmkdaa.fnExactMeet
open Go.ChangeShapes Go.WideShapes Go.ChangeAt Go.RowKit Go.Joins
set_option linter.unusedVariables false

theorem own : ownKnob Try.prog.godebug = none := by kernel_rfl
theorem cells33 : Try.prog.cellsOf 33 = 2 := by kernel_rfl

theorem keepc {W w1 : World} (hb : Below W.heap.size W w1) {p : Addr} {v : Value} (h : W.cell? p = some v) : w1.cell? p = some v := by
  rw [hb.cell (World.block_lt_of_cell? _ _ h)]; exact h
theorem seto {W : World} {g n o : Nat} {x a b : Value} (h1 : g ≠ n) (h : W.cell? ⟨n, o, none⟩ = some x) : ((W.setCell ⟨g, 0, none⟩ a).setCell ⟨g, 1, none⟩ b).cell? ⟨n, o, none⟩ = some x := by
  rw [World.cell?_setCell_other _ _ _ _ (by simp <;> omega), World.cell?_setCell_other _ _ _ _ (by simp <;> omega)]; exact h
theorem set2 {W : World} {g : Nat} {v u a b : Value} (h0 : W.cell? ⟨g, 0, none⟩ = some v) (h1 : W.cell? ⟨g, 1, none⟩ = some u) : ((W.setCell ⟨g, 0, none⟩ a).setCell ⟨g, 1, none⟩ b).cell? ⟨g, 0, none⟩ = some a ∧ ((W.setCell ⟨g, 0, none⟩ a).setCell ⟨g, 1, none⟩ b).cell? ⟨g, 1, none⟩ = some b :=
  ⟨by rw [World.cell?_setCell_other _ _ _ _ (by simp)]; exact World.cell?_setCell_same _ _ _ h0, World.cell?_setCell_same _ _ _ (by rw [World.cell?_setCell_other _ _ _ _ (by simp)]; exact h1)⟩
/-- What a walk is told behind a call that writes nothing that was there. -/
theorem bfacts {W w1 : World} (hb : Below W.heap.size W w1) : (∀ b o, b < W.heap.size → w1.cell? ⟨b, o, none⟩ = W.cell? ⟨b, o, none⟩) ∧ (∀ b o, b < W.heap.size → w1.frozen? ⟨b, o, none⟩ = W.frozen? ⟨b, o, none⟩) ∧ (∀ x, x < W.heap.size → x < w1.heap.size) ∧ (∀ x, x ≤ W.heap.size → x ≤ w1.heap.size) :=
  ⟨fun b o h => hb.cell (p := ⟨b, o, none⟩) h, fun b o h => hb.frozen (p := ⟨b, o, none⟩) h, fun _ h => Nat.lt_of_lt_of_le h hb.size, fun _ h => Nat.le_trans h hb.size⟩
theorem keep4 {W w1 : World} (hb : Below W.heap.size W w1) {p0 p1 p2 p3 : Addr} {x0 x1 x2 x3 : Value} (h : W.cell? p0 = some x0 ∧ W.cell? p1 = some x1 ∧ W.cell? p2 = some x2 ∧ W.cell? p3 = some x3) : w1.cell? p0 = some x0 ∧ w1.cell? p1 = some x1 ∧ w1.cell? p2 = some x2 ∧ w1.cell? p3 = some x3 :=
  ⟨keepc hb h.1, keepc hb h.2.1, keepc hb h.2.2.1, keepc hb h.2.2.2⟩
theorem keep4s {W : World} {g n0 n1 : Nat} {x0 x1 x2 x3 a b : Value} (h0 : g ≠ n0) (h1 : g ≠ n1) (h : W.cell? ⟨n0, 0, none⟩ = some x0 ∧ W.cell? ⟨n0, 1, none⟩ = some x1 ∧ W.cell? ⟨n1, 0, none⟩ = some x2 ∧ W.cell? ⟨n1, 1, none⟩ = some x3) :
    ((W.setCell ⟨g, 0, none⟩ a).setCell ⟨g, 1, none⟩ b).cell? ⟨n0, 0, none⟩ = some x0 ∧ ((W.setCell ⟨g, 0, none⟩ a).setCell ⟨g, 1, none⟩ b).cell? ⟨n0, 1, none⟩ = some x1 ∧ ((W.setCell ⟨g, 0, none⟩ a).setCell ⟨g, 1, none⟩ b).cell? ⟨n1, 0, none⟩ = some x2 ∧ ((W.setCell ⟨g, 0, none⟩ a).setCell ⟨g, 1, none⟩ b).cell? ⟨n1, 1, none⟩ = some x3 :=
  ⟨seto h0 h.1, seto h0 h.2.1, seto h1 h.2.2.1, seto h1 h.2.2.2⟩
theorem keep6 {W w1 : World} (hb : Below W.heap.size W w1) {p0 p1 p2 p3 p4 p5 : Addr} {x0 x1 x2 x3 x4 x5 : Value} (h : W.cell? p0 = some x0 ∧ W.cell? p1 = some x1 ∧ W.cell? p2 = some x2 ∧ W.cell? p3 = some x3 ∧ W.cell? p4 = some x4 ∧ W.cell? p5 = some x5) : w1.cell? p0 = some x0 ∧ w1.cell? p1 = some x1 ∧ w1.cell? p2 = some x2 ∧ w1.cell? p3 = some x3 ∧ w1.cell? p4 = some x4 ∧ w1.cell? p5 = some x5 :=
  ⟨keepc hb h.1, keepc hb h.2.1, keepc hb h.2.2.1, keepc hb h.2.2.2.1, keepc hb h.2.2.2.2.1, keepc hb h.2.2.2.2.2⟩
theorem keep6s {W : World} {g n0 n1 n2 : Nat} {x0 x1 x2 x3 x4 x5 a b : Value} (h0 : g ≠ n0) (h1 : g ≠ n1) (h2 : g ≠ n2) (h : W.cell? ⟨n0, 0, none⟩ = some x0 ∧ W.cell? ⟨n0, 1, none⟩ = some x1 ∧ W.cell? ⟨n1, 0, none⟩ = some x2 ∧ W.cell? ⟨n1, 1, none⟩ = some x3 ∧ W.cell? ⟨n2, 0, none⟩ = some x4 ∧ W.cell? ⟨n2, 1, none⟩ = some x5) :
    ((W.setCell ⟨g, 0, none⟩ a).setCell ⟨g, 1, none⟩ b).cell? ⟨n0, 0, none⟩ = some x0 ∧ ((W.setCell ⟨g, 0, none⟩ a).setCell ⟨g, 1, none⟩ b).cell? ⟨n0, 1, none⟩ = some x1 ∧ ((W.setCell ⟨g, 0, none⟩ a).setCell ⟨g, 1, none⟩ b).cell? ⟨n1, 0, none⟩ = some x2 ∧ ((W.setCell ⟨g, 0, none⟩ a).setCell ⟨g, 1, none⟩ b).cell? ⟨n1, 1, none⟩ = some x3 ∧ ((W.setCell ⟨g, 0, none⟩ a).setCell ⟨g, 1, none⟩ b).cell? ⟨n2, 0, none⟩ = some x4 ∧ ((W.setCell ⟨g, 0, none⟩ a).setCell ⟨g, 1, none⟩ b).cell? ⟨n2, 1, none⟩ = some x5 :=
  ⟨seto h0 h.1, seto h0 h.2.1, seto h1 h.2.2.1, seto h1 h.2.2.2.1, seto h2 h.2.2.2.2.1, seto h2 h.2.2.2.2.2⟩

/-! The walk. -/
set_option maxHeartbeats 4000000 in
theorem walk (a0a a0b a1a a1b : Int) (w0a : (Lit.int .i64 a0a).wf = true) (w0b : (Lit.int .i64 a0b).wf = true) (w1a : (Lit.int .i64 a1a).wf = true) (w1b : (Lit.int .i64 a1b).wf = true) (w : World) :
    Calls Try.prog 7 #[.agg #[.int .i64 a0a, .int .i64 a0b], .agg #[.int .i64 a1a, .int .i64 a1b]] w fun e w' => e = .returned (.bool true) ∧ Below w.heap.size w w' := by
  go_enter Try.func7, Try.ntmps7
  go_upto_region 1 with fail
  go_cut [5, 6] (fun p t w' => ∃ g, p = .pointer (some ⟨g, 0, none⟩) ∧ t = .bool (Sp.MT a0a a0b a1a a1b) ∧ (w'.cell? ⟨g, 0, none⟩ = some (.int .i64 (Sp.pk (Sp.MT a0a a0b a1a a1b) (max a0a a1a))) ∧ w'.cell? ⟨g, 1, none⟩ = some (.int .i64 (Sp.pk (Sp.MT a0a a0b a1a a1b) (min a0b a1b)))) ∧ (w'.cell? ⟨w.heap.size, 0, none⟩ = some (.int .i64 a0a) ∧ w'.cell? ⟨w.heap.size, 1, none⟩ = some (.int .i64 a0b) ∧ w'.cell? ⟨w.heap.size + 1, 0, none⟩ = some (.int .i64 a1a) ∧ w'.cell? ⟨w.heap.size + 1, 1, none⟩ = some (.int .i64 a1b)) ∧ Below w.heap.size w w')
  case first =>
    go_region_held3 (fun w' => w'.cell? ⟨w.heap.size, 0, none⟩ = some (.int .i64 a0a) ∧ w'.cell? ⟨w.heap.size, 1, none⟩ = some (.int .i64 a0b) ∧ w'.cell? ⟨w.heap.size + 1, 0, none⟩ = some (.int .i64 a1a) ∧ w'.cell? ⟨w.heap.size + 1, 1, none⟩ = some (.int .i64 a1b)) (first | exact keep4 (by assumption) (by assumption) | exact keep4s (by omega) (by omega) (by assumption) | go_keep) (first | (go_at_call 19; refine (Sp.toSpan _ _ _).mono ?_; rintro e w1 ⟨rfl, hb1⟩; have k1 := keep4 hb1 (by assumption); have f1 := bfacts hb1; have s1 := hb1.size; (try simp at s1); (first | (have z1 : w.heap.size + 1 + 1 < w1.heap.size := by omega) | skip); obtain ⟨f1, g1, i1, j1⟩ := f1) | (go_at_call 13; refine (Sp.s_Meet _ _ _ _ _).mono ?_; rintro e w2 ⟨rfl, hb2⟩; have k2 := keep4 hb2 (by assumption); have f2 := bfacts hb2; have s2 := hb2.size; (try simp at s2); (first | (have z2 : w.heap.size + 1 + 1 < w2.heap.size := by omega) | skip); obtain ⟨f2, g2, i2, j2⟩ := f2))
    all_goals
      go_wp2_with fail
      go_meet
      case rel =>
        refine ⟨_, rfl, rfl, ?_, (by assumption), ?_⟩
        · first | (simp; done) | exact (set2 (v := .int .i64 0) (u := .int .i64 0) (by ((repeat refine keepc (by assumption) ?_); (first | (simp; done) | (simp [Sp.cell_at]; done) | (simp [World.cell?_alloc_lt]; done) | simp [World.cell?_alloc_lt, Sp.cell_at]))) (by ((repeat refine keepc (by assumption) ?_); (first | (simp; done) | (simp [Sp.cell_at]; done) | (simp [World.cell?_alloc_lt]; done) | simp [World.cell?_alloc_lt, Sp.cell_at]))))
        · (repeat (first | exact Below.refl _ _ | assumption | refine Below.setCell ?_ (by first | omega | (simp <;> omega)) _ | refine Below.alloc ?_ (by first | omega | (simp <;> omega)) _ | refine Below.drew ?_ | refine below_drewN ?_ _ | refine Below.trans ?_ (Below.mono (by assumption) (by first | omega | (simp <;> omega)))))
  case rest =>
    obtain ⟨g, rfl, rfl, ⟨c0, c1⟩, ⟨d0, d1, d2, d3⟩, hb⟩ := hcut
    have y0 := World.block_lt_of_cell? _ _ d0
    have y1 := World.block_lt_of_cell? _ _ d2
    have yg := World.block_lt_of_cell? _ _ c0
    have sb := hb.size
    simp only at y0 y1 yg
    go_upto_region 2 with fail
    go_cut [7, 8] (fun p t w' => ∃ h, p = .pointer (some ⟨h, 0, none⟩) ∧ t = .bool (Sp.MT a0a a0b a1a a1b) ∧ (w'.cell? ⟨h, 0, none⟩ = some (.int .i64 (Sp.pk (Sp.MT a0a a0b a1a a1b) (max a0a a1a))) ∧ w'.cell? ⟨h, 1, none⟩ = some (.int .i64 (Sp.pk (Sp.MT a0a a0b a1a a1b) (min a0b a1b)))) ∧ (w'.cell? ⟨w.heap.size, 0, none⟩ = some (.int .i64 a0a) ∧ w'.cell? ⟨w.heap.size, 1, none⟩ = some (.int .i64 a0b) ∧ w'.cell? ⟨w.heap.size + 1, 0, none⟩ = some (.int .i64 a1a) ∧ w'.cell? ⟨w.heap.size + 1, 1, none⟩ = some (.int .i64 a1b) ∧ w'.cell? ⟨g, 0, none⟩ = some (.int .i64 (Sp.pk (Sp.MT a0a a0b a1a a1b) (max a0a a1a))) ∧ w'.cell? ⟨g, 1, none⟩ = some (.int .i64 (Sp.pk (Sp.MT a0a a0b a1a a1b) (min a0b a1b)))) ∧ Below w.heap.size w w')
    case first =>
      go_region_held3 (fun w' => w'.cell? ⟨w.heap.size, 0, none⟩ = some (.int .i64 a0a) ∧ w'.cell? ⟨w.heap.size, 1, none⟩ = some (.int .i64 a0b) ∧ w'.cell? ⟨w.heap.size + 1, 0, none⟩ = some (.int .i64 a1a) ∧ w'.cell? ⟨w.heap.size + 1, 1, none⟩ = some (.int .i64 a1b) ∧ w'.cell? ⟨g, 0, none⟩ = some (.int .i64 (Sp.pk (Sp.MT a0a a0b a1a a1b) (max a0a a1a))) ∧ w'.cell? ⟨g, 1, none⟩ = some (.int .i64 (Sp.pk (Sp.MT a0a a0b a1a a1b) (min a0b a1b)))) (first | exact keep6 (by assumption) (by assumption) | exact keep6s (by omega) (by omega) (by omega) (by assumption) | go_keep) (first | (go_at_call 19; refine (Sp.toSpan _ _ _).mono ?_; rintro e w1 ⟨rfl, hb1⟩; have k1 := keep6 hb1 (by assumption); have f1 := bfacts hb1; have s1 := hb1.size; (try simp at s1); (first | (have z1 : wc.heap.size < w1.heap.size := by omega) | skip); obtain ⟨f1, g1, i1, j1⟩ := f1) | (go_at_call 11; refine (Sp.i_Meet _ _ _ _ _).mono ?_; rintro e w2 ⟨rfl, hb2⟩; have k2 := keep6 hb2 (by assumption); have f2 := bfacts hb2; have s2 := hb2.size; (try simp at s2); (first | (have z2 : wc.heap.size < w2.heap.size := by omega) | skip); obtain ⟨f2, g2, i2, j2⟩ := f2))
      all_goals
        go_wp2_with fail
        go_meet
        case rel =>
          refine ⟨_, rfl, rfl, ?_, (by assumption), ?_⟩
          · first | (simp; done) | exact (set2 (v := .int .i64 0) (u := .int .i64 0) (by ((repeat refine keepc (by assumption) ?_); (first | (simp; done) | (simp [Sp.cell_at]; done) | (simp [World.cell?_alloc_lt]; done) | simp [World.cell?_alloc_lt, Sp.cell_at]))) (by ((repeat refine keepc (by assumption) ?_); (first | (simp; done) | (simp [Sp.cell_at]; done) | (simp [World.cell?_alloc_lt]; done) | simp [World.cell?_alloc_lt, Sp.cell_at]))))
          · (repeat (first | exact Below.refl _ _ | assumption | refine Below.setCell ?_ (by first | omega | (simp <;> omega)) _ | refine Below.alloc ?_ (by first | omega | (simp <;> omega)) _ | refine Below.drew ?_ | refine below_drewN ?_ _ | refine Below.trans ?_ (Below.mono (by assumption) (by first | omega | (simp <;> omega)))))
    case rest =>
      obtain ⟨h, rfl, rfl, ⟨m0, m1⟩, ⟨d0', d1', d2', d3', e0, e1⟩, hb'⟩ := hcut
      go_wp2_with fail
      refine (Sp.eqSpan _ _ _ _ _).mono ?_
      rintro e w9 ⟨rfl, hb9⟩
      have sb' := hb'.size
      go_wp2
      go_ret
      refine ⟨rfl, ?_⟩
      (repeat (first | exact Below.refl _ _ | assumption | refine Below.setCell ?_ (by first | omega | (simp <;> omega)) _ | refine Below.alloc ?_ (by first | omega | (simp <;> omega)) _ | refine Below.drew ?_ | refine below_drewN ?_ _ | refine Below.trans ?_ (Below.mono (by assumption) (by first | omega | (simp <;> omega)))))

/-! The row. -/
set_option maxRecDepth 100000 in
theorem lifted (os : Os) (started : os.Started) (H : Type) (enc : TypeId × Value → H) :
    ReturnsInHanded {} Try.checked os 7 .any (Rows.fnExactMeetSpec.pre6 enc Try.prog Try.f7 Rows.fnExactMeetRow.domain false) (Rows.fnExactMeetSpec.post enc Try.prog Try.f7 false true false false) := by
  refine returnsInHanded_of_change (C := Try.checked) own started (by kernel_rfl) Try.func7
    (ChangeSpec.witness6 (enc := enc) (C := Try.checked) false ⟨#[], #[.agg #[.int .i64 0, .int .i64 0], .agg #[.int .i64 0, .int .i64 0]], []⟩ 8 (by kernel_rfl) (by kernel_rfl) (by kernel_rfl) (by kernel_rfl)) ?_
  intro W base args ds gs before hval0 hW hcnd _
  have hval : ∀ (j : Nat) t v, Try.f7.params[j]? = some t → args[j]? = some v → Value.okWide Try.prog W .any base t v := hval0
  have hW' := hW
  obtain ⟨p, q, hA0, hV, rfl, hfz, hnd⟩ := hW
  have hA : DataW.TrodAll enc Try.prog W 0 (fun _ => true) true Try.f7.params.toList args.toList ds p := hA0
  rw [Try.params7] at hA hval
  obtain ⟨v0, vs0, d0, ds0, p0, q0, hargs, rfl, rfl, h0, r0⟩ := trodAll_cons hA
  obtain ⟨v1, vs1, d1, ds1, p1, q1, rfl, rfl, rfl, h1, r1⟩ := trodAll_cons r0
  obtain ⟨rfl, rfl, rfl⟩ := trodAll_nil r1
  obtain rfl : args = #[v0, v1] := by cases args; simp_all
  obtain ⟨rfl, rfl⟩ := trodVars_none hV
  obtain ⟨c00, c01, y00, y01, m0, rfl, rfl, rfl, hy00, hy01⟩ := open_agg2 Try.underlying33 (by kernel_rfl) cells33 (hval 0 33 v0 rfl rfl) h0
  obtain ⟨a0a, e00, rfl, w0a⟩ := DataW.trod_int Try.underlying2 hy00
  obtain ⟨a0b, e01, rfl, w0b⟩ := DataW.trod_int Try.underlying2 hy01
  simp at e00 e01
  subst e00 e01
  obtain ⟨c10, c11, y10, y11, m1, rfl, rfl, rfl, hy10, hy11⟩ := open_agg2 Try.underlying33 (by kernel_rfl) cells33 (hval 1 33 v1 rfl rfl) h1
  obtain ⟨a1a, e10, rfl, w1a⟩ := DataW.trod_int Try.underlying2 hy10
  obtain ⟨a1b, e11, rfl, w1b⟩ := DataW.trod_int Try.underlying2 hy11
  simp at e10 e11
  subst e10 e11
  clear hA0 hval0
  have reads0 : ∀ (W' : World) (sp : Nat → Bool), DataW.Trod enc Try.prog W' 0 sp true 33 (.agg #[.int .i64 a0a, .int .i64 a0b]) (.agg [.lit (.int .i64 a0a), .lit (.int .i64 a0b)]) [] := fun W' sp =>
    shut_agg2 (y0 := (.lit (.int .i64 a0a), [])) (y1 := (.lit (.int .i64 a0b), [])) Try.underlying33 (by kernel_rfl) cells33 ⟨1, by simp [DataW.trod, Try.underlying2, w0a]⟩ ⟨1, by simp [DataW.trod, Try.underlying2, w0b]⟩
  have reads1 : ∀ (W' : World) (sp : Nat → Bool), DataW.Trod enc Try.prog W' 0 sp true 33 (.agg #[.int .i64 a1a, .int .i64 a1b]) (.agg [.lit (.int .i64 a1a), .lit (.int .i64 a1b)]) [] := fun W' sp =>
    shut_agg2 (y0 := (.lit (.int .i64 a1a), [])) (y1 := (.lit (.int .i64 a1b), [])) Try.underlying33 (by kernel_rfl) cells33 ⟨1, by simp [DataW.trod, Try.underlying2, w1a]⟩ ⟨1, by simp [DataW.trod, Try.underlying2, w1b]⟩
  refine (walk a0a a0b a1a a1b w0a w0b w1a w1b W).mono fun e W' ⟨he, bel⟩ => ?_
  subst he
  exact ⟨_, rfl, _, _, _, [], _, [], hW', trodAll_mk1 (shut_bool Try.underlying4 _), (trodAll_cons_mk (reads0 _ _) (trodAll_cons_mk (reads1 _ _) trodAll_mk0)), rfl, bel.frame _, fun h => by cases h⟩

theorem over : Rows.fnExactMeetRow.holds Try.pinned (OpenSpec.ofChange Rows.fnExactMeetSpec) :=
  OpenClaim.holds_of_wide 7 Try.f7 rfl rfl rfl rfl rfl rfl rfl ⟨rfl, rfl, rfl, rfl, rfl⟩ rfl rfl rfl rfl rfl (by kernel_rfl) Try.func7 (by kernel_rfl)
    (of_decide_eq_true (by kernel_rfl)) (by unfold Func.isWrapper; first | (rw [if_pos (by decide +kernel)]; kernel_rfl) | (rw [if_neg (by decide +kernel)]; exact ⟨rfl, rfl⟩))
    (fun os started H enc _ => lifted os started H enc)

end Go.Proofs.Ytgkmhbojkmmkdaa.fnExactMeet

namespace Go.Proofs.Ytgkmhbojkmmkdaa
/-- The given statement. -/
theorem fnExactMeet_holds : Rows.FnExactMeetSaid := fnExactMeet.over
#print axioms fnExactMeet_holds
end Go.Proofs.Ytgkmhbojkmmkdaa
