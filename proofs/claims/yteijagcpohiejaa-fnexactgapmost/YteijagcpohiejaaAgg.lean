/-
  A struct of six int64s by value, opened and shut: its value is six numbers, and six numbers read as it.
-/
import Derived.Lib.SmallJoins
namespace Go.Proofs.Yteijagcpohiejaa.Ag
open Go.ChangeShapes Go.WideShapes Go.ChangeAt Go.RowKit Go.Joins Go.Deep
set_option linter.unusedVariables false
section
variable {H : Type} {enc : TypeId × Value → H} {P : Program} {w : World} {base : Nat} {spare : Nat → Bool} {held : Bool}

theorem six {α : Type} {cs : Array α} (h : cs.size = 6) : ∃ a b c d e f, cs = #[a, b, c, d, e, f] := by
  obtain ⟨l⟩ := cs
  match l, h with
  | [a, b, c, d, e, f], _ => exact ⟨a, b, c, d, e, f, rfl⟩

theorem sixl {α : Type} {l : List α} (h : l.length = 6) : ∃ a b c d e f, l = [a, b, c, d, e, f] := by
  match l, h with
  | [a, b, c, d, e, f], _ => exact ⟨a, b, c, d, e, f, rfl⟩

abbrev ints (a b c d e f : Int) : Value := .agg #[.int .i64 a, .int .i64 b, .int .i64 c, .int .i64 d, .int .i64 e, .int .i64 f]
abbrev data (H : Type) (a b c d e f : Int) : DataW H := .agg [.lit (.int .i64 a), .lit (.int .i64 b), .lit (.int .i64 c), .lit (.int .i64 d), .lit (.int .i64 e), .lit (.int .i64 f)]
abbrev Fits (a : Int) : Prop := (Lit.int .i64 a).wf = true

theorem open6 {r : Reach} {b0 : Nat} {t : TypeId} {f0 f1 f2 f3 f4 f5 : Field} {v : Value} {d : DataW H} {p : List MemPlace} (hs : P.underlying t = some (.struct #[f0, f1, f2, f3, f4, f5])) (hone : oneCellFields P #[f0, f1, f2, f3, f4, f5] = true) (hC : P.cellsOf t = 6)
    (i0 : P.underlying f0.type = some (.int .i64)) (i1 : P.underlying f1.type = some (.int .i64)) (i2 : P.underlying f2.type = some (.int .i64)) (i3 : P.underlying f3.type = some (.int .i64)) (i4 : P.underlying f4.type = some (.int .i64)) (i5 : P.underlying f5.type = some (.int .i64))
    (hv : Value.okWide P w r b0 t v) (h : DataW.Trod enc P w base spare held t v d p) :
    ∃ a0 a1 a2 a3 a4 a5 : Int, v = ints a0 a1 a2 a3 a4 a5 ∧ d = data H a0 a1 a2 a3 a4 a5 ∧ p = [] ∧ Fits a0 ∧ Fits a1 ∧ Fits a2 ∧ Fits a3 ∧ Fits a4 ∧ Fits a5 := by
  obtain ⟨cs, rfl, hsz⟩ := okWide_struct hs hv
  obtain ⟨c0, c1, c2, c3, c4, c5, rfl⟩ := six (hsz.trans hC)
  obtain ⟨fuel, hf⟩ := h
  obtain ⟨xs, n, _, hx, hl, hlen, hf⟩ := DataW.trod_struct hs hf
  obtain ⟨y0, y1, y2, y3, y4, y5, rfl⟩ := sixl hlen
  have g : ∀ (j : Nat) (f : Field) (c : Value) (y : DataW H × List MemPlace), #[f0, f1, f2, f3, f4, f5][j]? = some f → P.underlying f.type = some (.int .i64) → [c0, c1, c2, c3, c4, c5].drop j = c :: [c0, c1, c2, c3, c4, c5].drop (j + 1) → [y0, y1, y2, y3, y4, y5][j]? = some y → ∃ a, c = .int .i64 a ∧ y = (.lit (.int .i64 a), []) ∧ Fits a := by
    intro j f c y h1 hi h2 h3
    obtain ⟨o, k⟩ := hone_of hone j f h1
    have q := hf j f h1
    rw [h3, o, k] at q
    have e : (Value.agg #[c0, c1, c2, c3, c4, c5]).cells.toList = [c0, c1, c2, c3, c4, c5] := rfl
    rw [e, h2] at q
    obtain ⟨a, ha, hy, hw⟩ := DataW.trod_int hi q
    exact ⟨a, by simpa using ha, hy, hw⟩
  obtain ⟨a0, rfl, rfl, g0⟩ := g 0 f0 c0 y0 rfl i0 rfl rfl
  obtain ⟨a1, rfl, rfl, g1⟩ := g 1 f1 c1 y1 rfl i1 rfl rfl
  obtain ⟨a2, rfl, rfl, g2⟩ := g 2 f2 c2 y2 rfl i2 rfl rfl
  obtain ⟨a3, rfl, rfl, g3⟩ := g 3 f3 c3 y3 rfl i3 rfl rfl
  obtain ⟨a4, rfl, rfl, g4⟩ := g 4 f4 c4 y4 rfl i4 rfl rfl
  obtain ⟨a5, rfl, rfl, g5⟩ := g 5 f5 c5 y5 rfl i5 rfl rfl
  simp only [Prod.mk.injEq] at hx
  exact ⟨a0, a1, a2, a3, a4, a5, rfl, hx.1, hx.2, g0, g1, g2, g3, g4, g5⟩

theorem shut6 {t : TypeId} {f0 f1 f2 f3 f4 f5 : Field} (hs : P.underlying t = some (.struct #[f0, f1, f2, f3, f4, f5])) (hone : oneCellFields P #[f0, f1, f2, f3, f4, f5] = true) (hC : P.cellsOf t = 6)
    (i0 : P.underlying f0.type = some (.int .i64)) (i1 : P.underlying f1.type = some (.int .i64)) (i2 : P.underlying f2.type = some (.int .i64)) (i3 : P.underlying f3.type = some (.int .i64)) (i4 : P.underlying f4.type = some (.int .i64)) (i5 : P.underlying f5.type = some (.int .i64))
    {a0 a1 a2 a3 a4 a5 : Int} (g0 : Fits a0) (g1 : Fits a1) (g2 : Fits a2) (g3 : Fits a3) (g4 : Fits a4) (g5 : Fits a5) : DataW.Trod enc P w base spare held t (ints a0 a1 a2 a3 a4 a5) (data H a0 a1 a2 a3 a4 a5) [] := by
  have g : ∀ (j : Nat) (f : Field) (a : Int), #[f0, f1, f2, f3, f4, f5][j]? = some f → P.underlying f.type = some (.int .i64) → ([.int .i64 a0, .int .i64 a1, .int .i64 a2, .int .i64 a3, .int .i64 a4, .int .i64 a5] : List Value).drop j = .int .i64 a :: ([.int .i64 a0, .int .i64 a1, .int .i64 a2, .int .i64 a3, .int .i64 a4, .int .i64 a5] : List Value).drop (j + 1) → Fits a →
      DataW.trod enc P w base spare held 1 f.type (List.take (P.cellsOf f.type) (List.drop f.offset ([.int .i64 a0, .int .i64 a1, .int .i64 a2, .int .i64 a3, .int .i64 a4, .int .i64 a5] : List Value))) = some (.lit (.int .i64 a), []) := by
    intro j f a h1 hi h2 h3
    obtain ⟨o, k⟩ := hone_of hone j f h1
    rw [o, k, h2]
    simp [DataW.trod, hi, h3]
  have ts := trod_struct_mk (enc := enc) (w := w) (base := base) (spare := spare) (held := held) (n := 1) (cs := [.int .i64 a0, .int .i64 a1, .int .i64 a2, .int .i64 a3, .int .i64 a4, .int .i64 a5])
    (xs := [(.lit (.int .i64 a0), []), (.lit (.int .i64 a1), []), (.lit (.int .i64 a2), []), (.lit (.int .i64 a3), []), (.lit (.int .i64 a4), []), (.lit (.int .i64 a5), [])]) hs (by simp [hC])
    (by simp [g 0 f0 a0 rfl i0 rfl g0, g 1 f1 a1 rfl i1 rfl g1, g 2 f2 a2 rfl i2 rfl g2, g 3 f3 a3 rfl i3 rfl g3, g 4 f4 a4 rfl i4 rfl g4, g 5 f5 a5 rfl i5 rfl g5])
  exact ⟨_, by simpa [Value.cells] using ts⟩
end

end Go.Proofs.Yteijagcpohiejaa.Ag
