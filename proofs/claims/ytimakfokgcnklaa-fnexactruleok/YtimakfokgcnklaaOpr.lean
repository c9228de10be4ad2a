/-
  A rule of the laws, handed in.
-/
import Derived.Test.YtimakfokgcnklaaOpW
namespace Go.Proofs.Ytimakfokgcnklaa.Rd
open Go.ChangeShapes Go.WideShapes Go.ChangeAt Go.RowKit Go.Joins Go.Deep
set_option linter.unusedVariables false
set_option linter.unusedSimpArgs false

theorem six_ {α : Type} {cs : Array α} (h : cs.toList.length = 6) : ∃ a b c d e f, cs = #[a, b, c, d, e, f] := by
  obtain ⟨l⟩ := cs
  match l, h with
  | [a, b, c, d, e, f], _ => exact ⟨a, b, c, d, e, f, rfl⟩
theorem cells_rule : Try.prog.cellsOf 23 = 6 := by kernel_rfl

theorem rule {H : Type} {enc : TypeId × Value → H} {w : World} {base : Nat} {spare : Nat → Bool} {held : Bool} {cs : Array Value} (h : Reads enc Try.prog w base spare held 23 cs.toList) :
    ∃ n f p a l m : Int, cs = #[.int .i64 n, .int .i64 f, .int .i64 p, .int .i64 a, .int .i64 l, .int .i64 m] := by
  obtain ⟨hl, g⟩ := h.struct Try.underlying23
  rw [cells_rule] at hl
  obtain ⟨c0, c1, c2, c3, c4, c5, rfl⟩ := six_ hl
  obtain ⟨n, e0, _⟩ := (g 0 _ rfl).int Try.underlying2
  obtain ⟨f, e1, _⟩ := (g 1 _ rfl).int Try.underlying2
  obtain ⟨p, e2, _⟩ := (g 2 _ rfl).int Try.underlying2
  obtain ⟨a, e3, _⟩ := (g 3 _ rfl).int Try.underlying2
  obtain ⟨l, e4, _⟩ := (g 4 _ rfl).int Try.underlying2
  obtain ⟨m, e5, _⟩ := (g 5 _ rfl).int Try.underlying2
  simp [cells_int] at e0 e1 e2 e3 e4 e5
  subst e0 e1 e2 e3 e4 e5
  exact ⟨n, f, p, a, l, m, rfl⟩

end Go.Proofs.Ytimakfokgcnklaa.Rd
