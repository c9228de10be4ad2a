/-
  A seal of the laws, handed in by value: its three cells.
-/
import Derived.Test.YtimakfokgcnklaaGreatOpW
namespace Go.Proofs.YtimakfokgcnklaaGreat.Rd
open Go.ChangeShapes Go.WideShapes Go.ChangeAt Go.RowKit Go.Joins Go.Deep
set_option linter.unusedVariables false

theorem three {α : Type} {cs : Array α} (h : cs.toList.length = 3) : ∃ a b c, cs = #[a, b, c] := by
  obtain ⟨l⟩ := cs
  match l, h with
  | [a, b, c], _ => exact ⟨a, b, c, rfl⟩

theorem cells_seal : Tryz.prog.cellsOf 141 = 3 := by kernel_rfl

theorem sealed3 {H : Type} {enc : TypeId × Value → H} {w : World} {base : Nat} {spare : Nat → Bool} {held : Bool} {cs : Array Value} (h : Reads enc Tryz.prog w base spare held 141 cs.toList) :
    ∃ r k t : Int, cs = #[.int .i64 r, .int .i64 k, .int .i64 t] := by
  obtain ⟨hl, g⟩ := h.struct Tryz.underlying141
  rw [cells_seal] at hl
  obtain ⟨c0, c1, c2, rfl⟩ := three hl
  obtain ⟨r, e0, _⟩ := (g 0 _ rfl).int Tryz.underlying2
  obtain ⟨k, e1, _⟩ := (g 1 _ rfl).int Tryz.underlying2
  obtain ⟨t, e2, _⟩ := (g 2 _ rfl).int Tryz.underlying2
  simp [cells_int] at e0 e1 e2
  subst e0 e1 e2
  exact ⟨r, k, t, rfl⟩

end Go.Proofs.YtimakfokgcnklaaGreat.Rd
