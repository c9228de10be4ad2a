/-
  A world of the laws, handed in by value: its nine cells, and what its two slices hold.
-/
import Derived.Test.YtimakfokgcnklaaGreatRd
import Derived.Test.YtimakfokgcnklaaGreatRows
namespace Go.Proofs.YtimakfokgcnklaaGreat.Rd
open Go.ChangeShapes Go.WideShapes Go.ChangeAt Go.RowKit Go.Joins Go.Deep
set_option linter.unusedVariables false

theorem nine {α : Type} {cs : Array α} (h : cs.toList.length = 9) : ∃ a b c d e f g i j, cs = #[a, b, c, d, e, f, g, i, j] := by
  obtain ⟨l⟩ := cs
  match l, h with
  | [a, b, c, d, e, f, g, i, j], _ => exact ⟨a, b, c, d, e, f, g, i, j, rfl⟩

theorem cells_int : Tryz.prog.cellsOf 2 = 1 := by kernel_rfl

theorem cells_ints : Tryz.prog.cellsOf 26 = 1 := by kernel_rfl

theorem sixl {α : Type} {cs : Array α} (h : cs.toList.length = 6) : ∃ a b c d e f, cs = #[a, b, c, d, e, f] := by
  obtain ⟨l⟩ := cs
  match l, h with
  | [a, b, c, d, e, f], _ => exact ⟨a, b, c, d, e, f, rfl⟩

theorem cells_bool : Tryz.prog.cellsOf 4 = 1 := by kernel_rfl

end Go.Proofs.YtimakfokgcnklaaGreat.Rd
