/-
  impl.NewWorld: a new world, in new memory, or the zero world.
-/
import Derived.Test.YtloicicgcdfgnaaGreatNew
import Derived.Test.YtloicicgcdfgnaaGreatPut
import Derived.Deep.RegionHeld3
import Derived.Deep.Cut
namespace Go.Proofs.YtloicicgcdfgnaaGreat.Wl
open Go.ChangeShapes Go.WideShapes Go.ChangeAt Go.RowKit
open Ls (el Row)
open Rm (Room)
open Ow (Has Own ints)
open Rd (Flags)
open Bo (eb HasB)
open Cf (cfg CP)
set_option linter.unusedVariables false
set_option linter.unusedSimpArgs false

abbrev S6 (w : World) (n l d r p s : Int) (w' : World) : Prop := w'.cell? ⟨w.heap.size, 0, none⟩ = some (.int .i64 n) ∧ w'.cell? ⟨w.heap.size, 1, none⟩ = some (.int .i64 l) ∧ w'.cell? ⟨w.heap.size, 2, none⟩ = some (.int .i64 d) ∧ w'.cell? ⟨w.heap.size, 3, none⟩ = some (.int .i64 r) ∧ w'.cell? ⟨w.heap.size, 4, none⟩ = some (.int .i64 p) ∧ w'.cell? ⟨w.heap.size, 5, none⟩ = some (.int .i64 s) ∧ Hid (Below w.heap.size w w')
theorem S6.bel {w w' : World} {n l d r p s : Int} (h : S6 w n l d r p s w') : Below w.heap.size w w' := h.2.2.2.2.2.2.out
theorem S6.keep {w w' w2 : World} {X : Nat} {n l d r p s : Int} (h : S6 w n l d r p s w') (hb : Below X w' w2) (hX : w.heap.size < X) : S6 w n l d r p s w2 := by
  have e : ∀ i, w2.cell? ⟨w.heap.size, i, none⟩ = w'.cell? ⟨w.heap.size, i, none⟩ := fun i => hb.cell (p := ⟨w.heap.size, i, none⟩) hX
  have q := h.bel
  obtain ⟨h0, h1, h2, h3, h4, h5, h9⟩ := h
  exact ⟨(e 0).trans h0, (e 1).trans h1, (e 2).trans h2, (e 3).trans h3, (e 4).trans h4, (e 5).trans h5, q.trans (hb.mono (by omega))⟩
theorem s6 {w w' : World} {n l d r p s : Int} (h : Room w' w.heap.size [.int .i64 n, .int .i64 l, .int .i64 d, .int .i64 r, .int .i64 p, .int .i64 s]) (hb : Below w.heap.size w w') : S6 w n l d r p s w' :=
  ⟨h.cell 0 rfl, h.cell 1 rfl, h.cell 2 rfl, h.cell 3 rfl, h.cell 4 rfl, h.cell 5 rfl, hb⟩

end Go.Proofs.YtloicicgcdfgnaaGreat.Wl
