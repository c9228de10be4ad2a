/-
  How great a world is, in its number; the rows of a turn of one's own.
-/
import Derived.Test.YtcgcmceobmpdiaaGreatTu
import Derived.Test.YtcgcmceobmpdiaaGreatWl2
namespace Go.Proofs.YtcgcmceobmpdiaaGreat.Tu
open Go.ChangeShapes Go.WideShapes Go.ChangeAt Go.RowKit
open Ls (el Row)
open Ow (Has Own ints)
open Rd (Flags)
open Bo (eb HasB)
open Rm (Room)
open Wl (wld c9)
open Ss (RowsAt ln rw_ tot)
set_option linter.unusedVariables false
set_option linter.unusedSimpArgs false

set_option maxHeartbeats 1000000 in
theorem szWorld_is (n l d r p s t : Int) (a b : Option Addr) (k ka m mb : Nat) (w : World) (h : k + m ≤ 1048576) :
    Calls Tryz.prog 4 #[wld n l d r p s (.slice a k ka) (.slice b m mb) t, .int .i64 1048576] w fun e w' => e = .returned (.int .i64 ((1048576 : Int) - (k : Int) - (m : Int))) ∧ Below w.heap.size w w' := by
  have h1 : decide ((1048576 : Int) - (k : Int) < 0) = false := by simp; omega
  have h2 : decide ((1048576 : Int) - (k : Int) - (m : Int) < 0) = false := by simp; omega
  go_enter Tryz.func4, Tryz.ntmps4
  go_wp2_with fail
  refine (Wl.sz_yes a k ka 1048576 _ (by omega) (by omega)).mono ?_
  rintro e w ⟨rfl, rfl⟩
  go_wp2_with fail
  refine (Wl.sz_yes b m mb _ _ (by omega) (by omega)).mono ?_
  rintro e w ⟨rfl, rfl⟩
  go_wp2
  go_ret
  exact ⟨rfl, (Below.refl _ _).alloc (Nat.le_refl _) _⟩

theorem HasT.all {w : World} {B C g0 g1 g2 g3 g4 nD nE nL nF nR : Nat} {ds : List Int} {es ls : List (List Int)} {fs rs : List Bool} (h : HasT w B C g0 g1 g2 g3 g4 nD nE nL nF nR ds es ls fs rs) :
    Row w w.heap.size (some ⟨g0, 0, none⟩) nD ds ∧ RowsAt w w.heap.size (some ⟨g1, 0, none⟩) nE es ∧ RowsAt w w.heap.size (some ⟨g2, 0, none⟩) nL ls ∧ Flags w w.heap.size (some ⟨g3, 0, none⟩) nF fs ∧ Flags w w.heap.size (some ⟨g4, 0, none⟩) nR rs := by
  obtain ⟨B1, B2, B3, B4, h0, u0, h1, h2, h3, u3, h4, u4, b1, b2, b3, b4, b5, b6⟩ := h
  exact ⟨h0.row, h1.rows, h2.rows, h3.row, h4.row⟩

end Go.Proofs.YtcgcmceobmpdiaaGreat.Tu
