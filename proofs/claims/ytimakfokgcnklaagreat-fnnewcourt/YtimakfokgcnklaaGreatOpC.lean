/-
  A list of seals of the laws, handed in; a letter of the laws, handed in by value.
-/
import Derived.Test.YtimakfokgcnklaaGreatOpS
import Derived.Test.YtimakfokgcnklaaGreatSb
namespace Go.Proofs.YtimakfokgcnklaaGreat.Rd
open Go.ChangeShapes Go.WideShapes Go.ChangeAt Go.RowKit Go.Joins Go.Deep
open Sb (S3 es Row3)
set_option linter.unusedVariables false

theorem seals {H : Type} {enc : TypeId × Value → H} {w : World} {base : Nat} {spare : Nat → Bool} {held : Bool} {cs : List Value} (h : Reads enc Tryz.prog w base spare held 49 cs) :
    ∃ (a : Option Addr) (n cap : Nat) (ss : List S3), cs = [.slice a n cap] ∧ Row3 w w.heap.size a n ss ∧ n ≤ maxLen := by
  rcases h.slice Tryz.underlying49 with rfl | ⟨a, n, cap, rfl, hl1, hl2, hel⟩
  · exact ⟨none, 0, 0, [], rfl, ⟨rfl, .inl rfl⟩, Nat.zero_le _⟩
  · have each : ∀ i, i < n → ∃ s : S3, w.cell? ((a.add (i * 3)).add 0) = some (.int .i64 s.1) ∧ w.cell? ((a.add (i * 3)).add 1) = some (.int .i64 s.2.1) ∧ w.cell? ((a.add (i * 3)).add 2) = some (.int .i64 s.2.2) := fun i hi => by
      obtain ⟨ds, h1, h2⟩ := hel i hi
      rw [cells_seal] at h1
      obtain ⟨r, k, t, e⟩ := sealed3 (cs := ds.toArray) (by simpa using h2)
      have e' : ds = [.int .i64 r, .int .i64 k, .int .i64 t] := by simpa using congrArg Array.toList e
      subst e'
      have hc := World.cells?_some h1
      exact ⟨(r, k, t), hc.2.2 0 (by omega), hc.2.2 1 (by omega), hc.2.2 2 (by omega)⟩
    obtain ⟨f, hf⟩ : ∃ f : Nat → S3, ∀ i, i < n → w.cell? ((a.add (i * 3)).add 0) = some (.int .i64 (f i).1) ∧ w.cell? ((a.add (i * 3)).add 1) = some (.int .i64 (f i).2.1) ∧ w.cell? ((a.add (i * 3)).add 2) = some (.int .i64 (f i).2.2) :=
      ⟨fun i => if hi : i < n then (each i hi).choose else (0, 0, 0), fun i hi => by simp only [hi, dif_pos]; exact (each i hi).choose_spec⟩
    have er : ∀ k, k < n → es ((List.range n).map f) k = f k := fun k hk => by simp [es, List.getD, hk]
    refine ⟨some a, n, cap, (List.range n).map f, rfl, ⟨by simp, ?_⟩, by omega⟩
    by_cases h0 : n = 0
    · exact .inl h0
    · obtain ⟨b, off, spot⟩ := a
      obtain ⟨q0, _⟩ := hf 0 (by omega)
      have hs : spot = none := by simpa [Addr.add] using World.cell?_spot q0
      subst hs
      have hb := World.block_lt_of_cell? _ _ q0
      refine .inr ⟨b, off, rfl, by simpa [Addr.add] using hb, fun k hk => ?_⟩
      obtain ⟨c0, c1, c2⟩ := hf k hk
      rw [add_plain, add_plain] at c0 c1 c2
      rw [er k hk]
      exact ⟨by simpa using c0, c1, c2⟩

end Go.Proofs.YtimakfokgcnklaaGreat.Rd
