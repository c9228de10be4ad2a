/-
  A turn of the laws, handed in by value: its five cells, and what its slices hold.
-/
import Derived.Test.YtnocmfhlmpgbmaaGreatRd
import Derived.Test.YtnocmfhlmpgbmaaGreatSS
namespace Go.Proofs.YtnocmfhlmpgbmaaGreat.Rd
open Go.ChangeShapes Go.WideShapes Go.ChangeAt Go.RowKit Go.Joins Go.Deep
open Ss (RowsAt ln rw_)
set_option linter.unusedVariables false

/-- A slice of slices of int64s. -/
theorem Reads.rows {H : Type} {enc : TypeId × Value → H} {P : Program} {w : World} {base : Nat} {spare : Nat → Bool} {held : Bool} {t : TypeId} {cs : List Value} {s e : TypeId} (ht : P.underlying t = some (.slice s)) (hs : P.underlying s = some (.slice e)) (he : P.underlying e = some (.int .i64)) (hc : P.cellsOf s = 1) (hc2 : P.cellsOf e = 1) (h : Reads enc P w base spare held t cs) :
    ∃ (a : Option Addr) (n cap : Nat) (zss : List (List Int)), cs = [.slice a n cap] ∧ RowsAt w w.heap.size a n zss ∧ n ≤ maxLen ∧ ∀ k, k < n → ln zss k ≤ maxLen := by
  rcases h.slice ht with rfl | ⟨a, n, cap, rfl, hl1, hl2, hel⟩
  · exact ⟨none, 0, 0, [], rfl, ⟨rfl, .inl rfl⟩, Nat.zero_le _, fun k hk => by omega⟩
  · have each : ∀ i, i < n → ∃ z : List Int, ∃ ak nk ck, w.cell? (a.add i) = some (.slice ak nk ck) ∧ Ls.Row w w.heap.size ak nk z ∧ nk ≤ maxLen := fun i hi => by
      obtain ⟨ds, h1, h2⟩ := hel i hi
      obtain ⟨ak, nk, ck, z, rfl, h3, h4, _⟩ := h2.ints hs he hc2
      rw [hc, Nat.mul_one] at h1
      exact ⟨z, ak, nk, ck, cell_of_cells?_one h1, h3, h4⟩
    obtain ⟨f, hf⟩ : ∃ f : Nat → List Int, ∀ i, i < n → ∃ ak nk ck, w.cell? (a.add i) = some (.slice ak nk ck) ∧ Ls.Row w w.heap.size ak nk (f i) ∧ nk ≤ maxLen :=
      ⟨fun i => if hi : i < n then (each i hi).choose else [], fun i hi => by simp only [hi, dif_pos]; exact (each i hi).choose_spec⟩
    have er : ∀ k, k < n → rw_ ((List.range n).map f) k = f k := fun k hk => by simp [rw_, List.getD, hk]
    refine ⟨some a, n, cap, (List.range n).map f, rfl, ⟨by simp, ?_⟩, by omega, fun k hk => ?_⟩
    · by_cases h0 : n = 0
      · exact .inl h0
      · obtain ⟨b, off, spot⟩ := a
        obtain ⟨ak0, nk0, ck0, hc0, -, -⟩ := hf 0 (by omega)
        have hs : spot = none := by simpa [Addr.add] using World.cell?_spot hc0
        subst hs
        have hb := World.block_lt_of_cell? _ _ hc0
        refine .inr ⟨b, off, rfl, by simpa [Addr.add] using hb, fun k hk => ?_⟩
        obtain ⟨ak, nk, ck, q1, q2, q3⟩ := hf k hk
        rw [add_plain] at q1
        have e2 : ln ((List.range n).map f) k = nk := by unfold ln; rw [er k hk]; exact q2.1
        rw [e2, er k hk]
        exact ⟨ak, ck, q1, q2⟩
    · obtain ⟨ak, nk, ck, q1, q2, q3⟩ := hf k hk
      unfold ln
      rw [er k hk, q2.1]
      exact q3

theorem five {α : Type} {cs : Array α} (h : cs.toList.length = 5) : ∃ a b c d e, cs = #[a, b, c, d, e] := by
  obtain ⟨l⟩ := cs
  match l, h with
  | [a, b, c, d, e], _ => exact ⟨a, b, c, d, e, rfl⟩
theorem cells_t1 : Tryz.prog.cellsOf 2 = 1 := by kernel_rfl
theorem cells_t2 : Tryz.prog.cellsOf 26 = 1 := by kernel_rfl
theorem cells_t3 : Tryz.prog.cellsOf 29 = 1 := by kernel_rfl
theorem cells_t4 : Tryz.prog.cellsOf 30 = 1 := by kernel_rfl
theorem cells_t5 : Tryz.prog.cellsOf 4 = 1 := by kernel_rfl
theorem cells_turn : Tryz.prog.cellsOf 48 = 5 := by kernel_rfl

theorem turn {H : Type} {enc : TypeId × Value → H} {w : World} {base : Nat} {spare : Nat → Bool} {held : Bool} {cs : Array Value} (h : Reads enc Tryz.prog w base spare held 48 cs.toList) :
    ∃ (aD : Option Addr) (nD cD : Nat) (aE : Option Addr) (nE cE : Nat) (aL : Option Addr) (nL cL : Nat) (aF : Option Addr) (nF cF : Nat) (aR : Option Addr) (nR cR : Nat) (ds : List Int) (es ls : List (List Int)) (fs rs : List Bool),
      cs = #[.slice aD nD cD, .slice aE nE cE, .slice aL nL cL, .slice aF nF cF, .slice aR nR cR] ∧ Ls.Row w w.heap.size aD nD ds ∧ RowsAt w w.heap.size aE nE es ∧ RowsAt w w.heap.size aL nL ls ∧ Flags w w.heap.size aF nF fs ∧ Flags w w.heap.size aR nR rs ∧ nD ≤ maxLen ∧ nE ≤ maxLen ∧ nL ≤ maxLen ∧ nF ≤ maxLen ∧ nR ≤ maxLen ∧ (∀ k, k < nE → ln es k ≤ maxLen) ∧ ∀ k, k < nL → ln ls k ≤ maxLen := by
  obtain ⟨hl, hf⟩ := h.struct Tryz.underlying48
  rw [cells_turn] at hl
  obtain ⟨c0, c1, c2, c3, c4, rfl⟩ := five hl
  obtain ⟨aD, nD, cD, ds, e0, h0, m0, _⟩ := (hf 0 _ rfl).ints Tryz.underlying26 Tryz.underlying2 cells_t1
  obtain ⟨aE, nE, cE, es, e1, h1, m1, k1⟩ := (hf 1 _ rfl).rows Tryz.underlying29 Tryz.underlying26 Tryz.underlying2 cells_t2 cells_t1
  obtain ⟨aL, nL, cL, ls, e2, h2, m2, k2⟩ := (hf 2 _ rfl).rows Tryz.underlying29 Tryz.underlying26 Tryz.underlying2 cells_t2 cells_t1
  obtain ⟨aF, nF, cF, fs, e3, h3, m3⟩ := (hf 3 _ rfl).bools Tryz.underlying30 Tryz.underlying4 cells_t5
  obtain ⟨aR, nR, cR, rs, e4, h4, m4⟩ := (hf 4 _ rfl).bools Tryz.underlying30 Tryz.underlying4 cells_t5
  simp [cells_t2, cells_t3, cells_t4] at e0 e1 e2 e3 e4
  subst e0 e1 e2 e3 e4
  exact ⟨aD, nD, cD, aE, nE, cE, aL, nL, cL, aF, nF, cF, aR, nR, cR, ds, es, ls, fs, rs, rfl, h0, h1, h2, h3, h4, m0, m1, m2, m3, m4, k1, k2⟩

end Go.Proofs.YtnocmfhlmpgbmaaGreat.Rd
