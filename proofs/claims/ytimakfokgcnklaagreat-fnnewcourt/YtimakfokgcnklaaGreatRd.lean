/-
  What the cells of an argument read as, by its type's shape: a number, a flag, a struct field by field, a slice element by element.
-/
import Derived.Lib.SmallJoins
import Derived.Test.YtimakfokgcnklaaGreatList
namespace Go.Proofs.YtimakfokgcnklaaGreat.Rd
open Go.ChangeShapes Go.WideShapes Go.ChangeAt Go.RowKit Go.Joins Go.Deep
set_option linter.unusedVariables false
section
variable {H : Type} {enc : TypeId × Value → H} {P : Program} {w : World} {base : Nat} {spare : Nat → Bool} {held : Bool} {t : TypeId} {cs : List Value}

abbrev Fits (a : Int) : Prop := (Lit.int .i64 a).wf = true

/-- These cells read as a value of type t. -/
def Reads (enc : TypeId × Value → H) (P : Program) (w : World) (base : Nat) (spare : Nat → Bool) (held : Bool) (t : TypeId) (cs : List Value) : Prop :=
  ∃ fuel x, DataW.trod enc P w base spare held fuel t cs = some x

theorem Reads.of {v : Value} {d : DataW H} {p : List MemPlace} (h : DataW.Trod enc P w base spare held t v d p) : Reads enc P w base spare held t v.cells.toList := by
  obtain ⟨fuel, hf⟩ := h
  exact ⟨fuel, _, hf⟩
theorem Reads.int {k : IntKind} (ht : P.underlying t = some (.int k)) (h : Reads enc P w base spare held t cs) : ∃ n, cs = [.int k n] ∧ (Lit.int k n).wf = true := by
  obtain ⟨fuel, x, hf⟩ := h
  obtain ⟨n, h1, _, h2⟩ := DataW.trod_int ht hf
  exact ⟨n, h1, h2⟩
theorem Reads.bool (ht : P.underlying t = some .bool) (h : Reads enc P w base spare held t cs) : ∃ b, cs = [.bool b] := by
  obtain ⟨fuel, x, hf⟩ := h
  cases fuel with
  | zero => simp [DataW.trod] at hf
  | succ n =>
    unfold DataW.trod at hf
    rw [ht] at hf
    split at hf <;> simp_all
theorem Reads.string (ht : P.underlying t = some .string) (h : Reads enc P w base spare held t cs) : ∃ s : ByteArray, cs = [.string s] ∧ s.size ≤ maxLen := by
  obtain ⟨fuel, x, hf⟩ := h
  obtain ⟨s, h1, _, h2⟩ := DataW.trod_string ht hf
  exact ⟨s, h1, h2⟩
theorem Reads.struct {fs : Array Field} (ht : P.underlying t = some (.struct fs)) (h : Reads enc P w base spare held t cs) :
    cs.length = P.cellsOf t ∧ ∀ (i : Nat) (f : Field), fs[i]? = some f → Reads enc P w base spare held f.type ((cs.drop f.offset).take (P.cellsOf f.type)) := by
  obtain ⟨fuel, x, hf⟩ := h
  obtain ⟨xs, n, _, _, hl, hlen, hx⟩ := DataW.trod_struct ht hf
  refine ⟨hl, fun i f hi => ?_⟩
  have q := hx i f hi
  have hi' : i < xs.length := by
    have := (Array.getElem?_eq_some_iff.1 hi).1
    omega
  rw [List.getElem?_eq_getElem hi'] at q
  exact ⟨n, _, q⟩
theorem Reads.slice {e : TypeId} (ht : P.underlying t = some (.slice e)) (h : Reads enc P w base spare held t cs) :
    cs = [.slice none 0 0] ∨ ∃ (a : Addr) (len cap : Nat), cs = [.slice (some a) len cap] ∧ len ≤ cap ∧ cap ≤ maxLen ∧
      ∀ i, i < len → ∃ ds, w.cells? base (a.add (i * P.cellsOf e)) (P.cellsOf e) = some ds ∧ Reads enc P w base spare held e ds := by
  obtain ⟨fuel, x, hf⟩ := h
  rcases DataW.trod_slice ht hf with ⟨h0, _⟩ | ⟨a, len, cap, elems, rest, n, _, rfl, _, _, hl, hm, hlen, hel, _, _⟩
  · exact .inl h0
  · refine .inr ⟨a, len, cap, rfl, hl, hm, fun i hi => ?_⟩
    have q := hel i hi
    rw [List.getElem?_eq_getElem (by omega), Option.bind_eq_some_iff] at q
    obtain ⟨ds, h1, h2⟩ := q
    exact ⟨ds, h1, n, _, h2⟩

theorem addr_none {a : Addr} {v : Value} (h : w.cell? a = some v) : a.spot = none := World.cell?_spot h
theorem add_plain (b off j : Nat) : (⟨b, off, none⟩ : Addr).add j = ⟨b, off + j, none⟩ := by
  by_cases hj : j = 0
  · subst hj; simp [Addr.add]
  · simp [Addr.add, hj]

/-- A slice of int64s. -/
theorem Reads.ints {e : TypeId} (ht : P.underlying t = some (.slice e)) (he : P.underlying e = some (.int .i64)) (hc : P.cellsOf e = 1) (h : Reads enc P w base spare held t cs) :
    ∃ (a : Option Addr) (n cap : Nat) (zs : List Int), cs = [.slice a n cap] ∧ Ls.Row w w.heap.size a n zs ∧ n ≤ maxLen ∧ ∀ x ∈ zs, Fits x := by
  rcases h.slice ht with rfl | ⟨a, n, cap, rfl, hl1, hl2, hel⟩
  · exact ⟨none, 0, 0, [], rfl, ⟨rfl, .inl rfl⟩, Nat.zero_le _, fun x hx => by cases hx⟩
  · have each : ∀ i, i < n → ∃ z : Int, w.cell? (a.add i) = some (.int .i64 z) ∧ Fits z := fun i hi => by
      obtain ⟨ds, h1, h2⟩ := hel i hi
      obtain ⟨z, rfl, hz⟩ := h2.int he
      rw [hc, Nat.mul_one] at h1
      exact ⟨z, cell_of_cells?_one h1, hz⟩
    obtain ⟨f, hf⟩ : ∃ f : Nat → Int, ∀ i, i < n → w.cell? (a.add i) = some (.int .i64 (f i)) ∧ Fits (f i) :=
      ⟨fun i => if hi : i < n then (each i hi).choose else 0, fun i hi => by simp only [hi, dif_pos]; exact (each i hi).choose_spec⟩
    refine ⟨some a, n, cap, (List.range n).map f, rfl, ⟨by simp, ?_⟩, by omega, fun x hx => ?_⟩
    · by_cases h0 : n = 0
      · exact .inl h0
      · obtain ⟨b, off, spot⟩ := a
        have hc0 := (hf 0 (by omega)).1
        have hs : spot = none := by simpa [Addr.add] using World.cell?_spot hc0
        subst hs
        have hb := World.block_lt_of_cell? _ _ hc0
        refine .inr ⟨b, off, rfl, by simpa [Addr.add] using hb, fun k hk => ?_⟩
        have hk4 := (hf k hk).1
        rw [add_plain] at hk4
        rw [hk4]
        simp [Ls.el, List.getD, hk]
    · obtain ⟨i, hi, rfl⟩ := List.mem_map.1 hx
      exact (hf i (List.mem_range.1 hi)).2
end

/-- Below B, from an address on, these flags. -/
def Flags (w : World) (B : Nat) (a : Option Addr) (n : Nat) (bs : List Bool) : Prop :=
  bs.length = n ∧ (n = 0 ∨ ∃ b off, a = some ⟨b, off, none⟩ ∧ b < B ∧ ∀ k, k < n → w.cell? ⟨b, off + k, none⟩ = some (.bool (bs.getD k false)))
theorem Flags.later {w w' : World} {B B' : Nat} {a : Option Addr} {n : Nat} {bs : List Bool} (h : Flags w B a n bs) (hb : Below B' w w') (hB : B ≤ B') : Flags w' B a n bs := by
  obtain ⟨h1, h2⟩ := h
  refine ⟨h1, ?_⟩
  rcases h2 with h2 | ⟨b, off, e, hlt, hc⟩
  · exact .inl h2
  · exact .inr ⟨b, off, e, hlt, fun k hk => by rw [hb.cell (p := ⟨b, off + k, none⟩) (by simp; omega)]; exact hc k hk⟩
theorem Flags.more {w : World} {B B' : Nat} {a : Option Addr} {n : Nat} {bs : List Bool} (h : Flags w B a n bs) (hB : B ≤ B') : Flags w B' a n bs := by
  obtain ⟨h1, h2⟩ := h
  refine ⟨h1, ?_⟩
  rcases h2 with h2 | ⟨b, off, e, hlt, hc⟩
  · exact .inl h2
  · exact .inr ⟨b, off, e, by omega, hc⟩

section
variable {H : Type} {enc : TypeId × Value → H} {P : Program} {w : World} {base : Nat} {spare : Nat → Bool} {held : Bool} {t : TypeId} {cs : List Value}
/-- A slice of bools. -/
theorem Reads.bools {e : TypeId} (ht : P.underlying t = some (.slice e)) (he : P.underlying e = some .bool) (hc : P.cellsOf e = 1) (h : Reads enc P w base spare held t cs) :
    ∃ (a : Option Addr) (n cap : Nat) (bs : List Bool), cs = [.slice a n cap] ∧ Flags w w.heap.size a n bs ∧ n ≤ maxLen := by
  rcases h.slice ht with rfl | ⟨a, n, cap, rfl, hl1, hl2, hel⟩
  · exact ⟨none, 0, 0, [], rfl, ⟨rfl, .inl rfl⟩, Nat.zero_le _⟩
  · have each : ∀ i, i < n → ∃ z : Bool, w.cell? (a.add i) = some (.bool z) := fun i hi => by
      obtain ⟨ds, h1, h2⟩ := hel i hi
      obtain ⟨z, rfl⟩ := h2.bool he
      rw [hc, Nat.mul_one] at h1
      exact ⟨z, cell_of_cells?_one h1⟩
    obtain ⟨f, hf⟩ : ∃ f : Nat → Bool, ∀ i, i < n → w.cell? (a.add i) = some (.bool (f i)) :=
      ⟨fun i => if hi : i < n then (each i hi).choose else false, fun i hi => by simp only [hi, dif_pos]; exact (each i hi).choose_spec⟩
    refine ⟨some a, n, cap, (List.range n).map f, rfl, ⟨by simp, ?_⟩, by omega⟩
    by_cases h0 : n = 0
    · exact .inl h0
    · obtain ⟨b, off, spot⟩ := a
      have hc0 := hf 0 (by omega)
      have hs : spot = none := by simpa [Addr.add] using World.cell?_spot hc0
      subst hs
      have hb := World.block_lt_of_cell? _ _ hc0
      refine .inr ⟨b, off, rfl, by simpa [Addr.add] using hb, fun k hk => ?_⟩
      have hk4 := hf k hk
      rw [add_plain] at hk4
      rw [hk4]
      simp [List.getD, hk]
end

end Go.Proofs.YtimakfokgcnklaaGreat.Rd
