/-
  Slices of int64s: a copy of one; whether two are alike; each writes nothing that was there ahead of it. · What the cells of an argument read as, by its type's shape: a number, a flag, a struct field by field, a slice element by element. · A world of the laws, handed in by value: its nine cells, and what its two slices hold. · Slices of int64s that a call has made itself. · Slices of int64s that nothing else holds: a copy of one, one that is marked, one whose marks are held. · A block of cells that can be read and written: what becomes of it behind a call, a store.
-/
import Derived.Test.YtcgcmceobmpdiaaGreatRows
import Derived.WalkKit
import Derived.ProofKit
import Derived.OpenShut
import Derived.Below
import Derived.WalkSmall
import Derived.Deep.QuietTactic
import Derived.BigQuiet
import Derived.Deep.OwnRows
import Derived.Lib.SmallJoins
import Derived.OwnWalk
namespace Go.Proofs.YtcgcmceobmpdiaaGreat.Ls
open Go.ChangeShapes Go.WideShapes Go.ChangeAt Go.RowKit
set_option linter.unusedVariables false

def el (zs : List Int) (k : Nat) : Int := zs.getD k 0
/-- A slice of int64s: its first n cells hold zs, below block B. -/
def Row (w : World) (B : Nat) (a : Option Addr) (n : Nat) (zs : List Int) : Prop :=
  zs.length = n ∧ (n = 0 ∨ ∃ b off, a = some ⟨b, off, none⟩ ∧ b < B ∧ ∀ k, k < n → w.cell? ⟨b, off + k, none⟩ = some (.int .i64 (el zs k)))

theorem Row.later {w w' : World} {B B' : Nat} {a : Option Addr} {n : Nat} {zs : List Int} (h : Row w B a n zs) (hb : Below B' w w') (hB : B ≤ B') : Row w' B a n zs := by
  obtain ⟨h1, h2⟩ := h
  refine ⟨h1, ?_⟩
  rcases h2 with h2 | ⟨b, off, e, hB1, hc⟩
  · exact .inl h2
  · exact .inr ⟨b, off, e, hB1, fun k hk => by rw [hb.cell (p := ⟨b, off + k, none⟩) (by simp; omega)]; exact hc k hk⟩

theorem Row.more {w : World} {B B' : Nat} {a : Option Addr} {n : Nat} {zs : List Int} (h : Row w B a n zs) (hB : B ≤ B') : Row w B' a n zs := by
  obtain ⟨h1, h2⟩ := h
  refine ⟨h1, ?_⟩
  rcases h2 with h2 | ⟨b, off, e, hB1, hc⟩
  · exact .inl h2
  · exact .inr ⟨b, off, e, by omega, hc⟩

theorem info : (Tryz.prog.info? 2).map (fun i => (i.zero, i.size, i.bytes)) = some (some (.int .i64 0), 1, 8) := by kernel_rfl

/-- What a copy holds when k of them have been copied. -/
def part (zs : List Int) (k i : Nat) : Value := .int .i64 (if i < k then el zs i else 0)

theorem row_new {w : World} {b n : Nat} {zs : List Int} (hz : zs.length = n) (h : w.rowIs b 2 n (part zs n)) : Row w w.heap.size (some ⟨b, 0, none⟩) n zs :=
  ⟨hz, .inr ⟨b, 0, rfl, h.lt, fun k hk => by rw [Nat.zero_add, h.cell hk, part, if_pos hk]⟩⟩

theorem row_step {w : World} {b n k : Nat} {zs : List Int} (h : w.rowIs b 2 n (part zs k)) : (w.setCell ⟨b, k, none⟩ (.int .i64 (el zs k))).rowIs b 2 n (part zs (k + 1)) :=
  (h.set k _).congr fun i hi => by
    unfold part
    by_cases e : i = k
    · subst e; simp
    · rw [if_neg e]
      by_cases h2 : i < k
      · rw [if_pos h2, if_pos (by omega)]
      · rw [if_neg h2, if_neg (by omega)]

set_option maxHeartbeats 1000000 in
theorem toInt64S (a : Option Addr) (n cap : Nat) (zs : List Int) (w : World) (hr : Row w w.heap.size a n zs) (hn : n ≤ 1048576) :
    Calls Tryz.prog 21 #[.slice a n cap] w fun e w' => (∃ g, e = .returned (.slice (some ⟨g, 0, none⟩) n n) ∧ w.heap.size ≤ g ∧ Row w' w'.heap.size (some ⟨g, 0, none⟩) n zs) ∧ Below w.heap.size w w' := by
  have hmk := run_make_row' (P := Tryz.prog) 24 2 (.int .i64 0) 8 Tryz.underlying24 info rfl .i64 .i64 n (by omega) (by omega)
  have ⟨hz, hrow⟩ := hr
  go_enter Tryz.func21, Tryz.ntmps21
  go_wp2
  go_loopw [4] (fun i w' => ∃ k : Nat, k ≤ n ∧ i = .int .i64 k ∧ w'.rowIs w.heap.size 2 n (part zs k) ∧ Below w.heap.size w w') (fun i _ => n - (intOf i).toNat)
  case atStart =>
    exact ⟨0, Nat.zero_le _, rfl, (World.rowIs_made w _ n _).congr (fun i _ => by simp [part]), (Below.refl _ _).alloc (Nat.le_refl _) _⟩
  case round =>
    obtain ⟨k, hk, rfl, hown, hb⟩ := hrel
    by_cases hlt : k < n
    · have hi : (k : Int) < n := by omega
      rcases hrow with hrow | ⟨b, off, rfl, hB, hc⟩
      · omega
      · have hc1 := hc k hlt
        rw [← hb.cell (p := ⟨b, off + k, none⟩) hB] at hc1
        have hc2 := hown.cell hlt
        have hf2 := hown.frozen k
        go_wp2
        go_roundw
        case rel => exact ⟨k + 1, by omega, by go_num, row_step hown, hb.setCell (Nat.le_refl _) _⟩
        case measure => simp [intOf]; omega
    · have hi : ¬ (k : Int) < n := by omega
      have e : k = n := by omega
      subst e
      go_wp2
      go_ret
      exact ⟨⟨_, rfl, Nat.le_refl _, row_new hz hown⟩, hb⟩

set_option maxHeartbeats 1000000 in
theorem eqInt64S (a b : Option Addr) (n cap cap' : Nat) (zs : List Int) (w : World) (hr : Row w w.heap.size a n zs) (hs : Row w w.heap.size b n zs) (hn : n ≤ 1048576) :
    Calls Tryz.prog 27 #[.slice a n cap, .slice b n cap'] w fun e w' => e = .returned (.bool true) ∧ Below w.heap.size w w' := by
  have ⟨hz, hrow⟩ := hr
  have ⟨_, hrow'⟩ := hs
  go_enter Tryz.func27, Tryz.ntmps27
  go_wp2
  go_loopw [5] (fun i w' => ∃ k : Nat, k ≤ n ∧ i = .int .i64 k ∧ Below w.heap.size w w') (fun i _ => n - (intOf i).toNat)
  case atStart => exact ⟨0, Nat.zero_le _, rfl, Below.refl _ _⟩
  case round =>
    obtain ⟨k, hk, rfl, hb⟩ := hrel
    by_cases hlt : k < n
    · have hi : (k : Int) < n := by omega
      rcases hrow with hrow | ⟨b1, off, rfl, hB, hc⟩
      · omega
      · rcases hrow' with hrow' | ⟨b2, off', rfl, hB', hc'⟩
        · omega
        · have hc1 := hc k hlt
          rw [← hb.cell (p := ⟨b1, off + k, none⟩) hB] at hc1
          have hc2 := hc' k hlt
          rw [← hb.cell (p := ⟨b2, off' + k, none⟩) hB'] at hc2
          go_wp2
          go_quiet (fail)
          go_wp2
          go_roundw
          case rel => exact ⟨k + 1, by omega, by go_num, below_drewN hb _⟩
          case measure => simp [intOf]; omega
    · have hi : ¬ (k : Int) < n := by omega
      go_wp2
      go_ret
      exact ⟨rfl, hb⟩

end Go.Proofs.YtcgcmceobmpdiaaGreat.Ls

namespace Go.Proofs.YtcgcmceobmpdiaaGreat.Rd
open Go.ChangeShapes Go.WideShapes Go.ChangeAt Go.RowKit Go.Joins Go.Deep
set_option linter.unusedVariables false
section
variable {H : Type} {enc : TypeId × Value → H} {P : Program} {w : World} {base : Nat} {spare : Nat → Bool} {held : Bool} {t : TypeId} {cs : List Value}

abbrev Fits (a : Int) : Prop := (Lit.int .i64 a).wf = true

/-- These cells read as a value of type t. -/
def Reads (enc : TypeId × Value → H) (P : Program) (w : World) (base : Nat) (spare : Nat → Bool) (held : Bool) (t : TypeId) (cs : List Value) : Prop :=
  ∃ fuel x, DataW.trod enc P w base spare held fuel t cs = some x

theorem Reads.of {v : Value} {d : DataW H} {p : List MemPlace} (h : DataW.Trod enc P w base spare held t v d p) : Reads enc P w base spare held t v.cells.toList := by
  obtain ⟨fuel, hf⟩ := h
  exact ⟨fuel, _, hf⟩
theorem Reads.int {k : IntKind} (ht : P.underlying t = some (.int k)) (h : Reads enc P w base spare held t cs) : ∃ n, cs = [.int k n] ∧ (Lit.int k n).wf = true := by
  obtain ⟨fuel, x, hf⟩ := h
  obtain ⟨n, h1, _, h2⟩ := DataW.trod_int ht hf
  exact ⟨n, h1, h2⟩
theorem Reads.bool (ht : P.underlying t = some .bool) (h : Reads enc P w base spare held t cs) : ∃ b, cs = [.bool b] := by
  obtain ⟨fuel, x, hf⟩ := h
  cases fuel with
  | zero => simp [DataW.trod] at hf
  | succ n =>
    unfold DataW.trod at hf
    rw [ht] at hf
    split at hf <;> simp_all
theorem Reads.string (ht : P.underlying t = some .string) (h : Reads enc P w base spare held t cs) : ∃ s : ByteArray, cs = [.string s] ∧ s.size ≤ maxLen := by
  obtain ⟨fuel, x, hf⟩ := h
  obtain ⟨s, h1, _, h2⟩ := DataW.trod_string ht hf
  exact ⟨s, h1, h2⟩
theorem Reads.struct {fs : Array Field} (ht : P.underlying t = some (.struct fs)) (h : Reads enc P w base spare held t cs) :
    cs.length = P.cellsOf t ∧ ∀ (i : Nat) (f : Field), fs[i]? = some f → Reads enc P w base spare held f.type ((cs.drop f.offset).take (P.cellsOf f.type)) := by
  obtain ⟨fuel, x, hf⟩ := h
  obtain ⟨xs, n, _, _, hl, hlen, hx⟩ := DataW.trod_struct ht hf
  refine ⟨hl, fun i f hi => ?_⟩
  have q := hx i f hi
  have hi' : i < xs.length := by
    have := (Array.getElem?_eq_some_iff.1 hi).1
    omega
  rw [List.getElem?_eq_getElem hi'] at q
  exact ⟨n, _, q⟩
theorem Reads.slice {e : TypeId} (ht : P.underlying t = some (.slice e)) (h : Reads enc P w base spare held t cs) :
    cs = [.slice none 0 0] ∨ ∃ (a : Addr) (len cap : Nat), cs = [.slice (some a) len cap] ∧ len ≤ cap ∧ cap ≤ maxLen ∧
      ∀ i, i < len → ∃ ds, w.cells? base (a.add (i * P.cellsOf e)) (P.cellsOf e) = some ds ∧ Reads enc P w base spare held e ds := by
  obtain ⟨fuel, x, hf⟩ := h
  rcases DataW.trod_slice ht hf with ⟨h0, _⟩ | ⟨a, len, cap, elems, rest, n, _, rfl, _, _, hl, hm, hlen, hel, _, _⟩
  · exact .inl h0
  · refine .inr ⟨a, len, cap, rfl, hl, hm, fun i hi => ?_⟩
    have q := hel i hi
    rw [List.getElem?_eq_getElem (by omega), Option.bind_eq_some_iff] at q
    obtain ⟨ds, h1, h2⟩ := q
    exact ⟨ds, h1, n, _, h2⟩

theorem addr_none {a : Addr} {v : Value} (h : w.cell? a = some v) : a.spot = none := World.cell?_spot h
theorem add_plain (b off j : Nat) : (⟨b, off, none⟩ : Addr).add j = ⟨b, off + j, none⟩ := by
  by_cases hj : j = 0
  · subst hj; simp [Addr.add]
  · simp [Addr.add, hj]

/-- A slice of int64s. -/
theorem Reads.ints {e : TypeId} (ht : P.underlying t = some (.slice e)) (he : P.underlying e = some (.int .i64)) (hc : P.cellsOf e = 1) (h : Reads enc P w base spare held t cs) :
    ∃ (a : Option Addr) (n cap : Nat) (zs : List Int), cs = [.slice a n cap] ∧ Ls.Row w w.heap.size a n zs ∧ n ≤ maxLen ∧ ∀ x ∈ zs, Fits x := by
  rcases h.slice ht with rfl | ⟨a, n, cap, rfl, hl1, hl2, hel⟩
  · exact ⟨none, 0, 0, [], rfl, ⟨rfl, .inl rfl⟩, Nat.zero_le _, fun x hx => by cases hx⟩
  · have each : ∀ i, i < n → ∃ z : Int, w.cell? (a.add i) = some (.int .i64 z) ∧ Fits z := fun i hi => by
      obtain ⟨ds, h1, h2⟩ := hel i hi
      obtain ⟨z, rfl, hz⟩ := h2.int he
      rw [hc, Nat.mul_one] at h1
      exact ⟨z, cell_of_cells?_one h1, hz⟩
    obtain ⟨f, hf⟩ : ∃ f : Nat → Int, ∀ i, i < n → w.cell? (a.add i) = some (.int .i64 (f i)) ∧ Fits (f i) :=
      ⟨fun i => if hi : i < n then (each i hi).choose else 0, fun i hi => by simp only [hi, dif_pos]; exact (each i hi).choose_spec⟩
    refine ⟨some a, n, cap, (List.range n).map f, rfl, ⟨by simp, ?_⟩, by omega, fun x hx => ?_⟩
    · by_cases h0 : n = 0
      · exact .inl h0
      · obtain ⟨b, off, spot⟩ := a
        have hc0 := (hf 0 (by omega)).1
        have hs : spot = none := by simpa [Addr.add] using World.cell?_spot hc0
        subst hs
        have hb := World.block_lt_of_cell? _ _ hc0
        refine .inr ⟨b, off, rfl, by simpa [Addr.add] using hb, fun k hk => ?_⟩
        have hk4 := (hf k hk).1
        rw [add_plain] at hk4
        rw [hk4]
        simp [Ls.el, List.getD, hk]
    · obtain ⟨i, hi, rfl⟩ := List.mem_map.1 hx
      exact (hf i (List.mem_range.1 hi)).2
end

/-- Below B, from an address on, these flags. -/
def Flags (w : World) (B : Nat) (a : Option Addr) (n : Nat) (bs : List Bool) : Prop :=
  bs.length = n ∧ (n = 0 ∨ ∃ b off, a = some ⟨b, off, none⟩ ∧ b < B ∧ ∀ k, k < n → w.cell? ⟨b, off + k, none⟩ = some (.bool (bs.getD k false)))
theorem Flags.later {w w' : World} {B B' : Nat} {a : Option Addr} {n : Nat} {bs : List Bool} (h : Flags w B a n bs) (hb : Below B' w w') (hB : B ≤ B') : Flags w' B a n bs := by
  obtain ⟨h1, h2⟩ := h
  refine ⟨h1, ?_⟩
  rcases h2 with h2 | ⟨b, off, e, hlt, hc⟩
  · exact .inl h2
  · exact .inr ⟨b, off, e, hlt, fun k hk => by rw [hb.cell (p := ⟨b, off + k, none⟩) (by simp; omega)]; exact hc k hk⟩
theorem Flags.more {w : World} {B B' : Nat} {a : Option Addr} {n : Nat} {bs : List Bool} (h : Flags w B a n bs) (hB : B ≤ B') : Flags w B' a n bs := by
  obtain ⟨h1, h2⟩ := h
  refine ⟨h1, ?_⟩
  rcases h2 with h2 | ⟨b, off, e, hlt, hc⟩
  · exact .inl h2
  · exact .inr ⟨b, off, e, by omega, hc⟩

section
variable {H : Type} {enc : TypeId × Value → H} {P : Program} {w : World} {base : Nat} {spare : Nat → Bool} {held : Bool} {t : TypeId} {cs : List Value}
/-- A slice of bools. -/
theorem Reads.bools {e : TypeId} (ht : P.underlying t = some (.slice e)) (he : P.underlying e = some .bool) (hc : P.cellsOf e = 1) (h : Reads enc P w base spare held t cs) :
    ∃ (a : Option Addr) (n cap : Nat) (bs : List Bool), cs = [.slice a n cap] ∧ Flags w w.heap.size a n bs ∧ n ≤ maxLen := by
  rcases h.slice ht with rfl | ⟨a, n, cap, rfl, hl1, hl2, hel⟩
  · exact ⟨none, 0, 0, [], rfl, ⟨rfl, .inl rfl⟩, Nat.zero_le _⟩
  · have each : ∀ i, i < n → ∃ z : Bool, w.cell? (a.add i) = some (.bool z) := fun i hi => by
      obtain ⟨ds, h1, h2⟩ := hel i hi
      obtain ⟨z, rfl⟩ := h2.bool he
      rw [hc, Nat.mul_one] at h1
      exact ⟨z, cell_of_cells?_one h1⟩
    obtain ⟨f, hf⟩ : ∃ f : Nat → Bool, ∀ i, i < n → w.cell? (a.add i) = some (.bool (f i)) :=
      ⟨fun i => if hi : i < n then (each i hi).choose else false, fun i hi => by simp only [hi, dif_pos]; exact (each i hi).choose_spec⟩
    refine ⟨some a, n, cap, (List.range n).map f, rfl, ⟨by simp, ?_⟩, by omega⟩
    by_cases h0 : n = 0
    · exact .inl h0
    · obtain ⟨b, off, spot⟩ := a
      have hc0 := hf 0 (by omega)
      have hs : spot = none := by simpa [Addr.add] using World.cell?_spot hc0
      subst hs
      have hb := World.block_lt_of_cell? _ _ hc0
      refine .inr ⟨b, off, rfl, by simpa [Addr.add] using hb, fun k hk => ?_⟩
      have hk4 := hf k hk
      rw [add_plain] at hk4
      rw [hk4]
      simp [List.getD, hk]
end

end Go.Proofs.YtcgcmceobmpdiaaGreat.Rd

namespace Go.Proofs.YtcgcmceobmpdiaaGreat.Rd
open Go.ChangeShapes Go.WideShapes Go.ChangeAt Go.RowKit Go.Joins Go.Deep
set_option linter.unusedVariables false

theorem nine {α : Type} {cs : Array α} (h : cs.toList.length = 9) : ∃ a b c d e f g i j, cs = #[a, b, c, d, e, f, g, i, j] := by
  obtain ⟨l⟩ := cs
  match l, h with
  | [a, b, c, d, e, f, g, i, j], _ => exact ⟨a, b, c, d, e, f, g, i, j, rfl⟩

theorem cells_int : Tryz.prog.cellsOf 2 = 1 := by kernel_rfl
theorem cells_ints : Tryz.prog.cellsOf 24 = 1 := by kernel_rfl
theorem cells_config : Tryz.prog.cellsOf 23 = 6 := by kernel_rfl
theorem cells_world : Tryz.prog.cellsOf 26 = 9 := by kernel_rfl

theorem world {H : Type} {enc : TypeId × Value → H} {w : World} {base : Nat} {spare : Nat → Bool} {held : Bool} {cs : Array Value} (h : Reads enc Tryz.prog w base spare held 26 cs.toList) :
    ∃ (n l d r p s t : Int) (a : Option Addr) (k ka : Nat) (b : Option Addr) (m mb : Nat) (ks os : List Int), cs = #[.int .i64 n, .int .i64 l, .int .i64 d, .int .i64 r, .int .i64 p, .int .i64 s, .slice a k ka, .slice b m mb, .int .i64 t] ∧ Ls.Row w w.heap.size a k ks ∧ Ls.Row w w.heap.size b m os ∧ k ≤ maxLen ∧ m ≤ maxLen := by
  obtain ⟨hl, hf⟩ := h.struct Tryz.underlying26
  rw [cells_world] at hl
  obtain ⟨c0, c1, c2, c3, c4, c5, c6, c7, c8, rfl⟩ := nine hl
  obtain ⟨_, g⟩ := (hf 0 _ rfl).struct Tryz.underlying23
  obtain ⟨n, e0, _⟩ := (g 0 _ rfl).int Tryz.underlying2
  obtain ⟨l, e1, _⟩ := (g 1 _ rfl).int Tryz.underlying2
  obtain ⟨d, e2, _⟩ := (g 2 _ rfl).int Tryz.underlying2
  obtain ⟨r, e3, _⟩ := (g 3 _ rfl).int Tryz.underlying2
  obtain ⟨p, e4, _⟩ := (g 4 _ rfl).int Tryz.underlying2
  obtain ⟨s, e5, _⟩ := (g 5 _ rfl).int Tryz.underlying2
  obtain ⟨a, k, ka, ks, e6, hk, hk2, _⟩ := (hf 1 _ rfl).ints Tryz.underlying24 Tryz.underlying2 cells_int
  obtain ⟨b, m, mb, os, e7, hm, hm2, _⟩ := (hf 2 _ rfl).ints Tryz.underlying24 Tryz.underlying2 cells_int
  obtain ⟨t, e8, _⟩ := (hf 3 _ rfl).int Tryz.underlying2
  simp [cells_int, cells_ints, cells_config] at e0 e1 e2 e3 e4 e5 e6 e7 e8
  subst e0 e1 e2 e3 e4 e5 e6 e7 e8
  exact ⟨n, l, d, r, p, s, t, a, k, ka, b, m, mb, ks, os, rfl, hk, hm, hk2, hm2⟩

theorem sixl {α : Type} {cs : Array α} (h : cs.toList.length = 6) : ∃ a b c d e f, cs = #[a, b, c, d, e, f] := by
  obtain ⟨l⟩ := cs
  match l, h with
  | [a, b, c, d, e, f], _ => exact ⟨a, b, c, d, e, f, rfl⟩

theorem config {H : Type} {enc : TypeId × Value → H} {w : World} {base : Nat} {spare : Nat → Bool} {held : Bool} {cs : Array Value} (h : Reads enc Tryz.prog w base spare held 23 cs.toList) :
    ∃ n l d r p s : Int, cs = #[.int .i64 n, .int .i64 l, .int .i64 d, .int .i64 r, .int .i64 p, .int .i64 s] := by
  obtain ⟨hl, g⟩ := h.struct Tryz.underlying23
  rw [cells_config] at hl
  obtain ⟨c0, c1, c2, c3, c4, c5, rfl⟩ := sixl hl
  obtain ⟨n, e0, _⟩ := (g 0 _ rfl).int Tryz.underlying2
  obtain ⟨l, e1, _⟩ := (g 1 _ rfl).int Tryz.underlying2
  obtain ⟨d, e2, _⟩ := (g 2 _ rfl).int Tryz.underlying2
  obtain ⟨r, e3, _⟩ := (g 3 _ rfl).int Tryz.underlying2
  obtain ⟨p, e4, _⟩ := (g 4 _ rfl).int Tryz.underlying2
  obtain ⟨s, e5, _⟩ := (g 5 _ rfl).int Tryz.underlying2
  simp [cells_int] at e0 e1 e2 e3 e4 e5
  subst e0 e1 e2 e3 e4 e5
  exact ⟨n, l, d, r, p, s, rfl⟩

theorem cells_bool : Tryz.prog.cellsOf 4 = 1 := by kernel_rfl

end Go.Proofs.YtcgcmceobmpdiaaGreat.Rd

namespace Go.Proofs.YtcgcmceobmpdiaaGreat.Ow
open Go.ChangeShapes Go.WideShapes Go.ChangeAt Go.RowKit
open Ls (el Row)
set_option linter.unusedVariables false

def ints (zs : List Int) : List Value := zs.map (Value.int .i64)
theorem ints_len (zs : List Int) : (ints zs).length = zs.length := by simp [ints]

/-- The slice at block g, which is no older than B, holds zs. -/
abbrev Own (w : World) (B g n cap : Nat) (zs : List Int) : Prop := w.ownsRow B 2 1 (.slice (some ⟨g, 0, none⟩) n cap) n (ints zs)

theorem Own.data {w : World} {B g n cap : Nat} {zs : List Int} (h : Own w B g n cap zs) :
    zs.length = n ∧ B ≤ g ∧ n ≤ cap ∧ cap ≤ maxLen ∧ ∃ cur, w.heap[g]? = some (.cells cur 2 (0, 0)) ∧ cur.size = cap ∧ cur.toList.take n = ints zs := by
  obtain ⟨h1, h2⟩ := h
  rw [ints_len, Nat.mul_one] at h1
  rcases h2 with ⟨h2, _⟩ | ⟨g', cap', cur, e, hB, hb, h3, h4, h5, h6⟩
  · cases h2
  · cases e
    exact ⟨h1, hB, h3, h4, cur, hb, by omega, by rw [Nat.mul_one] at h6; exact h6⟩

theorem Own.lt {w : World} {B g n cap : Nat} {zs : List Int} (h : Own w B g n cap zs) : g < w.heap.size := by
  obtain ⟨_, _, _, _, cur, hb, _⟩ := h.data
  exact (Array.getElem?_eq_some_iff.1 hb).1

theorem Own.cell {w : World} {B g n cap : Nat} {zs : List Int} (h : Own w B g n cap zs) (k : Nat) (hk : k < n) :
    w.cell? ⟨g, k, none⟩ = some (.int .i64 (el zs k)) ∧ w.frozen? ⟨g, k, none⟩ = false := by
  obtain ⟨h1, _, _, _, cur, hb, h3, h4⟩ := h.data
  have hk' : k < zs.length := by omega
  refine ⟨?_, by simp [World.frozen?, hb]⟩
  have h5 : (cur.toList.take n)[k]? = (ints zs)[k]? := by rw [h4]
  rw [List.getElem?_take_of_lt hk] at h5
  simp only [World.cell?, hb]
  simp only [Option.isSome_none, Bool.false_eq_true, if_false]
  rw [← Array.getElem?_toList, h5]
  simp [ints, el, List.getD, hk']

theorem Own.row {w : World} {B g n cap : Nat} {zs : List Int} (h : Own w B g n cap zs) : Row w w.heap.size (some ⟨g, 0, none⟩) n zs :=
  ⟨h.data.1, .inr ⟨g, 0, rfl, h.lt, fun k hk => by rw [Nat.zero_add]; exact (h.cell k hk).1⟩⟩

theorem Own.take {w : World} {B g n cap : Nat} {zs : List Int} (h : Own w B g n cap zs) (k : Nat) (hk : k ≤ n) : Own w B g k cap (zs.take k) := by
  obtain ⟨h1, hB, h2, h2', cur, hb, h3, h4⟩ := h.data
  refine ⟨by simp [ints]; omega, .inr ⟨g, cap, cur, rfl, hB, hb, by omega, h2', by omega, ?_⟩⟩
  rw [Nat.mul_one, ints, List.map_take, ← ints, ← h4, List.take_take, Nat.min_eq_left hk]

theorem Own.later {w w' : World} {B B' g n cap : Nat} {zs : List Int} (h : Own w B g n cap zs) (hb : Below B' w w') (hg : g < B') : Own w' B g n cap zs := by
  obtain ⟨h1, h2⟩ := h
  refine ⟨h1, ?_⟩
  rcases h2 with h2 | ⟨g', cap', cur, e, hB, hb', rest⟩
  · exact .inl h2
  · cases e
    exact .inr ⟨g, cap, cur, rfl, hB, by rw [hb.block g hg]; exact hb', rest⟩

theorem Own.mono {w : World} {B B' g n cap : Nat} {zs : List Int} (h : Own w B g n cap zs) (hB : B' ≤ B) : Own w B' g n cap zs := by
  obtain ⟨h1, h2⟩ := h
  refine ⟨h1, ?_⟩
  rcases h2 with h2 | ⟨g', cap', cur, e, hB', rest⟩
  · exact .inl h2
  · exact .inr ⟨g', cap', cur, e, by omega, rest⟩

/-- A row that was appended to: no nil comes of it. -/
theorem own_of {w : World} {B n : Nat} {v : Value} {xs : List Value} {zs : List Int} (h : w.ownsRow B 2 1 v n xs) (hx : xs = ints zs) (hv : v ≠ .slice none 0 0) : ∃ g cap, v = .slice (some ⟨g, 0, none⟩) n cap ∧ Own w B g n cap zs := by
  subst hx
  rcases h.2 with ⟨h2, _⟩ | ⟨g', cap', cur, e, rest⟩
  · exact absurd h2 hv
  · exact ⟨g', cap', e, by rw [e] at h; exact h⟩

theorem addr_add (b off j : Nat) : (⟨b, off, none⟩ : Addr).add j = ⟨b, off + j, none⟩ := by
  unfold Addr.add; split <;> simp_all

theorem news {w : World} {b off n : Nat} {zs : List Int} (hz : zs.length = n) (h : ∀ k, k < n → w.cell? ⟨b, off + k, none⟩ = some (.int .i64 (el zs k))) :
    ∀ j u, (ints zs)[j]? = some u → w.cell? ((⟨b, off, none⟩ : Addr).add j) = some u := by
  intro j u hu
  rw [addr_add]
  have hj : j < zs.length := by
    have := (List.getElem?_eq_some_iff.1 hu).1
    rw [ints_len] at this
    exact this
  rw [h j (by omega), ← hu]
  simp [ints, el, List.getD, hj]

theorem one (zs : List Int) : ∀ u ∈ ints zs, u.oneCell' = true := ints_oneCell _ _

end Go.Proofs.YtcgcmceobmpdiaaGreat.Ow

namespace Go.Proofs.YtcgcmceobmpdiaaGreat.Ow
open Go.ChangeShapes Go.WideShapes Go.ChangeAt Go.RowKit
open Ls (el Row)
set_option linter.unusedVariables false

/-- From cell off of block g on, which is no older than B, lie zs, and can be written. -/
def Has (w : World) (B g off n : Nat) (zs : List Int) : Prop :=
  zs.length = n ∧ B ≤ g ∧ g < w.heap.size ∧ (∀ k, k < n → w.cell? ⟨g, off + k, none⟩ = some (.int .i64 (el zs k))) ∧ ∀ k, k < n → w.frozen? ⟨g, off + k, none⟩ = false

theorem Has.row {w : World} {B g off n : Nat} {zs : List Int} (h : Has w B g off n zs) : Row w w.heap.size (some ⟨g, off, none⟩) n zs :=
  ⟨h.1, .inr ⟨g, off, rfl, h.2.2.1, h.2.2.2.1⟩⟩
theorem Has.later {w w' : World} {B B' g off n : Nat} {zs : List Int} (h : Has w B g off n zs) (hb : Below B' w w') (hg : g < B') : Has w' B g off n zs :=
  ⟨h.1, h.2.1, by have := hb.size; have := h.2.2.1; omega, fun k hk => by rw [hb.cell (p := ⟨g, off + k, none⟩) hg]; exact h.2.2.2.1 k hk, fun k hk => by rw [hb.frozen (p := ⟨g, off + k, none⟩) hg]; exact h.2.2.2.2 k hk⟩
theorem Has.kept {w w' : World} {B b g off n : Nat} {zs : List Int} (h : Has w B g off n zs) (hg : w.grownBy w' (some b)) (hne : g ≠ b) : Has w' B g off n zs := by
  have e : w'.heap[g]? = w.heap[g]? := hg.block g h.2.2.1 (by simpa using hne)
  exact ⟨h.1, h.2.1, by have := hg.size; have := h.2.2.1; omega, fun k hk => by rw [World.cell?_of_block (w := w) (a := ⟨g, off + k, none⟩) e]; exact h.2.2.2.1 k hk, fun k hk => by rw [World.frozen?_of_block (w := w) (a := ⟨g, off + k, none⟩) e]; exact h.2.2.2.2 k hk⟩
theorem Has.setOther {w : World} {B g off n : Nat} {zs : List Int} (h : Has w B g off n zs) {q : Nat} (hne : q ≠ g) (i : Nat) (u : Value) : Has (w.setCell ⟨q, i, none⟩ u) B g off n zs :=
  ⟨h.1, h.2.1, by simpa using h.2.2.1, fun k hk => by rw [World.cell?_setCell_other _ _ _ _ (by simp <;> omega)]; exact h.2.2.2.1 k hk, fun k hk => by rw [World.frozen?_setCell]; exact h.2.2.2.2 k hk⟩
theorem Has.mono {w : World} {B B' g off n : Nat} {zs : List Int} (h : Has w B g off n zs) (hB : B' ≤ B) : Has w B' g off n zs := ⟨h.1, by have := h.2.1; omega, h.2.2⟩
theorem Row.kept {w w' : World} {B b n : Nat} {a : Option Addr} {zs : List Int} (h : Row w B a n zs) (hg : w.grownBy w' (some b)) (hb : B ≤ b) (hB : B ≤ w.heap.size) : Row w' B a n zs := by
  obtain ⟨h1, h2⟩ := h
  refine ⟨h1, ?_⟩
  rcases h2 with h2 | ⟨g, off, e, hB1, hc⟩
  · exact .inl h2
  · refine .inr ⟨g, off, e, hB1, fun k hk => ?_⟩
    have e : w'.heap[g]? = w.heap[g]? := hg.block g (by omega) (by simp; omega)
    rw [World.cell?_of_block (w := w) (a := ⟨g, off + k, none⟩) e]
    exact hc k hk

theorem Own.part {w : World} {B g n cap : Nat} {zs : List Int} (h : Own w B g n cap zs) (f l : Nat) (hl : f + l ≤ n) : Has w B g f l ((zs.drop f).take l) := by
  have hz := h.data.1
  refine ⟨by simp; omega, h.data.2.1, h.lt, fun k hk => ?_, fun k hk => (h.cell (f + k) (by omega)).2⟩
  rw [(h.cell (f + k) (by omega)).1]
  simp [el, List.getD, hk]
theorem Own.has {w : World} {B g n cap : Nat} {zs : List Int} (h : Own w B g n cap zs) : Has w B g 0 n zs := by
  have := h.part 0 n (by omega)
  rw [List.drop_zero, List.take_of_length_le (by have := h.data.1; omega)] at this
  exact this

theorem has_new {w : World} {B b n : Nat} {zs : List Int} (hz : zs.length = n) (hB : B ≤ b) (h : w.rowIs b 2 n (Ls.part zs n)) : Has w B b 0 n zs :=
  ⟨hz, hB, h.lt, fun k hk => by rw [Nat.zero_add, h.cell hk, Ls.part, if_pos hk], fun k hk => h.frozen _⟩

set_option maxHeartbeats 1000000 in
theorem copied (a : Option Addr) (n cap : Nat) (zs : List Int) (w : World) (hr : Row w w.heap.size a n zs) (hn : n ≤ 1048576) :
    Calls Tryz.prog 21 #[.slice a n cap] w fun e w' => (∃ g, e = .returned (.slice (some ⟨g, 0, none⟩) n n) ∧ Has w' w.heap.size g 0 n zs) ∧ Below w.heap.size w w' := by
  have hmk := run_make_row' (P := Tryz.prog) 24 2 (.int .i64 0) 8 Tryz.underlying24 Ls.info rfl .i64 .i64 n (by omega) (by omega)
  have ⟨hz, hrow⟩ := hr
  go_enter Tryz.func21, Tryz.ntmps21
  go_wp2
  go_loopw [4] (fun i w' => ∃ k : Nat, k ≤ n ∧ i = .int .i64 k ∧ w'.rowIs w.heap.size 2 n (Ls.part zs k) ∧ Below w.heap.size w w') (fun i _ => n - (intOf i).toNat)
  case atStart =>
    exact ⟨0, Nat.zero_le _, rfl, (World.rowIs_made w _ n _).congr (fun i _ => by simp [Ls.part]), (Below.refl _ _).alloc (Nat.le_refl _) _⟩
  case round =>
    obtain ⟨k, hk, rfl, hown, hb⟩ := hrel
    by_cases hlt : k < n
    · have hi : (k : Int) < n := by omega
      rcases hrow with hrow | ⟨b, off, rfl, hB, hc⟩
      · omega
      · have hc1 := hc k hlt
        rw [← hb.cell (p := ⟨b, off + k, none⟩) hB] at hc1
        have hc2 := hown.cell hlt
        have hf2 := hown.frozen k
        go_wp2
        go_roundw
        case rel => exact ⟨k + 1, by omega, by go_num, Ls.row_step hown, hb.setCell (Nat.le_refl _) _⟩
        case measure => simp [intOf]; omega
    · have hi : ¬ (k : Int) < n := by omega
      have e : k = n := by omega
      subst e
      go_wp2
      go_ret
      exact ⟨⟨_, rfl, has_new hz (Nat.le_refl _) hown⟩, hb⟩

/-- What is written when n are marked. -/
def marks (s : Int) (n : Nat) : List Int := (List.range n).map fun k : Nat => s + (k : Int)
theorem el_marks {s : Int} {n k : Nat} (h : k < n) : el (marks s n) k = s + (k : Int) := by simp [el, marks, List.getD, h]

theorem set_step {s : Int} {w wr : World} {g off k n : Nat} (hg : w.grownBy wr (some g)) (hk : k < n) (h1 : ∀ j, j < k → wr.cell? ⟨g, off + j, none⟩ = some (.int .i64 (s + (j : Int)))) (h2 : ∀ j, j < n → ∃ v, wr.cell? ⟨g, off + j, none⟩ = some v) (h3 : ∀ j, j < n → wr.frozen? ⟨g, off + j, none⟩ = false) (u : Value) (hu : u = .int .i64 (s + (k : Int))) :
    w.grownBy (wr.setCell ⟨g, off + k, none⟩ u) (some g) ∧ (∀ j, j < k + 1 → (wr.setCell ⟨g, off + k, none⟩ u).cell? ⟨g, off + j, none⟩ = some (.int .i64 (s + (j : Int)))) ∧ (∀ j, j < n → ∃ v, (wr.setCell ⟨g, off + k, none⟩ u).cell? ⟨g, off + j, none⟩ = some v) ∧ ∀ j, j < n → (wr.setCell ⟨g, off + k, none⟩ u).frozen? ⟨g, off + j, none⟩ = false := by
  subst hu
  obtain ⟨v0, hv0⟩ := h2 k hk
  refine ⟨⟨hg.os, hg.tape, hg.output, by have := hg.size; simpa using this, fun j hj hne => ?_⟩, fun j hj => ?_, fun j hj => ?_, fun j hj => ?_⟩
  · rw [Below.heap_setCell _ _ _ _ (by simpa using hne)]; exact hg.block j hj hne
  · by_cases e : j = k
    · subst e; exact World.cell?_setCell_same _ _ _ hv0
    · rw [World.cell?_setCell_other _ _ _ _ (by simp <;> omega)]; exact h1 j (by omega)
  · by_cases e : j = k
    · subst e; exact ⟨_, World.cell?_setCell_same _ _ _ hv0⟩
    · rw [World.cell?_setCell_other _ _ _ _ (by simp <;> omega)]; exact h2 j hj
  · rw [World.frozen?_setCell]; exact h3 j hj

set_option maxHeartbeats 1000000 in
theorem mark (s : Int) (B g off n cap : Nat) (zs : List Int) (w : World) (h : Has w B g off n zs) (hn : n ≤ 1048576) (hs0 : 0 ≤ s) (hs1 : s ≤ 100000000) :
    Calls Tryz.prog 29 #[.slice (some ⟨g, off, none⟩) n cap, .int .i64 s] w fun e w' => e = .returned (.int .i64 (s + (n : Int))) ∧ Has w' B g off n (marks s n) ∧ w.grownBy w' (some g) := by
  obtain ⟨hz, hB, hg, hc, hf⟩ := h
  have HC : Hid (∀ k, k < n → ∃ v, w.cell? ⟨g, off + k, none⟩ = some v) := fun k hk => ⟨_, hc k hk⟩
  have HF : Hid (∀ k, k < n → w.frozen? ⟨g, off + k, none⟩ = false) := hf
  clear hc hf
  go_enter Tryz.func29, Tryz.ntmps29
  go_wp2
  go_loopw [1, 5] (fun q i wr => ∃ k : Nat, k ≤ n ∧ i = .int .i64 k ∧ q = .int .i64 (s + (k : Int)) ∧ w.grownBy wr (some g) ∧ Hid (∀ j, j < k → wr.cell? ⟨g, off + j, none⟩ = some (.int .i64 (s + (j : Int)))) ∧ Hid (∀ j, j < n → ∃ v, wr.cell? ⟨g, off + j, none⟩ = some v) ∧ Hid (∀ j, j < n → wr.frozen? ⟨g, off + j, none⟩ = false)) (fun _ i _ => n - (intOf i).toNat)
  case atStart => exact ⟨0, Nat.zero_le _, rfl, by simp, World.grownBy.refl _ _, (fun j hj => by omega), HC, HF⟩
  case round =>
    obtain ⟨k, hk, rfl, rfl, hgr, h1, h2, h3⟩ := hrel
    by_cases hlt : k < n
    · have hi : (k : Int) < n := by omega
      obtain ⟨v0, hv0⟩ := h2.out k hlt
      have hf0 := h3.out k hlt
      go_wp2
      go_roundw
      case rel =>
        have S := set_step hgr hlt h1.out h2.out h3.out (.int .i64 (s + (k : Int))) rfl
        exact ⟨k + 1, by omega, by go_num, by go_num, S.1, S.2.1, S.2.2.1, S.2.2.2⟩
      case measure => simp [intOf]; omega
    · have hi : ¬ (k : Int) < n := by omega
      have e : k = n := by omega
      subst e
      go_wp2
      go_ret
      exact ⟨rfl, ⟨by simp [marks], hB, by have := hgr.size; omega, fun j hj => by rw [el_marks hj]; exact h1.out j hj, h3.out⟩, hgr⟩

set_option maxHeartbeats 1000000 in
theorem held (s : Int) (B g off n cap : Nat) (w : World) (h : Has w B g off n (marks s n)) (hn : n ≤ 1048576) (hs0 : 0 ≤ s) (hs1 : s ≤ 100000000) :
    Calls Tryz.prog 32 #[.slice (some ⟨g, off, none⟩) n cap, .int .i64 s] w fun e w' => e = .returned (.int .i64 (s + (n : Int))) ∧ w' = w := by
  obtain ⟨hz, hB, hg, hc, hf⟩ := h
  have HC : Hid (∀ k, k < n → w.cell? ⟨g, off + k, none⟩ = some (.int .i64 (s + (k : Int)))) := fun k hk => by rw [← el_marks hk]; exact hc k hk
  clear hc hf
  go_enter Tryz.func32, Tryz.ntmps32
  go_wp2
  go_loop [1, 5] (fun q i => ∃ k : Nat, k ≤ n ∧ i = .int .i64 k ∧ q = .int .i64 (s + (k : Int))) (fun _ i => n - (intOf i).toNat)
  case atStart => exact ⟨0, Nat.zero_le _, rfl, by simp⟩
  case round =>
    obtain ⟨k, hk, rfl, rfl⟩ := hrel
    by_cases hlt : k < n
    · have hi : (k : Int) < n := by omega
      have hc1 := HC.out k hlt
      go_wp2
      go_round
      case rel => exact ⟨k + 1, by omega, by go_num, by go_num⟩
      case measure => simp [intOf]; omega
    · have hi : ¬ (k : Int) < n := by omega
      have e : k = n := by omega
      subst e
      go_wp2
      go_ret
      exact ⟨rfl, rfl⟩

end Go.Proofs.YtcgcmceobmpdiaaGreat.Ow

namespace Go.Proofs.YtcgcmceobmpdiaaGreat.Rm
open Go.ChangeShapes Go.WideShapes Go.ChangeAt Go.RowKit
set_option linter.unusedVariables false

/-- At block g, from its start on, lie these values, and can be written. -/
def Room (w : World) (g : Nat) (vs : List Value) : Prop := ∀ i v, vs[i]? = some v → w.cell? ⟨g, i, none⟩ = some v ∧ w.frozen? ⟨g, i, none⟩ = false

theorem Room.cell {w : World} {g : Nat} {vs : List Value} (h : Room w g vs) (i : Nat) {v : Value} (hv : vs[i]? = some v) : w.cell? ⟨g, i, none⟩ = some v := (h i v hv).1
theorem Room.froz {w : World} {g : Nat} {vs : List Value} (h : Room w g vs) (i : Nat) {v : Value} (hv : vs[i]? = some v) : w.frozen? ⟨g, i, none⟩ = false := (h i v hv).2
theorem Room.lt {w : World} {g : Nat} {vs : List Value} (h : Room w g vs) (hn : 0 < vs.length) : g < w.heap.size :=
  World.block_lt_of_cell? _ _ (h 0 _ (List.getElem?_eq_getElem hn)).1
theorem Room.block {w w1 : World} {g : Nat} {vs : List Value} (h : Room w g vs) (e : w1.heap[g]? = w.heap[g]?) : Room w1 g vs := fun i v hv => by
  obtain ⟨a, b⟩ := h i v hv
  exact ⟨by rw [World.cell?_of_block (a := ⟨g, i, none⟩) e]; exact a, by rw [World.frozen?_of_block (a := ⟨g, i, none⟩) e]; exact b⟩
theorem Room.below {w w1 : World} {g : Nat} {vs : List Value} (h : Room w g vs) (hb : Below w.heap.size w w1) : Room w1 g vs := by
  by_cases hn : 0 < vs.length
  · exact h.block (hb.block g (h.lt hn))
  · intro i v hv
    have : vs = [] := List.eq_nil_of_length_eq_zero (by omega)
    subst this; cases hv
theorem Room.set {w : World} {g : Nat} {vs : List Value} (h : Room w g vs) (i : Nat) (u : Value) : Room (w.setCell ⟨g, i, none⟩ u) g (vs.set i u) := fun j v hv => by
  by_cases e : i = j
  · subst e
    by_cases hi : i < vs.length
    · rw [List.getElem?_set_self hi] at hv
      cases hv
      have q := h i _ (List.getElem?_eq_getElem hi)
      exact ⟨World.cell?_setCell_same _ _ _ q.1, by rw [World.frozen?_setCell]; exact q.2⟩
    · rw [List.getElem?_eq_none (by simp; omega)] at hv; cases hv
  · rw [List.getElem?_set_ne e] at hv
    have q := h j v hv
    exact ⟨by rw [World.cell?_setCell_other _ _ _ _ (by simp <;> omega)]; exact q.1, by rw [World.frozen?_setCell]; exact q.2⟩
theorem Room.setOther {w : World} {g q : Nat} {vs : List Value} (h : Room w g vs) (hne : q ≠ g) (i : Nat) (u : Value) : Room (w.setCell ⟨q, i, none⟩ u) g vs := fun j v hv => by
  have k := h j v hv
  exact ⟨by rw [World.cell?_setCell_other _ _ _ _ (by simp <;> omega)]; exact k.1, by rw [World.frozen?_setCell]; exact k.2⟩
theorem Room.new (w : World) (vs : List Value) (t : TypeId) : Room (w.alloc (.cells vs.toArray t)) w.heap.size vs := fun i v hv =>
  ⟨by rw [World.cell?_alloc_new]; simpa using hv, by rw [frozen?_alloc_cells]; simp [World.frozen?]⟩
theorem Room.at (w : World) (vs : List Value) (t : TypeId) (g : Nat) (hg : g = w.heap.size) : Room (w.alloc (.cells vs.toArray t)) g vs := by subst hg; exact Room.new w vs t
theorem Room.alloc {w : World} {g : Nat} {vs : List Value} (h : Room w g vs) (o : Obj) : Room (w.alloc o) g vs := by
  by_cases hn : 0 < vs.length
  · exact h.block (Below.heap_alloc _ _ _ (h.lt hn))
  · intro i v hv
    have : vs = [] := List.eq_nil_of_length_eq_zero (by omega)
    subst this; cases hv
theorem Room.drew {w : World} {g : Nat} {vs : List Value} (h : Room w g vs) : Room w.drew g vs := h
theorem Room.drewN {w : World} {g : Nat} {vs : List Value} (h : Room w g vs) (n : Nat) : Room (w.drewN n) g vs := h
/-- A whole struct of six stored. -/
theorem Room.six {w : World} {g : Nat} {a b c d e f : Value} (h : Room w g [a, b, c, d, e, f]) (x0 x1 x2 x3 x4 x5 : Value) :
    Room ((((((w.setCell ⟨g, 0, none⟩ x0).setCell ⟨g, 1, none⟩ x1).setCell ⟨g, 2, none⟩ x2).setCell ⟨g, 3, none⟩ x3).setCell ⟨g, 4, none⟩ x4).setCell ⟨g, 5, none⟩ x5) g [x0, x1, x2, x3, x4, x5] :=
  (((((h.set 0 x0).set 1 x1).set 2 x2).set 3 x3).set 4 x4).set 5 x5

theorem Room.other {w w1 : World} {b g : Nat} {vs : List Value} (h : Room w g vs) (hg : w.grownBy w1 (some b)) (hne : g ≠ b) : Room w1 g vs := by
  by_cases hn : 0 < vs.length
  · exact h.block (hg.block g (h.lt hn) (by simpa using hne))
  · intro i v hv
    have : vs = [] := List.eq_nil_of_length_eq_zero (by omega)
    subst this; cases hv

end Go.Proofs.YtcgcmceobmpdiaaGreat.Rm
