/-
  A world of the laws, handed in by value: its nine cells, and what its two slices hold.
-/
import Derived.Test.YtnocmfhlmpgbmaaGreatRd
import Derived.Test.YtnocmfhlmpgbmaaGreatRows
namespace Go.Proofs.YtnocmfhlmpgbmaaGreat.Rd
open Go.ChangeShapes Go.WideShapes Go.ChangeAt Go.RowKit Go.Joins Go.Deep
set_option linter.unusedVariables false

theorem nine {α : Type} {cs : Array α} (h : cs.toList.length = 9) : ∃ a b c d e f g i j, cs = #[a, b, c, d, e, f, g, i, j] := by
  obtain ⟨l⟩ := cs
  match l, h with
  | [a, b, c, d, e, f, g, i, j], _ => exact ⟨a, b, c, d, e, f, g, i, j, rfl⟩

theorem cells_int : Tryz.prog.cellsOf 2 = 1 := by kernel_rfl
theorem cells_ints : Tryz.prog.cellsOf 26 = 1 := by kernel_rfl
theorem cells_config : Tryz.prog.cellsOf 45 = 6 := by kernel_rfl
theorem cells_world : Tryz.prog.cellsOf 47 = 9 := by kernel_rfl

theorem world {H : Type} {enc : TypeId × Value → H} {w : World} {base : Nat} {spare : Nat → Bool} {held : Bool} {cs : Array Value} (h : Reads enc Tryz.prog w base spare held 47 cs.toList) :
    ∃ (n l d r p s t : Int) (a : Option Addr) (k ka : Nat) (b : Option Addr) (m mb : Nat) (ks os : List Int), cs = #[.int .i64 n, .int .i64 l, .int .i64 d, .int .i64 r, .int .i64 p, .int .i64 s, .slice a k ka, .slice b m mb, .int .i64 t] ∧ Ls.Row w w.heap.size a k ks ∧ Ls.Row w w.heap.size b m os ∧ k ≤ maxLen ∧ m ≤ maxLen := by
  obtain ⟨hl, hf⟩ := h.struct Tryz.underlying47
  rw [cells_world] at hl
  obtain ⟨c0, c1, c2, c3, c4, c5, c6, c7, c8, rfl⟩ := nine hl
  obtain ⟨_, g⟩ := (hf 0 _ rfl).struct Tryz.underlying45
  obtain ⟨n, e0, _⟩ := (g 0 _ rfl).int Tryz.underlying2
  obtain ⟨l, e1, _⟩ := (g 1 _ rfl).int Tryz.underlying2
  obtain ⟨d, e2, _⟩ := (g 2 _ rfl).int Tryz.underlying2
  obtain ⟨r, e3, _⟩ := (g 3 _ rfl).int Tryz.underlying2
  obtain ⟨p, e4, _⟩ := (g 4 _ rfl).int Tryz.underlying2
  obtain ⟨s, e5, _⟩ := (g 5 _ rfl).int Tryz.underlying2
  obtain ⟨a, k, ka, ks, e6, hk, hk2, _⟩ := (hf 1 _ rfl).ints Tryz.underlying26 Tryz.underlying2 cells_int
  obtain ⟨b, m, mb, os, e7, hm, hm2, _⟩ := (hf 2 _ rfl).ints Tryz.underlying26 Tryz.underlying2 cells_int
  obtain ⟨t, e8, _⟩ := (hf 3 _ rfl).int Tryz.underlying2
  simp [cells_int, cells_ints, cells_config] at e0 e1 e2 e3 e4 e5 e6 e7 e8
  subst e0 e1 e2 e3 e4 e5 e6 e7 e8
  exact ⟨n, l, d, r, p, s, t, a, k, ka, b, m, mb, ks, os, rfl, hk, hm, hk2, hm2⟩

theorem sixl {α : Type} {cs : Array α} (h : cs.toList.length = 6) : ∃ a b c d e f, cs = #[a, b, c, d, e, f] := by
  obtain ⟨l⟩ := cs
  match l, h with
  | [a, b, c, d, e, f], _ => exact ⟨a, b, c, d, e, f, rfl⟩

theorem config {H : Type} {enc : TypeId × Value → H} {w : World} {base : Nat} {spare : Nat → Bool} {held : Bool} {cs : Array Value} (h : Reads enc Tryz.prog w base spare held 45 cs.toList) :
    ∃ n l d r p s : Int, cs = #[.int .i64 n, .int .i64 l, .int .i64 d, .int .i64 r, .int .i64 p, .int .i64 s] := by
  obtain ⟨hl, g⟩ := h.struct Tryz.underlying45
  rw [cells_config] at hl
  obtain ⟨c0, c1, c2, c3, c4, c5, rfl⟩ := sixl hl
  obtain ⟨n, e0, _⟩ := (g 0 _ rfl).int Tryz.underlying2
  obtain ⟨l, e1, _⟩ := (g 1 _ rfl).int Tryz.underlying2
  obtain ⟨d, e2, _⟩ := (g 2 _ rfl).int Tryz.underlying2
  obtain ⟨r, e3, _⟩ := (g 3 _ rfl).int Tryz.underlying2
  obtain ⟨p, e4, _⟩ := (g 4 _ rfl).int Tryz.underlying2
  obtain ⟨s, e5, _⟩ := (g 5 _ rfl).int Tryz.underlying2
  simp [cells_int] at e0 e1 e2 e3 e4 e5
  subst e0 e1 e2 e3 e4 e5
  exact ⟨n, l, d, r, p, s, rfl⟩

theorem cells_bool : Tryz.prog.cellsOf 4 = 1 := by kernel_rfl

end Go.Proofs.YtnocmfhlmpgbmaaGreat.Rd
