/-
  Slices of int64s: a copy of one; whether two are alike; each writes nothing that was there ahead of it.
-/
import Derived.Test.YtimakfokgcnklaaRows
import Derived.WalkKit
import Derived.ProofKit
import Derived.OpenShut
import Derived.Below
import Derived.WalkSmall
import Derived.Deep.QuietTactic
import Derived.BigQuiet
import Derived.Deep.OwnRows
namespace Go.Proofs.Ytimakfokgcnklaa.Ls
open Go.ChangeShapes Go.WideShapes Go.ChangeAt Go.RowKit
set_option linter.unusedVariables false

def el (zs : List Int) (k : Nat) : Int := zs.getD k 0
/-- A slice of int64s: its first n cells hold zs, below block B. -/
def Row (w : World) (B : Nat) (a : Option Addr) (n : Nat) (zs : List Int) : Prop :=
  zs.length = n ∧ (n = 0 ∨ ∃ b off, a = some ⟨b, off, none⟩ ∧ b < B ∧ ∀ k, k < n → w.cell? ⟨b, off + k, none⟩ = some (.int .i64 (el zs k)))

theorem Row.later {w w' : World} {B B' : Nat} {a : Option Addr} {n : Nat} {zs : List Int} (h : Row w B a n zs) (hb : Below B' w w') (hB : B ≤ B') : Row w' B a n zs := by
  obtain ⟨h1, h2⟩ := h
  refine ⟨h1, ?_⟩
  rcases h2 with h2 | ⟨b, off, e, hB1, hc⟩
  · exact .inl h2
  · exact .inr ⟨b, off, e, hB1, fun k hk => by rw [hb.cell (p := ⟨b, off + k, none⟩) (by simp; omega)]; exact hc k hk⟩

theorem Row.more {w : World} {B B' : Nat} {a : Option Addr} {n : Nat} {zs : List Int} (h : Row w B a n zs) (hB : B ≤ B') : Row w B' a n zs := by
  obtain ⟨h1, h2⟩ := h
  refine ⟨h1, ?_⟩
  rcases h2 with h2 | ⟨b, off, e, hB1, hc⟩
  · exact .inl h2
  · exact .inr ⟨b, off, e, by omega, hc⟩

theorem info : (Try.prog.info? 2).map (fun i => (i.zero, i.size, i.bytes)) = some (some (.int .i64 0), 1, 8) := by kernel_rfl

/-- What a copy holds when k of them have been copied. -/
def part (zs : List Int) (k i : Nat) : Value := .int .i64 (if i < k then el zs i else 0)

theorem row_new {w : World} {b n : Nat} {zs : List Int} (hz : zs.length = n) (h : w.rowIs b 2 n (part zs n)) : Row w w.heap.size (some ⟨b, 0, none⟩) n zs :=
  ⟨hz, .inr ⟨b, 0, rfl, h.lt, fun k hk => by rw [Nat.zero_add, h.cell hk, part, if_pos hk]⟩⟩

theorem row_step {w : World} {b n k : Nat} {zs : List Int} (h : w.rowIs b 2 n (part zs k)) : (w.setCell ⟨b, k, none⟩ (.int .i64 (el zs k))).rowIs b 2 n (part zs (k + 1)) :=
  (h.set k _).congr fun i hi => by
    unfold part
    by_cases e : i = k
    · subst e; simp
    · rw [if_neg e]
      by_cases h2 : i < k
      · rw [if_pos h2, if_pos (by omega)]
      · rw [if_neg h2, if_neg (by omega)]

end Go.Proofs.Ytimakfokgcnklaa.Ls
