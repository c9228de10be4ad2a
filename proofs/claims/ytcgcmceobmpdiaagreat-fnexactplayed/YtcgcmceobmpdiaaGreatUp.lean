/-
  Those that are up: spec.l5Up, UpIn of impl and of spec by one answer, in new memory.
-/
import Derived.Test.YtcgcmceobmpdiaaGreatSWok
namespace Go.Proofs.YtcgcmceobmpdiaaGreat.Ow
open Go.ChangeShapes Go.WideShapes Go.ChangeAt Go.RowKit
open Ls (el Row)
set_option linter.unusedVariables false
theorem no_nil {v v' : Value} {p : Prop} {a : Addr} {n c : Nat} (h : v' = .slice none 0 0 ↔ v = .slice none 0 0 ∧ p) (hv : v = .slice (some a) n c) : v' ≠ .slice none 0 0 := fun e => by
  have := (h.1 e).1
  rw [hv] at this
  cases this

theorem one_new (w : World) (x : Int) (t : TypeId) (b : Nat) (hb : b = w.heap.size) : ∀ j u, (ints [x])[j]? = some u → (w.alloc (.cells #[.int .i64 x] t)).cell? ((⟨b, 0, none⟩ : Addr).add j) = some u := by
  intro j u hj
  subst hb
  match j, hj with
  | 0, hj =>
    rw [addr_add]
    simp [ints] at hj
    subst hj
    simp
  | j + 1, hj => simp [ints] at hj

theorem own_made (w : World) (B g : Nat) (hg : g = w.heap.size) (hB : B ≤ w.heap.size) : Own (w.alloc (.cells #[] 2)) B g 0 0 [] := by
  subst hg
  exact World.ownsRow_made w #[] 0 hB (by unfold maxLen; omega) rfl

/-- One more behind a row. -/
theorem more {w2 : World} {B k : Nat} {zs : List Int} {x : Int} {v2 : Value} (h : w2.ownsRow B 2 1 v2 (k + 1) (ints zs ++ ints [x])) (hn : v2 ≠ .slice none 0 0) :
    ∃ g2 c2, v2 = .slice (some ⟨g2, 0, none⟩) (k + 1) c2 ∧ Own w2 B g2 (k + 1) c2 (zs ++ [x]) := own_of h (by simp [ints]) hn

end Go.Proofs.YtcgcmceobmpdiaaGreat.Ow

namespace Go.Proofs.YtcgcmceobmpdiaaGreat.Wl
open Go.ChangeShapes Go.WideShapes Go.ChangeAt Go.RowKit
open Ls (el Row)
open Rm (Room)
open Ow (Has Own ints)
open Cf (cfg CP)
set_option linter.unusedVariables false
set_option linter.unusedSimpArgs false

/-- Those of the first k that are up. -/
def up (zs : List Int) : Nat → List Int
  | 0 => []
  | k + 1 => if el zs k = 0 then up zs k ++ [(k : Int)] else up zs k
theorem up_len (zs : List Int) (k : Nat) : (up zs k).length + bad zs k = k := by
  induction k with
  | zero => rfl
  | succ k ih => rw [up, bad]; split <;> (try rw [List.length_append, List.length_singleton]) <;> omega
theorem up_mem {zs : List Int} {k : Nat} {x : Int} (h : x ∈ up zs k) : ∃ j : Nat, x = j ∧ j < k ∧ el zs j = 0 := by
  induction k with
  | zero => cases h
  | succ k ih =>
    rw [up] at h
    split at h
    · rcases List.mem_append.1 h with h | h
      · obtain ⟨j, h1, h2, h3⟩ := ih h; exact ⟨j, h1, by omega, h3⟩
      · rw [List.mem_singleton] at h; exact ⟨k, h, by omega, by assumption⟩
    · obtain ⟨j, h1, h2, h3⟩ := ih h; exact ⟨j, h1, by omega, h3⟩

/-- The answer of UpIn. -/
def UL (n l d r p s : Int) (ks : List Int) (k : Nat) (os : List Int) (m : Nat) (t : Int) : List Int := if WO n l d r p s ks k os m t then up ks k else []

theorem smallU (n l d r p s : Int) (ks : List Int) (k : Nat) (os : List Int) (m : Nat) (t : Int) (hk : k ≤ 1048576) : (UL n l d r p s ks k os m t).length ≤ 1048576 := by
  have := up_len ks k
  unfold UL
  split
  · omega
  · simp

end Go.Proofs.YtcgcmceobmpdiaaGreat.Wl
