/-
  The Go function spec.Sorted: a list into which one after the other is put at its place: the sorted list, in new memory.
-/
import Derived.Test.YtnocmfhlmpgbmaaGreatSor
import Derived.Deep.RegionLaw
namespace Go.Proofs.YtnocmfhlmpgbmaaGreat.Ow
open Go.ChangeShapes Go.WideShapes Go.ChangeAt Go.RowKit Go.Sort
open Ls (el Row)
set_option linter.unusedVariables false

/-- Where x goes: behind the last one of the first k that is not greater. -/
def pos (xs : List Int) (x : Int) : Nat → Nat
  | 0 => 0
  | k + 1 => if x < el xs k then pos xs x k else k + 1
def put (xs : List Int) (x : Int) : List Int := xs.take (pos xs x xs.length) ++ [x] ++ xs.drop (pos xs x xs.length)
/-- The first k, put one after the other. -/
def insK (zs : List Int) : Nat → List Int
  | 0 => []
  | k + 1 => put (insK zs k) (el zs k)

theorem pos_yes {xs : List Int} {x : Int} {k : Nat} (h : x < el xs k) : pos xs x (k + 1) = pos xs x k := by rw [pos, if_pos h]
theorem pos_no {xs : List Int} {x : Int} {k : Nat} (h : ¬ x < el xs k) : pos xs x (k + 1) = k + 1 := by rw [pos, if_neg h]
theorem pos_le (xs : List Int) (x : Int) : ∀ k, pos xs x k ≤ k
  | 0 => Nat.le_refl _
  | k + 1 => by
    have := pos_le xs x k
    by_cases h : x < el xs k
    · rw [pos_yes h]; omega
    · rw [pos_no h]; exact Nat.le_refl _
theorem pos_above (xs : List Int) (x : Int) : ∀ k j, pos xs x k ≤ j → j < k → x < el xs j
  | 0, j => by omega
  | k + 1, j => by
    intro h1 h2
    by_cases h : x < el xs k
    · rw [pos_yes h] at h1
      by_cases e : j = k
      · rw [e]; exact h
      · exact pos_above xs x k j h1 (by omega)
    · rw [pos_no h] at h1; omega
theorem pos_at (xs : List Int) (x : Int) : ∀ k, 0 < pos xs x k → el xs (pos xs x k - 1) ≤ x
  | 0 => by intro h; exact absurd h (by simp [pos])
  | k + 1 => by
    intro h0
    by_cases h : x < el xs k
    · rw [pos_yes h] at h0 ⊢; exact pos_at xs x k h0
    · rw [pos_no h]; simpa using h

theorem put_len (xs : List Int) (x : Int) : (put xs x).length = xs.length + 1 := by
  have := pos_le xs x xs.length
  simp [put]; omega
theorem put_perm (xs : List Int) (x : Int) : (put xs x).Perm (x :: xs) := by
  unfold put
  rw [List.append_assoc]
  have h := List.perm_middle (a := x) (l₁ := xs.take (pos xs x xs.length)) (l₂ := xs.drop (pos xs x xs.length))
  rw [List.take_append_drop] at h
  exact h
theorem el_get {xs : List Int} {k : Nat} (h : k < xs.length) : el xs k = xs[k] := by simp [el, List.getD, h]
theorem put_sorted {xs : List Int} {x : Int} (h : xs.Pairwise (· ≤ ·)) : (put xs x).Pairwise (· ≤ ·) := by
  have hle := pos_le xs x xs.length
  have h1 : ∀ a ∈ xs.take (pos xs x xs.length), a ≤ x := by
    intro a ha
    obtain ⟨j, hj, rfl⟩ := List.mem_iff_getElem.1 ha
    rw [List.getElem_take]
    rw [List.length_take] at hj
    have hp := pos_at xs x xs.length (by omega)
    rw [el_get (by omega)] at hp
    by_cases e : j = pos xs x xs.length - 1
    · subst e; exact hp
    · exact Int.le_trans (List.pairwise_iff_getElem.1 h j (pos xs x xs.length - 1) (by omega) (by omega) (by omega)) hp
  have h2 : ∀ a ∈ xs.drop (pos xs x xs.length), x ≤ a := by
    intro a ha
    obtain ⟨j, hj, rfl⟩ := List.mem_iff_getElem.1 ha
    rw [List.getElem_drop]
    rw [List.length_drop] at hj
    have := pos_above xs x xs.length (pos xs x xs.length + j) (by omega) (by omega)
    rw [el_get (by omega)] at this
    exact Int.le_of_lt this
  unfold put
  rw [List.append_assoc, List.pairwise_append]
  refine ⟨h.sublist (List.take_sublist _ _), ?_, ?_⟩
  · rw [List.singleton_append, List.pairwise_cons]
    exact ⟨h2, h.sublist (List.drop_sublist _ _)⟩
  · intro a ha b hb
    rw [List.singleton_append, List.mem_cons] at hb
    rcases hb with rfl | hb
    · exact h1 a ha
    · exact Int.le_trans (h1 a ha) (h2 b hb)

theorem insK_len (zs : List Int) : ∀ k, (insK zs k).length = k
  | 0 => rfl
  | k + 1 => by rw [insK, put_len, insK_len zs k]
theorem insK_sorted (zs : List Int) : ∀ k, (insK zs k).Pairwise (· ≤ ·)
  | 0 => List.Pairwise.nil
  | k + 1 => put_sorted (insK_sorted zs k)
theorem insK_perm (zs : List Int) : ∀ k, k ≤ zs.length → (insK zs k).Perm (zs.take k)
  | 0 => by intro _; simp [insK]
  | k + 1 => by
    intro h
    rw [insK]
    refine (put_perm _ _).trans ?_
    have e : zs.take (k + 1) = zs.take k ++ [el zs k] := by
      rw [el_get (by omega), List.take_append_getElem]
    rw [e]
    refine ((insK_perm zs k (by omega)).cons _).trans ?_
    exact (List.perm_append_comm (l₁ := zs.take k) (l₂ := [el zs k])).symm
theorem srt_sorted (zs : List Int) : (srt zs).Pairwise (· ≤ ·) := by
  have h := List.pairwise_mergeSort (le := fun x y : Int => decide (x ≤ y)) (by intro a b c; simp; omega) (by intro a b; simp; omega) zs
  exact h.imp (by intro a b h; simpa using h)
theorem srt_perm (zs : List Int) : (srt zs).Perm zs := List.mergeSort_perm zs _
theorem sorted_one {xs ys : List Int} (h1 : xs.Pairwise (· ≤ ·)) (h2 : ys.Pairwise (· ≤ ·)) (hp : xs.Perm ys) : xs = ys :=
  List.Perm.eq_of_pairwise (le := fun a b : Int => a ≤ b) (fun a b _ _ h k => Int.le_antisymm h k) h1 h2 hp
theorem insK_srt {zs : List Int} {n : Nat} (hz : zs.length = n) : insK zs n = srt zs := by
  refine sorted_one (insK_sorted zs n) (srt_sorted zs) ?_
  have h := insK_perm zs n (by omega)
  rw [List.take_of_length_le (by omega)] at h
  exact h.trans (srt_perm zs).symm

theorem insK_step {zs : List Int} {k p : Nat} (h : p = pos (insK zs k) (el zs k) k) : insK zs (k + 1) = (insK zs k).take p ++ [el zs k] ++ (insK zs k).drop p := by
  rw [insK, put, insK_len, h]

end Go.Proofs.YtnocmfhlmpgbmaaGreat.Ow
