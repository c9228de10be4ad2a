/-
  Neighbours that are alike, once (slices.Compact): plain facts.
-/
import Derived.Test.YtimakfokgcnklaaGreatSf2
import Derived.Test.YtimakfokgcnklaaGreatMg2
namespace Go.Proofs.YtimakfokgcnklaaGreat.Mi
open Sb (S3 es)
open Mg (AH Up Tells take_snoc es_mem)
set_option linter.unusedVariables false
set_option linter.unusedSimpArgs false

/-- Of the first k, each that is not as the one ahead of it. -/
def cmk (l : List S3) : Nat → List S3
  | 0 => []
  | k + 1 => if 1 ≤ k ∧ es l k = es l (k - 1) then cmk l k else cmk l k ++ [es l k]
theorem cmk_eq {l : List S3} {k : Nat} (h : 1 ≤ k) (e : es l k = es l (k - 1)) : cmk l (k + 1) = cmk l k := if_pos (c := 1 ≤ k ∧ es l k = es l (k - 1)) ⟨h, e⟩
theorem cmk_ne {l : List S3} {k : Nat} (h : ¬ (1 ≤ k ∧ es l k = es l (k - 1))) : cmk l (k + 1) = cmk l k ++ [es l k] := if_neg (c := 1 ≤ k ∧ es l k = es l (k - 1)) h
theorem cmk_len (l : List S3) (k : Nat) : (cmk l k).length ≤ k := by
  induction k with
  | zero => exact Nat.le_refl _
  | succ k ih =>
    by_cases h : 1 ≤ k ∧ es l k = es l (k - 1)
    · rw [cmk_eq h.1 h.2]; omega
    · rw [cmk_ne h]; simp; omega
theorem cmk_take {l : List S3} {k : Nat} (hk : k ≤ l.length) (h : ∀ j, 1 ≤ j → j < k → es l j ≠ es l (j - 1)) : cmk l k = l.take k := by
  induction k with
  | zero => simp [cmk]
  | succ k ih =>
    rw [cmk_ne fun q => h k q.1 (by omega) q.2, ih (by omega) fun j h1 h2 => h j h1 (by omega), take_snoc (by omega)]
theorem cmk_mem {l : List S3} {k : Nat} (hk : k ≤ l.length) (x : S3) : x ∈ cmk l k ↔ x ∈ l.take k := by
  induction k with
  | zero => simp [cmk]
  | succ k ih =>
    have hkl : k < l.length := by omega
    rw [take_snoc hkl, List.mem_append, List.mem_singleton, ← ih (by omega)]
    by_cases h : 1 ≤ k ∧ es l k = es l (k - 1)
    · rw [cmk_eq h.1 h.2]
      refine ⟨.inl, ?_⟩
      rintro (q | rfl)
      · exact q
      · rw [ih (by omega), h.2, List.mem_take_iff_getElem]
        exact ⟨k - 1, by omega, by simp [es, List.getD, show k - 1 < l.length by omega]⟩
    · rw [cmk_ne h, List.mem_append, List.mem_singleton]
theorem es_take {l : List S3} {k : Nat} {x : S3} (hx : x ∈ l.take k) : ∃ i, i < k ∧ i < l.length ∧ es l i = x := by
  obtain ⟨i, hi, e⟩ := List.mem_take_iff_getElem.1 hx
  exact ⟨i, by omega, by omega, by rw [← e]; simp [es, List.getD, show i < l.length by omega]⟩
/-- Of a list that is sorted, where the key tells: in order, none twice. -/
theorem cmk_up {R : S3 → Bool} (hT : Tells R) {l : List S3} (hR : ∀ x ∈ l, R x = true) (hS : l.Pairwise fun a b => ¬ AH b a) {k : Nat} (hk : k ≤ l.length) : Up (cmk l k) := by
  have srt : ∀ i j, i < j → j < l.length → ¬ AH (es l j) (es l i) := fun i j hij hj => by
    have := List.pairwise_iff_getElem.1 hS i j (by omega) hj hij
    simpa [es, List.getD, hj, show i < l.length by omega] using this
  induction k with
  | zero => exact List.Pairwise.nil
  | succ k ih =>
    by_cases h : 1 ≤ k ∧ es l k = es l (k - 1)
    · rw [cmk_eq h.1 h.2]; exact ih (by omega)
    · rw [cmk_ne h]
      refine (ih (by omega)).snoc fun x hx => ?_
      obtain ⟨i, hik, hil, rfl⟩ := es_take ((cmk_mem (by omega) x).1 hx)
      have n1 := srt i k hik (by omega)
      rcases Mg.AH.total (a := es l i) (b := es l k) with q | q | q
      · exact q
      · exact absurd q n1
      · exfalso
        by_cases e : i = k - 1
        · have := hT _ _ (hR _ (es_mem hil)) (hR _ (es_mem (show k < l.length by omega))) q.1 q.2
          exact h ⟨by omega, by rw [← e]; exact this.symm⟩
        · have n2 := srt i (k - 1) (by omega) (by omega)
          have n3 := srt (k - 1) k (by omega) (by omega)
          have q2 : (es l (k - 1)).1 = (es l k).1 ∧ (es l (k - 1)).2.1 = (es l k).2.1 := by unfold AH at n2 n3; omega
          have := hT _ _ (hR _ (es_mem (show k - 1 < l.length by omega))) (hR _ (es_mem (show k < l.length by omega))) q2.1 q2.2
          exact h ⟨by omega, this.symm⟩

/-- The second loop: kk are done, K have been gone through. -/
structure CI (l : List S3) (K kk : Nat) (q : List S3) : Prop where
  len : q.length = l.length
  done : q.take kk = cmk l K
  below : kk < K
  one : 1 ≤ kk
  high : ∀ i, K ≤ i + 1 → es q i = es l i
theorem CI.start {l : List S3} {k : Nat} (h1 : 1 ≤ k) (hk : k < l.length) (h : ∀ j, 1 ≤ j → j < k → es l j ≠ es l (j - 1)) (e : es l k = es l (k - 1)) : CI l (k + 1) k l :=
  ⟨rfl, by rw [cmk_eq h1 e, cmk_take (by omega) h], by omega, h1, fun _ _ => rfl⟩
theorem CI.skip {l q : List S3} {K kk : Nat} (h : CI l K kk q) (e : es l K = es l (K - 1)) : CI l (K + 1) kk q :=
  ⟨h.len, by rw [cmk_eq (by have := h.below; omega) e]; exact h.done, by have := h.below; omega, h.one, fun i hi => h.high i (by omega)⟩
theorem CI.keep {l q : List S3} {K kk : Nat} (h : CI l K kk q) (hK : K < l.length) (e : es l K ≠ es l (K - 1)) : CI l (K + 1) (kk + 1) (q.set kk (es l K)) := by
  have hkk := h.below
  have hq := h.len
  refine ⟨by simp [h.len], ?_, by omega, by omega, fun i hi => ?_⟩
  · rw [cmk_ne fun z => e z.2, ← h.done, List.take_add_one, List.take_set_of_le (Nat.le_refl _)]
    simp [show kk < q.length by omega]
  · rw [Sb.es_set _ _ _ _ (by omega), if_neg (by omega)]
    exact h.high i (by omega)
theorem CI.fin {l q : List S3} {K kk : Nat} (h : CI l K kk q) (hK : K ≤ l.length) : (cmk l K).length = kk := by
  rw [← h.done, List.length_take]
  have := h.below
  have := h.len
  omega

end Go.Proofs.YtimakfokgcnklaaGreat.Mi
