/-
  What the laws on merged seals come to: plain facts.
-/
import Derived.Test.YtdjeffjjijkhbaaMg3
namespace Go.Proofs.Ytdjeffjjijkhbaa.Mg
open Sb (S3 es)
set_option linter.unusedVariables false
set_option linter.unusedSimpArgs false

theorem MG_comm {R : S3 → Bool} (hT : Tells R) (a b : List S3) : MG R (b ++ a) = MG R (a ++ b) :=
  MG_of hT (MG_up hT _) fun x => by
    rw [MG_mem hT, List.mem_append, List.mem_append]
    constructor
    · rintro ⟨h | h, q⟩ <;> exact ⟨by simp [h], q⟩
    · rintro ⟨h | h, q⟩ <;> exact ⟨by simp [h], q⟩
theorem MG_again {R : S3 → Bool} (hT : Tells R) (a b : List S3) : MG R (MG R (a ++ b) ++ a) = MG R (a ++ b) :=
  (MG_of hT (MG_up hT _) fun x => by
    rw [List.mem_append, MG_mem hT, List.mem_append]
    constructor
    · rintro ⟨h, q⟩; exact ⟨.inl ⟨h, q⟩, q⟩
    · rintro ⟨h | h, q⟩
      · exact h
      · exact ⟨.inl h, q⟩).symm
theorem MG_idem {R : S3 → Bool} (hT : Tells R) (a : List S3) : MG R (MG R a) = MG R a :=
  (MG_of hT (MG_up hT _) fun x => by
    rw [MG_mem hT]
    exact ⟨fun h => ⟨h, h.2⟩, fun h => h.1⟩).symm
theorem up_es {l : List S3} (h : Up l) {i j : Nat} (hij : i < j) (hj : j < l.length) : AH (es l i) (es l j) := by
  have := List.pairwise_iff_getElem.1 h i j (by omega) hj hij
  simpa [es, List.getD, hj, show i < l.length by omega] using this
theorem MG_right {R : S3 → Bool} (hT : Tells R) {ss : List S3} {i : Nat} (h : i < (MG R ss).length) : R (es (MG R ss) i) = true := ((MG_mem hT).1 (es_mem h)).2

theorem Up.sub {a b : List S3} (ha : Up a) (hb : Up b) (h : ∀ x ∈ a, x ∈ b) : a.Sublist b := by
  induction b generalizing a with
  | nil =>
    cases a with
    | nil => exact List.Sublist.refl _
    | cons x a => exact absurd (h x (List.mem_cons_self ..)) (by simp)
  | cons y b ih =>
    cases a with
    | nil => exact List.nil_sublist _
    | cons x a =>
      have hx := List.pairwise_cons.1 ha
      have hy := List.pairwise_cons.1 hb
      by_cases e : x = y
      · subst e
        refine List.Sublist.cons_cons x (ih hx.2 hy.2 fun z hz => ?_)
        rcases List.mem_cons.1 (h z (List.mem_cons_of_mem _ hz)) with e | e
        · subst e; exact absurd (hx.1 z hz) AH.irrefl
        · exact e
      · refine List.Sublist.cons y (ih ha hy.2 fun z hz => ?_)
        have xb : x ∈ b := by
          rcases List.mem_cons.1 (h x (List.mem_cons_self ..)) with q | q
          · exact absurd q e
          · exact q
        rcases List.mem_cons.1 (h z hz) with q | q
        · subst q
          rcases List.mem_cons.1 hz with q | q
          · exact absurd q.symm e
          · exact absurd (hx.1 z q) (hy.1 x xb).asymm
        · exact q
theorem cnt_filter (l : List S3) (r : Int) (k : Nat) (hk : k ≤ l.length) : cnt l r k = ((l.take k).filter fun x => decide (x.1 = r)).length := by
  induction k with
  | zero => simp [cnt]
  | succ k ih =>
    rw [take_snoc (by omega), List.filter_append, List.length_append, ← ih (by omega), cnt]
    by_cases h : (es l k).1 = r
    · simp [h]
    · simp [h]
theorem cnt_sub {a b : List S3} (ha : Up a) (hb : Up b) (h : ∀ x ∈ a, x ∈ b) (r : Int) : cnt a r a.length ≤ cnt b r b.length := by
  rw [cnt_filter _ _ _ (Nat.le_refl _), cnt_filter _ _ _ (Nat.le_refl _), List.take_length, List.take_length]
  exact ((ha.sub hb h).filter _).length_le
theorem CF_idem (zs : List Int) (n : Nat) (A : List S3) (r : Int) : CF zs n (MG (RT zs n) A) r = CF zs n A r := by unfold CF; rw [MG_idem (rt_tells zs n)]
theorem CF_more (zs : List Int) (n : Nat) (A B : List S3) (r : Int) : CF zs n A r ≤ CF zs n (MG (RT zs n) (A ++ B)) r := by
  rw [CF_idem]
  refine cnt_sub (MG_up (rt_tells zs n) _) (MG_up (rt_tells zs n) _) (fun x hx => ?_) r
  have := (MG_mem (rt_tells zs n)).1 hx
  exact (MG_mem (rt_tells zs n)).2 ⟨by simp [this.1], this.2⟩
theorem PO_idem (zs : List Int) (n : Nat) (f : Int) (A : List S3) (r : Int) : PO zs n f (MG (RT zs n) A) r = PO zs n f A r := by unfold PO; rw [CF_idem]
theorem PO_iff {zs : List Int} {n : Nat} {f : Int} {A : List S3} {r : Int} : PO zs n f A r = true ↔ 0 ≤ f ∧ f < (CF zs n A r : Nat) := by unfold PO; simp
theorem PO_more {zs : List Int} {n : Nat} {f : Int} {A B : List S3} {r : Int} (h : PO zs n f A r = true) : PO zs n f (MG (RT zs n) (A ++ B)) r = true := by
  rw [PO_iff] at h ⊢
  have := CF_more zs n A B r
  omega
theorem PO_less {zs : List Int} {n : Nat} {f : Int} {A : List S3} {r : Int} (h : PO zs n (f + 1) A r = true) (h0 : 0 ≤ f) : PO zs n f A r = true := by
  rw [PO_iff] at h ⊢
  omega

theorem bst_spec (P : Int → Bool) (fr : Int) (l : List S3) (k : Nat) :
    (bst P fr l k = 0 ∨ ∃ j, j < k ∧ bst P fr l k = (es l j).1 ∧ fr ≤ (es l j).1 ∧ P (es l j).1 = true) ∧ 0 ≤ bst P fr l k ∧ ∀ j, j < k → fr ≤ (es l j).1 → P (es l j).1 = true → (es l j).1 ≤ bst P fr l k := by
  induction k with
  | zero => exact ⟨.inl rfl, Int.le_refl _, fun j hj => by omega⟩
  | succ k ih =>
    obtain ⟨h1, h2, h3⟩ := ih
    by_cases q : fr ≤ (es l k).1 ∧ bst P fr l k < (es l k).1 ∧ P (es l k).1 = true
    · have e : bst P fr l (k + 1) = (es l k).1 := bst_yes rfl q
      rw [e]
      refine ⟨.inr ⟨k, by omega, rfl, q.1, q.2.2⟩, by omega, fun j hj a b => ?_⟩
      rcases Nat.lt_or_ge j k with h | h
      · have := h3 j h a b; omega
      · obtain rfl : j = k := by omega
        exact Int.le_refl _
    · have e : bst P fr l (k + 1) = bst P fr l k := bst_no rfl q
      rw [e]
      refine ⟨?_, h2, fun j hj a b => ?_⟩
      · rcases h1 with h1 | ⟨j, hj, h⟩
        · exact .inl h1
        · exact .inr ⟨j, by omega, h⟩
      · rcases Nat.lt_or_ge j k with h | h
        · exact h3 j h a b
        · obtain rfl : j = k := by omega
          by_cases c : bst P fr l j < (es l j).1
          · exact absurd ⟨a, c, b⟩ q
          · omega
theorem BR_idem (zs : List Int) (n : Nat) (f : Int) (A : List S3) (fr : Int) : BR zs n f (MG (RT zs n) A) fr = BR zs n f A fr := by unfold BR; rw [MG_idem (rt_tells zs n)]
/-- The best round is none, or one from there on that is proved. -/
theorem BR_ok (zs : List Int) (n : Nat) (f : Int) (A : List S3) (fr : Int) : BR zs n f A fr = 0 ∨ (fr ≤ BR zs n f A fr ∧ PO zs n f A (BR zs n f A fr) = true) := by
  obtain ⟨h1, _, _⟩ := bst_spec (PO zs n f (MG (RT zs n) A)) fr (MG (RT zs n) A) (MG (RT zs n) A).length
  rcases h1 with h | ⟨j, hj, e, a, b⟩
  · exact .inl h
  · right
    unfold BR
    rw [e]
    rw [PO_idem] at b
    exact ⟨a, b⟩
theorem BR_more (zs : List Int) (n : Nat) (f : Int) (A B : List S3) (fr : Int) : BR zs n f A fr ≤ BR zs n f (MG (RT zs n) (A ++ B)) fr := by
  rw [BR_idem]
  obtain ⟨h1, _, _⟩ := bst_spec (PO zs n f (MG (RT zs n) A)) fr (MG (RT zs n) A) (MG (RT zs n) A).length
  obtain ⟨_, q2, q3⟩ := bst_spec (PO zs n f (MG (RT zs n) (A ++ B))) fr (MG (RT zs n) (A ++ B)) (MG (RT zs n) (A ++ B)).length
  rcases h1 with h | ⟨j, hj, e, a, b⟩
  · unfold BR; rw [h]; exact q2
  · unfold BR
    rw [e]
    have hm := (MG_mem (rt_tells zs n)).1 (es_mem hj)
    have hm2 : es (MG (RT zs n) A) j ∈ MG (RT zs n) (A ++ B) := (MG_mem (rt_tells zs n)).2 ⟨by simp [hm.1], hm.2⟩
    obtain ⟨i, hi, ei⟩ := List.mem_iff_getElem.1 hm2
    have e2 : es (MG (RT zs n) (A ++ B)) i = es (MG (RT zs n) A) j := by rw [← ei]; simp [es, List.getD, hi]
    have := q3 i hi (by rw [e2]; exact a) (by rw [e2]; rw [PO_idem] at b; exact PO_more b)
    rw [e2] at this
    exact this

end Go.Proofs.Ytdjeffjjijkhbaa.Mg
