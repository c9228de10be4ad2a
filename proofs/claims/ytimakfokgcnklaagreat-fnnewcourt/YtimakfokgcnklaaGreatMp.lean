/-
  Seals that are merged: plain facts on lists.
-/
import Derived.Test.YtimakfokgcnklaaGreatSb
namespace Go.Proofs.YtimakfokgcnklaaGreat.Mg
open Sb (S3 es)
set_option linter.unusedVariables false
set_option linter.unusedSimpArgs false

/-- Is one ahead of a round and a node? -/
def ah (a : S3) (r k : Int) : Bool := decide (a.1 < r) || (decide (a.1 = r) && decide (a.2.1 < k))
def AH (a b : S3) : Prop := a.1 < b.1 ∨ (a.1 = b.1 ∧ a.2.1 < b.2.1)
theorem ah_iff {a b : S3} : ah a b.1 b.2.1 = true ↔ AH a b := by
  unfold ah AH; simp
theorem AH.trans {a b c : S3} (h : AH a b) (q : AH b c) : AH a c := by unfold AH at *; omega
theorem AH.irrefl {a : S3} : ¬ AH a a := by unfold AH; omega
theorem AH.asymm {a b : S3} (h : AH a b) : ¬ AH b a := by unfold AH at *; omega
theorem AH.total {a b : S3} : AH a b ∨ AH b a ∨ (a.1 = b.1 ∧ a.2.1 = b.2.1) := by unfold AH; omega

/-- One right seal more: what is gathered when so many have been gone through, and whether it has been put. -/
def pg (l : List S3) (s : S3) : Nat → List S3 × Bool
  | 0 => ([], false)
  | k + 1 =>
    let q := pg l s k
    let here := !q.2 && !ah (es l k) s.1 s.2.1
    ((if here then q.1 ++ [s] else q.1) ++ (if es l k = s then [] else [es l k]), q.2 || here)
def put (l : List S3) (s : S3) : List S3 := (pg l s l.length).1 ++ if (pg l s l.length).2 then [] else [s]

/-- In order, no two alike. -/
def Up (l : List S3) : Prop := l.Pairwise AH
theorem Up.snoc {l : List S3} {s : S3} (h : Up l) (q : ∀ x ∈ l, AH x s) : Up (l ++ [s]) := by
  unfold Up
  rw [List.pairwise_append]
  exact ⟨h, List.pairwise_singleton _ _, fun a ha b hb => by rw [List.mem_singleton] at hb; subst hb; exact q a ha⟩
/-- Two that are in order and hold the same are one. -/
theorem Up.ext {a b : List S3} (ha : Up a) (hb : Up b) (h : ∀ x, x ∈ a ↔ x ∈ b) : a = b := by
  induction a generalizing b with
  | nil =>
    cases b with
    | nil => rfl
    | cons y b => exact absurd ((h y).2 (List.mem_cons_self ..)) (by simp)
  | cons x a ih =>
    cases b with
    | nil => exact absurd ((h x).1 (List.mem_cons_self ..)) (by simp)
    | cons y b =>
      have hx := List.pairwise_cons.1 ha
      have hy := List.pairwise_cons.1 hb
      have e : x = y := by
        rcases List.mem_cons.1 ((h x).1 (List.mem_cons_self ..)) with e | e
        · exact e
        · rcases List.mem_cons.1 ((h y).2 (List.mem_cons_self ..)) with e' | e'
          · exact e'.symm
          · exact absurd (hx.1 y e') (hy.1 x e).asymm
      subst e
      congr 1
      refine ih hx.2 hy.2 fun z => ?_
      constructor
      · intro hz
        rcases List.mem_cons.1 ((h z).1 (List.mem_cons_of_mem _ hz)) with e | e
        · subst e; exact absurd (hx.1 z hz) AH.irrefl
        · exact e
      · intro hz
        rcases List.mem_cons.1 ((h z).2 (List.mem_cons_of_mem _ hz)) with e | e
        · subst e; exact absurd (hy.1 z hz) AH.irrefl
        · exact e

section
variable {R : S3 → Bool}
/-- What tells a right one: its round and its node. -/
def Tells (R : S3 → Bool) : Prop := ∀ a b, R a = true → R b = true → a.1 = b.1 → a.2.1 = b.2.1 → a = b

theorem take_snoc {l : List S3} {k : Nat} (h : k < l.length) : l.take (k + 1) = l.take k ++ [es l k] := by
  rw [List.take_add_one]
  simp [es, List.getD, h]
theorem es_mem {l : List S3} {k : Nat} (h : k < l.length) : es l k ∈ l := by
  simp [es, List.getD, h]

/-- Behind k of a list in order: those, and s where it belongs. -/
theorem pg_spec {l : List S3} {s : S3} (hT : Tells R) (hU : Up l) (hR : ∀ x ∈ l, R x = true) (hs : R s = true) (k : Nat) (hk : k ≤ l.length) :
    Up (pg l s k).1 ∧ (∀ x, x ∈ (pg l s k).1 ↔ (x ∈ l.take k ∧ x ≠ s) ∨ ((pg l s k).2 = true ∧ x = s)) ∧ ((pg l s k).2 = true ↔ ∃ j, j < k ∧ ¬ AH (es l j) s) := by
  induction k with
  | zero => exact ⟨List.Pairwise.nil, fun x => by simp [pg], by simp [pg]⟩
  | succ k ih =>
    obtain ⟨h1, h2, h3⟩ := ih (by omega)
    have hkl : k < l.length := by omega
    have hm := es_mem hkl
    have ahead : ∀ x, x ∈ l.take k → AH x (es l k) := fun x hx => by
      have hp : Up (l.take (k + 1)) := List.Pairwise.sublist (List.take_sublist _ _) hU
      rw [take_snoc hkl] at hp
      exact (List.pairwise_append.1 hp).2.2 x hx (es l k) (List.mem_singleton.2 rfl)
    have tk : ∀ x, x ∈ l.take (k + 1) ↔ x ∈ l.take k ∨ x = es l k := fun x => by rw [take_snoc hkl]; simp
    have ex : (∃ j, j < k + 1 ∧ ¬ AH (es l j) s) ↔ (∃ j, j < k ∧ ¬ AH (es l j) s) ∨ ¬ AH (es l k) s := by
      constructor
      · rintro ⟨j, hj, q⟩
        rcases Nat.lt_or_ge j k with h | h
        · exact .inl ⟨j, h, q⟩
        · obtain rfl : j = k := by omega
          exact .inr q
      · rintro (⟨j, hj, q⟩ | q)
        · exact ⟨j, by omega, q⟩
        · exact ⟨k, by omega, q⟩
    by_cases hp : (pg l s k).2 = true
    · -- it has been put: the rest follows
      have e : pg l s (k + 1) = ((pg l s k).1 ++ (if es l k = s then [] else [es l k]), true) := by simp [pg, hp]
      obtain ⟨j, hj, hq⟩ := h3.1 hp
      have hsk : AH s (es l k) ∨ es l k = s := by
        have hjk : AH (es l j) (es l k) := ahead _ (by rw [List.mem_take_iff_getElem]; exact ⟨j, by omega, by simp [es, List.getD, show j < l.length by omega]⟩)
        rcases AH.total (a := es l j) (b := s) with q | q | q
        · exact absurd q hq
        · exact .inl (q.trans hjk)
        · left
          have := hT _ _ (hR _ (es_mem (show j < l.length by omega))) hs q.1 q.2
          rw [← this]; exact hjk
      rw [e]
      by_cases hx : es l k = s
      · have hj' : AH (es l j) s := by
          rw [← hx]
          exact ahead _ (by rw [List.mem_take_iff_getElem]; exact ⟨j, by omega, by simp [es, List.getD, show j < l.length by omega]⟩)
        exact absurd hj' hq
      · have hsk' : AH s (es l k) := hsk.resolve_right hx
        simp only [if_neg hx]
        refine ⟨h1.snoc fun x hx' => ?_, fun x => ?_, ?_⟩
        · rcases (h2 x).1 hx' with ⟨a, _⟩ | ⟨_, rfl⟩
          · exact ahead x a
          · exact hsk'
        · rw [List.mem_append, List.mem_singleton, h2, tk, hp]
          constructor
          · rintro ((⟨a, b⟩ | ⟨_, rfl⟩) | rfl)
            · exact .inl ⟨.inl a, b⟩
            · exact .inr ⟨by simp, rfl⟩
            · exact .inl ⟨.inr rfl, hx⟩
          · rintro (⟨a | rfl, b⟩ | ⟨_, rfl⟩)
            · exact .inl (.inl ⟨a, b⟩)
            · exact .inr rfl
            · exact .inl (.inr ⟨by simp, rfl⟩)
        · rw [ex]; exact ⟨fun _ => .inl ⟨j, hj, hq⟩, fun _ => by simp⟩
    · have hpf : (pg l s k).2 = false := by simpa using hp
      have hall : ∀ j, j < k → AH (es l j) s := fun j hj => by
        by_cases q : AH (es l j) s
        · exact q
        · exact absurd (h3.2 ⟨j, hj, q⟩) hp
      have hex : (∃ j, j < k ∧ ¬ AH (es l j) s) ↔ False := ⟨fun ⟨j, hj, q⟩ => q (hall j hj), fun h => h.elim⟩
      have mem_ahead : ∀ x, x ∈ l.take k → AH x s := fun x hx => by
        obtain ⟨j, hj, e⟩ := List.mem_take_iff_getElem.1 hx
        have := hall j (by omega)
        simp only [es, List.getD, show j < l.length by omega, List.getElem?_eq_getElem, Option.getD_some] at this
        rw [← e]; exact this
      by_cases ha : AH (es l k) s
      · have hah : ah (es l k) s.1 s.2.1 = true := ah_iff.2 ha
        have hne : es l k ≠ s := fun e => by rw [e] at ha; exact AH.irrefl ha
        have e : pg l s (k + 1) = ((pg l s k).1 ++ [es l k], false) := by simp [pg, hpf, hah, hne]
        rw [e]
        refine ⟨h1.snoc fun x hx' => ?_, fun x => ?_, ?_⟩
        · rcases (h2 x).1 hx' with ⟨a, _⟩ | ⟨a, _⟩
          · exact ahead x a
          · exact absurd a hp
        · rw [List.mem_append, List.mem_singleton, h2, tk, hpf]
          constructor
          · rintro ((⟨a, b⟩ | ⟨a, _⟩) | rfl)
            · exact .inl ⟨.inl a, b⟩
            · cases a
            · exact .inl ⟨.inr rfl, hne⟩
          · rintro (⟨a | rfl, b⟩ | ⟨a, _⟩)
            · exact .inl (.inl ⟨a, b⟩)
            · exact .inr rfl
            · cases a
        · rw [ex, hex]; simp [ha]
      · have hah : ah (es l k) s.1 s.2.1 = false := by
          cases h : ah (es l k) s.1 s.2.1
          · rfl
          · exact absurd (ah_iff.1 h) ha
        have up1 : Up ((pg l s k).1 ++ [s]) := h1.snoc fun x hx' => by
          rcases (h2 x).1 hx' with ⟨a, _⟩ | ⟨a, _⟩
          · exact mem_ahead x a
          · exact absurd a hp
        by_cases hx : es l k = s
        · have e : pg l s (k + 1) = ((pg l s k).1 ++ [s], true) := by
            rw [hx] at hah
            simp [pg, hpf, hx]
            exact hah
          rw [e]
          refine ⟨up1, fun x => ?_, ?_⟩
          · rw [List.mem_append, List.mem_singleton, h2, tk, hpf, hx]
            constructor
            · rintro ((⟨a, b⟩ | ⟨a, _⟩) | rfl)
              · exact .inl ⟨.inl a, b⟩
              · cases a
              · exact .inr ⟨rfl, rfl⟩
            · rintro (⟨a | rfl, b⟩ | ⟨_, rfl⟩)
              · exact .inl (.inl ⟨a, b⟩)
              · exact .inr rfl
              · exact .inr rfl
          · rw [ex]; simp [ha]
        · have e : pg l s (k + 1) = (((pg l s k).1 ++ [s]) ++ [es l k], true) := by simp [pg, hpf, hah, hx]
          rw [e]
          have hsk : AH s (es l k) := by
            rcases AH.total (a := es l k) (b := s) with q | q | q
            · exact absurd q ha
            · exact q
            · exact absurd (hT _ _ (hR _ hm) hs q.1 q.2) hx
          refine ⟨up1.snoc fun x hx' => ?_, fun x => ?_, ?_⟩
          · rcases List.mem_append.1 hx' with a | a
            · rcases (h2 x).1 a with ⟨a, _⟩ | ⟨a, _⟩
              · exact ahead x a
              · exact absurd a hp
            · rw [List.mem_singleton.1 a]; exact hsk
          · rw [List.mem_append, List.mem_append, List.mem_singleton, List.mem_singleton, h2, tk, hpf]
            constructor
            · rintro (((⟨a, b⟩ | ⟨a, _⟩) | rfl) | rfl)
              · exact .inl ⟨.inl a, b⟩
              · cases a
              · exact .inr ⟨rfl, rfl⟩
              · exact .inl ⟨.inr rfl, hx⟩
            · rintro (⟨a | rfl, b⟩ | ⟨_, rfl⟩)
              · exact .inl (.inl (.inl ⟨a, b⟩))
              · exact .inr rfl
              · exact .inl (.inr rfl)
          · rw [ex]; simp [ha]

theorem put_spec {l : List S3} {s : S3} (hT : Tells R) (hU : Up l) (hR : ∀ x ∈ l, R x = true) (hs : R s = true) :
    Up (put l s) ∧ (∀ x, x ∈ put l s ↔ x ∈ l ∨ x = s) := by
  obtain ⟨h1, h2, h3⟩ := pg_spec hT hU hR hs l.length (Nat.le_refl _)
  rw [List.take_length] at h2
  unfold put
  by_cases hp : (pg l s l.length).2 = true
  · rw [if_pos hp, List.append_nil]
    refine ⟨h1, fun x => ?_⟩
    rw [h2, hp]
    by_cases e : x = s
    · simp [e]
    · simp [e]
  · rw [if_neg hp]
    refine ⟨h1.snoc fun x hx => ?_, fun x => ?_⟩
    · rcases (h2 x).1 hx with ⟨a, _⟩ | ⟨a, _⟩
      · obtain ⟨j, hj, e⟩ := List.mem_iff_getElem.1 a
        by_cases q : AH x s
        · exact q
        · exact absurd (h3.2 ⟨j, hj, by simpa [es, List.getD, hj, e] using q⟩) hp
      · exact absurd a hp
    · rw [List.mem_append, List.mem_singleton, h2]
      have hpf : (pg l s l.length).2 = false := by simpa using hp
      rw [hpf]
      by_cases e : x = s
      · simp [e]
      · simp [e]

/-- All that are right, each once, in order. -/
def mg (R : S3 → Bool) (ss : List S3) : Nat → List S3
  | 0 => []
  | k + 1 => if R (es ss k) then put (mg R ss k) (es ss k) else mg R ss k
theorem mg_spec (hT : Tells R) {ss : List S3} (k : Nat) (hk : k ≤ ss.length) : Up (mg R ss k) ∧ ∀ x, x ∈ mg R ss k ↔ x ∈ ss.take k ∧ R x = true := by
  induction k with
  | zero => exact ⟨List.Pairwise.nil, fun x => by simp [mg]⟩
  | succ k ih =>
    obtain ⟨h1, h2⟩ := ih (by omega)
    have hkl : k < ss.length := by omega
    unfold mg
    by_cases h : R (es ss k) = true
    · rw [if_pos h]
      obtain ⟨q1, q2⟩ := put_spec hT h1 (fun x hx => ((h2 x).1 hx).2) h
      refine ⟨q1, fun x => ?_⟩
      rw [q2, h2, take_snoc hkl, List.mem_append, List.mem_singleton]
      constructor
      · rintro (⟨a, b⟩ | rfl)
        · exact ⟨.inl a, b⟩
        · exact ⟨.inr rfl, h⟩
      · rintro ⟨a | rfl, b⟩
        · exact .inl ⟨a, b⟩
        · exact .inr rfl
    · rw [if_neg h]
      refine ⟨h1, fun x => ?_⟩
      rw [h2, take_snoc hkl, List.mem_append, List.mem_singleton]
      constructor
      · rintro ⟨a, b⟩; exact ⟨.inl a, b⟩
      · rintro ⟨a | rfl, b⟩
        · exact ⟨a, b⟩
        · exact absurd b h
def MG (R : S3 → Bool) (ss : List S3) : List S3 := mg R ss ss.length
theorem MG_up (hT : Tells R) (ss : List S3) : Up (MG R ss) := (mg_spec hT ss.length (Nat.le_refl _)).1
theorem MG_mem (hT : Tells R) {ss : List S3} {x : S3} : x ∈ MG R ss ↔ x ∈ ss ∧ R x = true := by
  have := (mg_spec hT ss.length (Nat.le_refl _)).2 x
  rwa [List.take_length] at this
/-- Whatever is in order and holds just these is it. -/
theorem MG_of (hT : Tells R) {ss l : List S3} (h : Up l) (q : ∀ x, x ∈ l ↔ x ∈ ss ∧ R x = true) : l = MG R ss :=
  h.ext (MG_up hT ss) fun x => by rw [q, MG_mem hT]
end

end Go.Proofs.YtimakfokgcnklaaGreat.Mg
