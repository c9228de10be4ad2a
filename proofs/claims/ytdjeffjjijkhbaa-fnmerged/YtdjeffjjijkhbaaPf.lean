/-
  Who signed: flags that are counted; the count of a round and the best round, told by flags (plain).
-/
import Derived.Test.YtdjeffjjijkhbaaMq
namespace Go.Proofs.Ytdjeffjjijkhbaa.Mi
open Sb (S3 es fl sl)
open Mg
open Sl (SR KO SO TT so_of so_no sr_no)
set_option linter.unusedVariables false
set_option linter.unusedSimpArgs false

/-- How many of the first k flags are set. -/
def ct (F : Nat → Bool) : Nat → Nat
  | 0 => 0
  | k + 1 => ct F k + if F k then 1 else 0
theorem ct_le (F : Nat → Bool) (k : Nat) : ct F k ≤ k := by
  induction k with
  | zero => exact Nat.le_refl _
  | succ k ih => unfold ct; split <;> omega
theorem ct_congr {F G : Nat → Bool} {k : Nat} (h : ∀ j, j < k → F j = G j) : ct F k = ct G k := by
  induction k with
  | zero => rfl
  | succ k ih => unfold ct; rw [ih fun j hj => h j (by omega), h k (by omega)]
theorem ct_none {F : Nat → Bool} {k : Nat} (h : ∀ j, j < k → F j = false) : ct F k = 0 := by
  induction k with
  | zero => rfl
  | succ k ih => unfold ct; rw [ih fun j hj => h j (by omega), h k (by omega)]; rfl
theorem ct_pos {F : Nat → Bool} {k : Nat} (h : 0 < ct F k) : ∃ j, F j = true := by
  by_cases q : ∃ j, F j = true
  · exact q
  · rw [ct_none fun j _ => by cases e : F j with | false => rfl | true => exact absurd ⟨j, e⟩ q] at h
    omega
theorem ct_mono {F G : Nat → Bool} {k : Nat} (h : ∀ j, F j = true → G j = true) : ct F k ≤ ct G k := by
  induction k with
  | zero => exact Nat.le_refl _
  | succ k ih =>
    unfold ct
    cases q : F k with
    | false => simp only [Bool.false_eq_true, if_false]; split <;> omega
    | true => rw [h k q]; simp only [if_true]; omega
theorem ct_yes {F : Nat → Bool} {k c : Nat} (h : ct F k = c) (q : F k = true) : ct F (k + 1) = c + 1 := by unfold ct; rw [h, q]; rfl
theorem ct_no {F : Nat → Bool} {k c : Nat} (h : ct F k = c) (q : F k = false) : ct F (k + 1) = c := by unfold ct; rw [h, q]; rfl
/-- One flag is set. -/
def up (F : Nat → Bool) (j : Nat) : Nat → Bool := fun i => F i || decide (i = j)
theorem ct_up {F : Nat → Bool} {j k : Nat} (h : F j = false) (hj : j < k) : ct (up F j) k = ct F k + 1 := by
  induction k with
  | zero => omega
  | succ k ih =>
    unfold ct
    by_cases e : j = k
    · subst e
      have hc : ct (up F j) j = ct F j := ct_congr fun i hi => by unfold up; rw [decide_eq_false (show ¬ i = j by omega), Bool.or_false]
      rw [hc, h]
      simp [up]
    · rw [ih (by omega)]
      have : up F j k = F k := by unfold up; rw [decide_eq_false (show ¬ k = j by omega), Bool.or_false]
      rw [this]; omega

/-- There is one for the round r by the node j. -/
def FF (R : S3 → Bool) (l : List S3) (r : Int) (j : Nat) : Bool := l.any fun x => R x && (decide (x.1 = r) && decide (x.2.1 = (j : Int)))
theorem ff_iff {R : S3 → Bool} {l : List S3} {r : Int} {j : Nat} : FF R l r j = true ↔ ∃ x, x ∈ l ∧ R x = true ∧ x.1 = r ∧ x.2.1 = (j : Int) := by
  simp [FF]
theorem ff_snoc (R : S3 → Bool) (l : List S3) (x : S3) (r : Int) (j : Nat) : FF R (l ++ [x]) r j = (FF R l r j || (R x && (decide (x.1 = r) && decide (x.2.1 = (j : Int))))) := by
  simp [FF, List.any_append]
theorem ff_no {R : S3 → Bool} {l : List S3} {x : S3} {r : Int} (h : R x = false ∨ x.1 ≠ r) (j : Nat) : FF R (l ++ [x]) r j = FF R l r j := by
  rw [ff_snoc]
  rcases h with h | h
  · rw [h]; simp
  · rw [decide_eq_false h]; simp
theorem ff_yes {R : S3 → Bool} {l : List S3} {x : S3} {r : Int} {i : Nat} (h : R x = true) (h1 : x.1 = r) (h2 : x.2.1 = (i : Int)) (j : Nat) : FF R (l ++ [x]) r j = up (FF R l r) i j := by
  rw [ff_snoc, h, decide_eq_true h1, h2]
  unfold up
  congr 1
  simp only [Bool.true_and]
  by_cases e : j = i
  · subst e; simp
  · rw [decide_eq_false e, decide_eq_false (by omega)]
theorem ff_nil (R : S3 → Bool) (r : Int) (j : Nat) : FF R [] r j = false := rfl

theorem take_es {l : List S3} {k : Nat} (h : k < l.length) : l.take (k + 1) = l.take k ++ [es l k] := take_snoc h

/-- In a list that is in order, those of a round are as many as its flags. -/
theorem cnt_ct {R : S3 → Bool} {l : List S3} (hU : Up l) (hR : ∀ x ∈ l, R x = true) (N : Nat) (hN : ∀ x ∈ l, 0 ≤ x.2.1 ∧ x.2.1 < (N : Int)) (r : Int) (k : Nat) (hk : k ≤ l.length) : cnt l r k = ct (FF R (l.take k) r) N := by
  induction k with
  | zero => rw [List.take_zero]; rw [ct_none fun j _ => ff_nil R r j]; rfl
  | succ k ih =>
    have hkl : k < l.length := by omega
    have hm := es_mem hkl
    have hsn : l.take (k + 1) = l.take k ++ [es l k] := take_es hkl
    have hp : Up (l.take k ++ [es l k]) := by rw [← hsn]; exact List.Pairwise.sublist (List.take_sublist _ _) hU
    rw [hsn]
    by_cases e : (es l k).1 = r
    · rw [cnt_yes (ih (by omega)) e]
      obtain ⟨h0, h1⟩ := hN _ hm
      have hj : (es l k).2.1 = (((es l k).2.1.toNat : Nat) : Int) := by omega
      rw [ct_congr fun j _ => ff_yes (hR _ hm) e hj j]
      rw [ct_up _ (by omega)]
      cases q : FF R (l.take k) r (es l k).2.1.toNat with
      | false => rfl
      | true =>
        obtain ⟨x, hx, _, h3, h4⟩ := ff_iff.1 q
        have := (List.pairwise_append.1 hp).2.2 x hx (es l k) (List.mem_singleton.2 rfl)
        unfold AH at this
        omega
    · rw [cnt_no (ih (by omega)) e]
      exact (ct_congr fun j _ => ff_no (.inr e) j).symm

theorem cf_ct (zs : List Int) (nk : Nat) (A : List S3) (r : Int) : CF zs nk A r = ct (FF (RT zs nk) A r) 16 := by
  have hT := rt_tells zs nk
  have hm := fun x => MG_mem (x := x) hT (ss := A)
  unfold CF
  rw [cnt_ct (MG_up hT A) (fun x hx => ((hm x).1 hx).2) 16 (fun x hx => by
    have q := rt_of ((hm x).1 hx).2
    have := (Sl.ko_of q.1).1
    omega) r _ (Nat.le_refl _), List.take_length]
  refine ct_congr fun j _ => ?_
  rw [Bool.eq_iff_iff, ff_iff, ff_iff]
  constructor
  · rintro ⟨x, hx, h1, h2⟩; exact ⟨x, ((hm x).1 hx).1, h1, h2⟩
  · rintro ⟨x, hx, h1, h2⟩; exact ⟨x, (hm x).2 ⟨hx, h1⟩, h1, h2⟩

/-- The count, by flags, of the first k. -/
theorem ff_step_no {R : S3 → Bool} {A : List S3} {k : Nat} {r : Int} (hk : k < A.length) (h : R (es A k) = false ∨ (es A k).1 ≠ r) (j : Nat) : FF R (A.take (k + 1)) r j = FF R (A.take k) r j := by
  rw [take_es hk]; exact ff_no h j
theorem ff_step_yes {R : S3 → Bool} {A : List S3} {k i : Nat} {r : Int} (hk : k < A.length) (h : R (es A k) = true) (h1 : (es A k).1 = r) (h2 : (es A k).2.1 = (i : Int)) (j : Nat) : FF R (A.take (k + 1)) r j = up (FF R (A.take k) r) i j := by
  rw [take_es hk]; exact ff_yes h h1 h2 j

/-- What is the best round is so by what it is. -/
theorem br_of {zs : List Int} {nk : Nat} {f : Int} {A : List S3} {fr v : Int} (hf : 0 ≤ f) (h0 : v = 0 ∨ (0 < v ∧ fr ≤ v ∧ f < (ct (FF (RT zs nk) A v) 16 : Nat))) (h1 : ∀ r, 0 < r → fr ≤ r → f < (ct (FF (RT zs nk) A r) 16 : Nat) → r ≤ v) : BR zs nk f A fr = v := by
  have hT := rt_tells zs nk
  have hb := BR_ok zs nk f A fr
  have hs := (bst_spec (PO zs nk f (MG (RT zs nk) A)) fr (MG (RT zs nk) A) (MG (RT zs nk) A).length)
  have hpo : ∀ r, PO zs nk f A r = true ↔ f < (ct (FF (RT zs nk) A r) 16 : Nat) := fun r => by
    rw [PO_iff, cf_ct]; exact ⟨fun h => h.2, fun h => ⟨hf, h⟩⟩
  obtain ⟨_, hb0, hs3⟩ := hs
  have e : BR zs nk f A fr = bst (PO zs nk f (MG (RT zs nk) A)) fr (MG (RT zs nk) A) (MG (RT zs nk) A).length := rfl
  rw [← e] at hb0 hs3
  refine Int.le_antisymm ?_ ?_
  · rcases hb with hb | ⟨hb1, hb2⟩
    · rw [hb]; rcases h0 with h | h <;> omega
    · by_cases h : 0 < BR zs nk f A fr
      · exact h1 _ h hb1 ((hpo _).1 hb2)
      · rcases h0 with h | h <;> omega
  · rcases h0 with h | ⟨p0, p1, p2⟩
    · omega
    · have hp : 0 < ct (FF (RT zs nk) A v) 16 := by omega
      obtain ⟨j, hj⟩ := ct_pos hp
      obtain ⟨x, hx, hr, ex, _⟩ := ff_iff.1 hj
      have hm := (MG_mem (x := x) hT (ss := A)).2 ⟨hx, hr⟩
      obtain ⟨i, hi, ei⟩ := List.mem_iff_getElem.1 hm
      have ee : es (MG (RT zs nk) A) i = x := by rw [← ei]; simp [es, List.getD, hi]
      have := hs3 i hi (by rw [ee, ex]; exact p1) (by rw [ee, ex, PO_idem]; exact (hpo v).2 p2)
      rw [ee, ex] at this
      exact this

end Go.Proofs.Ytdjeffjjijkhbaa.Mi
