/-
  What a turn leaves (plain): the kinds, the offs, whether it is right.
-/
import Derived.Test.YtcgcmceobmpdiaaGreatCorAll
namespace Go.Proofs.YtcgcmceobmpdiaaGreat.Tu
open Go.ChangeShapes Go.WideShapes Go.ChangeAt Go.RowKit
open Ls (el Row)
open Bo (eb)
open Ad (Tm)
open Hu (tmK)
open Wl (WO bad allIn)
open Ss (ln rw_ tot)
open Tr (MV TT FL TL)
set_option linter.unusedVariables false
set_option linter.unusedSimpArgs false

/-- Of the first j, those at which c holds are put to v. -/
def UP (c : Nat → Bool) (v : Nat → Int) (zs : List Int) : Nat → List Int
  | 0 => zs
  | j + 1 => if c j = true then (UP c v zs j).set j (v j) else UP c v zs j
theorem up_len (c : Nat → Bool) (v : Nat → Int) (zs : List Int) (j : Nat) : (UP c v zs j).length = zs.length := by
  induction j with
  | zero => rfl
  | succ j ih => unfold UP; split <;> simp [ih]
theorem up_el (c : Nat → Bool) (v : Nat → Int) (zs : List Int) (j i : Nat) (hi : i < zs.length) : el (UP c v zs j) i = if i < j ∧ c i = true then v i else el zs i := by
  induction j with
  | zero => simp [UP]
  | succ j ih =>
    unfold UP
    by_cases hc : c j = true
    · rw [if_pos hc]
      by_cases e : i = j
      · subst e
        rw [if_pos ⟨by omega, hc⟩]
        simp [el, up_len, hi]
      · have : el ((UP c v zs j).set j (v j)) i = el (UP c v zs j) i := by simp [el, List.getElem?_set_ne (Ne.symm e)]
        rw [this, ih]
        by_cases h : i < j
        · simp [h, show i < j + 1 by omega]
        · simp [h, show ¬ i < j + 1 by omega]
    · rw [if_neg hc, ih]
      by_cases e : i = j
      · subst e; simp [hc]
      · by_cases h : i < j
        · simp [h, show i < j + 1 by omega]
        · simp [h, show ¬ i < j + 1 by omega]
theorem ext_el {xs ys : List Int} (h : xs.length = ys.length) (h2 : ∀ j, j < xs.length → el xs j = el ys j) : xs = ys := by
  apply List.ext_getElem h
  intro j h3 h4
  have := h2 j h3
  simpa [el, h3, h4] using this
theorem mo_len (os ds : List Int) : (MO os ds).length = os.length := by
  unfold MO
  have : ∀ q, (DOj os ds q).length = os.length := fun q => by
    induction q with
    | zero => rfl
    | succ q ih => unfold DOj; simp [ih]
  exact this _
theorem op_mo {os ds : List Int} {k : Nat} (h : os.length = k) : OP os ds k = MO os ds :=
  ext_el (by rw [op_len, mo_len, h]) (fun j hj => by rw [op_len] at hj; rw [op_el os ds hj, mo_el os ds (by omega)])

/-- Whether the node j asks and is put right; by how much. -/
def CB (n l d r p s : Int) (ks : List Int) (k : Nat) (os : List Int) (m : Nat) (t : Int) (ds : List Int) (es ls : List (List Int)) (fs rs : List Bool) (nF nR : Nat) (j : Nat) : Bool := TT (GO n l d r p s ks k os m t ds es ls fs rs nF nR (j : Int)) (GO n l d r p s ks k os m t ds es ls fs rs nF nR (j : Int)).length l
def CV (n l d r p s : Int) (ks : List Int) (k : Nat) (os : List Int) (m : Nat) (t : Int) (ds : List Int) (es ls : List (List Int)) (fs rs : List Bool) (nF nR : Nat) (j : Nat) : Int := MV (GO n l d r p s ks k os m t ds es ls fs rs nF nR (j : Int)) (GO n l d r p s ks k os m t ds es ls fs rs nF nR (j : Int)).length l

theorem tm_of {zs : List Int} {n : Nat} (h : ∀ j, j < n → Tm (el zs j)) : tmK zs n = true := by
  induction n with
  | zero => rfl
  | succ n ih => show (tmK zs n && decide (Tm (el zs n))) = true; rw [ih (fun j hj => h j (by omega)), decide_eq_true (h n (by omega))]; rfl
theorem gl_el (ks os ds : List Int) (es ls : List (List Int)) (i : Nat) {j q : Nat} (h : q < j) : el (GL ks os ds es ls i j) q = GS ks os ds es ls i q := by simp [GL, el, h]
theorem wo_liars {n l d r p s : Int} {ks os : List Int} {k m : Nat} {t : Int} (h : WO n l d r p s ks k os m t = true) : 0 ≤ l ∧ 3 * l + 1 ≤ (k : Int) ∧ 0 ≤ t ∧ t ≤ 1000000 := by
  unfold WO at h
  simp only [Bool.and_eq_true, beq_iff_eq] at h
  have h1 := Cf.cr_zero.1 (Cf.cp_zero.1 h.1).1
  have h2 := Cf.l1_iff.1 h1.2.1
  have h3 := Cf.dr_iff.1 h.2.2.2.1
  have := h.2.1.1
  omega
theorem gs_tm {n l d r p s : Int} {ks : List Int} {k : Nat} {os : List Int} {m : Nat} {t : Int} {ds : List Int} {es ls : List (List Int)} {fs rs : List Bool} {nF nR : Nat} (h : TO n l d r p s ks k os m t ds es ls fs rs nF nR = true) {i j : Nat} (hi : i < k) (hj : j < k) : -3000000000000000 ≤ GS (FK ks fs) os ds es ls i j ∧ GS (FK ks fs) os ds es ls i j ≤ 3000000000000000 := by
  obtain ⟨hW, eF, eR, h1, h2, h3⟩ := to_facts h
  obtain ⟨en, em, k0, hO⟩ := wo_more hW
  obtain ⟨⟨d0, d1⟩, ⟨e0, e1⟩, k16⟩ := wo_bounds hW
  have hD := (r1_facts h1).2
  have hE := ((rs_facts h2).2 i hi).2
  have hL := ((rs_facts h3).2 i hi).2
  unfold GS
  split
  · split
    · omega
    · have := hO j hj
      have := hO i hi
      have := hD j hj
      have := hD i hi
      have := hE j hj
      omega
  · have := hL j hj
    omega
theorem cb_is {n l d r p s : Int} {ks : List Int} {k : Nat} {os : List Int} {m : Nat} {t : Int} {ds : List Int} {es ls : List (List Int)} {fs rs : List Bool} {nF nR : Nat} (h : TO n l d r p s ks k os m t ds es ls fs rs nF nR = true) {j : Nat} (hj : j < k) : CB n l d r p s ks k os m t ds es ls fs rs nF nR j = (decide (el (FK ks fs) j = 0) || eb rs j) := by
  obtain ⟨hW, eF, eR, h1, h2, h3⟩ := to_facts h
  obtain ⟨l0, l1, t0, t1⟩ := wo_liars hW
  obtain ⟨_, _, k16⟩ := wo_bounds hW
  unfold CB
  by_cases hc : el (FK ks fs) j = 0 ∨ eb rs j = true
  · have E : GO n l d r p s ks k os m t ds es ls fs rs nF nR (j : Int) = GL (FK ks fs) os ds es ls j k := by
      unfold GO; rw [if_pos ⟨h, by omega, by simpa using hc⟩]; simp
    rw [E, gl_len]
    have e2 : (decide (el (FK ks fs) j = 0) || eb rs j) = true := by
      rcases hc with hc | hc
      · rw [decide_eq_true hc]; rfl
      · rw [hc, Bool.or_true]
    rw [e2, TT, decide_eq_true (by omega), Bool.true_and]
    exact tm_of fun q hq => by rw [gl_el _ _ _ _ _ _ hq]; have := gs_tm h hj hq; unfold Tm; omega
  · have E : GO n l d r p s ks k os m t ds es ls fs rs nF nR (j : Int) = [] := by
      unfold GO; rw [if_neg (fun q => hc (by simpa using q.2.2))]
    rw [E]
    have e2 : (decide (el (FK ks fs) j = 0) || eb rs j) = false := by
      rw [decide_eq_false (fun q => hc (.inl q)), Bool.false_or]
      cases q : eb rs j with
      | true => exact (hc (.inr q)).elim
      | false => rfl
    rw [e2]
    exact Tr.tt_no (by simp; omega)
theorem cv_le (n l d r p s : Int) (ks : List Int) (k : Nat) (os : List Int) (m : Nat) (t : Int) (ds : List Int) (es ls : List (List Int)) (fs rs : List Bool) (nF nR : Nat) (j : Nat) : -4000000000000000000 ≤ CV n l d r p s ks k os m t ds es ls fs rs nF nR j ∧ CV n l d r p s ks k os m t ds es ls fs rs nF nR j ≤ 4000000000000000000 := by
  unfold CV MV
  split
  · rename_i h
    have h1 := Tr.tl_tm rfl h
    have h2 := Tr.tl_pos rfl h
    have a := Tr.el_tm h1 (k := 0) h2
    have b := Tr.el_tm h1 (k := (TL (GO n l d r p s ks k os m t ds es ls fs rs nF nR (j : Int)) (GO n l d r p s ks k os m t ds es ls fs rs nF nR (j : Int)).length l).length - 1) (by omega)
    unfold Tm at a b
    unfold FL
    omega
  · omega

/-- The kinds and the offs behind a right turn. -/
def TK (n l d r p s : Int) (ks : List Int) (k : Nat) (os : List Int) (m : Nat) (t : Int) (ds : List Int) (es ls : List (List Int)) (fs rs : List Bool) (nF nR : Nat) : List Int := UP (CB n l d r p s ks k os m t ds es ls fs rs nF nR) (fun _ => 0) (FK ks fs) k
def TF (n l d r p s : Int) (ks : List Int) (k : Nat) (os : List Int) (m : Nat) (t : Int) (ds : List Int) (es ls : List (List Int)) (fs rs : List Bool) (nF nR : Nat) : List Int := UP (CB n l d r p s ks k os m t ds es ls fs rs nF nR) (fun j => el (MO os ds) j + CV n l d r p s ks k os m t ds es ls fs rs nF nR j) (MO os ds) k
theorem fk_len' (ks : List Int) (fs : List Bool) : (FK ks fs).length = ks.length := fk_len ks fs _
theorem tk_rs {n l d r p s : Int} {ks : List Int} {k : Nat} {os : List Int} {m : Nat} {t : Int} {ds : List Int} {es ls : List (List Int)} {fs rs : List Bool} {nF nR : Nat} (h : TO n l d r p s ks k os m t ds es ls fs rs nF nR = true) (hz : ks.length = k) : UP (eb rs) (fun _ => 0) (FK ks fs) k = TK n l d r p s ks k os m t ds es ls fs rs nF nR := by
  unfold TK
  refine ext_el (by rw [up_len, up_len]) (fun j hj => ?_)
  rw [up_len, fk_len'] at hj
  rw [up_el _ _ _ _ _ (by rw [fk_len']; exact hj), up_el _ _ _ _ _ (by rw [fk_len']; exact hj), cb_is h (by omega)]
  by_cases h0 : el (FK ks fs) j = 0
  · simp [h0]
  · simp [h0]
/-- Whether a turn is right and leads to a right world; what is there behind it. -/
def RB (n l d r p s : Int) (ks : List Int) (k : Nat) (os : List Int) (m : Nat) (t : Int) (ds : List Int) (es ls : List (List Int)) (fs rs : List Bool) (nF nR : Nat) : Bool := TO n l d r p s ks k os m t ds es ls fs rs nF nR && WO n l d r p s (TK n l d r p s ks k os m t ds es ls fs rs nF nR) k (TF n l d r p s ks k os m t ds es ls fs rs nF nR) m (t + 1)
def RK (n l d r p s : Int) (ks : List Int) (k : Nat) (os : List Int) (m : Nat) (t : Int) (ds : List Int) (es ls : List (List Int)) (fs rs : List Bool) (nF nR : Nat) : List Int := if RB n l d r p s ks k os m t ds es ls fs rs nF nR = true then TK n l d r p s ks k os m t ds es ls fs rs nF nR else ks
def RO (n l d r p s : Int) (ks : List Int) (k : Nat) (os : List Int) (m : Nat) (t : Int) (ds : List Int) (es ls : List (List Int)) (fs rs : List Bool) (nF nR : Nat) : List Int := if RB n l d r p s ks k os m t ds es ls fs rs nF nR = true then TF n l d r p s ks k os m t ds es ls fs rs nF nR else os
def RU (n l d r p s : Int) (ks : List Int) (k : Nat) (os : List Int) (m : Nat) (t : Int) (ds : List Int) (es ls : List (List Int)) (fs rs : List Bool) (nF nR : Nat) : Int := if RB n l d r p s ks k os m t ds es ls fs rs nF nR = true then t + 1 else t
theorem tk_len (n l d r p s : Int) (ks : List Int) (k : Nat) (os : List Int) (m : Nat) (t : Int) (ds : List Int) (es ls : List (List Int)) (fs rs : List Bool) (nF nR : Nat) : (TK n l d r p s ks k os m t ds es ls fs rs nF nR).length = ks.length := by unfold TK; rw [up_len, fk_len']
theorem tf_len (n l d r p s : Int) (ks : List Int) (k : Nat) (os : List Int) (m : Nat) (t : Int) (ds : List Int) (es ls : List (List Int)) (fs rs : List Bool) (nF nR : Nat) : (TF n l d r p s ks k os m t ds es ls fs rs nF nR).length = os.length := by unfold TF; rw [up_len, mo_len]
theorem rk_len (n l d r p s : Int) (ks : List Int) (k : Nat) (os : List Int) (m : Nat) (t : Int) (ds : List Int) (es ls : List (List Int)) (fs rs : List Bool) (nF nR : Nat) : (RK n l d r p s ks k os m t ds es ls fs rs nF nR).length = ks.length := by unfold RK; split; exact tk_len n l d r p s ks k os m t ds es ls fs rs nF nR; rfl
theorem ro_len (n l d r p s : Int) (ks : List Int) (k : Nat) (os : List Int) (m : Nat) (t : Int) (ds : List Int) (es ls : List (List Int)) (fs rs : List Bool) (nF nR : Nat) : (RO n l d r p s ks k os m t ds es ls fs rs nF nR).length = os.length := by unfold RO; split; exact tf_len n l d r p s ks k os m t ds es ls fs rs nF nR; rfl

end Go.Proofs.YtcgcmceobmpdiaaGreat.Tu
