/-
  What a turn leaves (plain): the kinds, the offs, whether it is right. · On lists alone: the hull's ends, what is left of a trimmed list, its middle. · What a right turn does (plain): whoever asks is put right to where those that are up are, but for Err; two that ask come to lie within half. · laws.likeInts of two lists that are alike: true. · What FnGuesses looks at (plain): the guesses about those that are up, and who asks.
-/
import Derived.Test.YtloicicgcdfgnaaCorAll
import Derived.Test.YtloicicgcdfgnaaBase
import Derived.Test.YtloicicgcdfgnaaTn
namespace Go.Proofs.Ytloicicgcdfgnaa.Tu
open Go.ChangeShapes Go.WideShapes Go.ChangeAt Go.RowKit
open Ls (el Row)
open Bo (eb)
open Ad (Tm)
open Hu (tmK)
open Wl (WO bad allIn)
open Ss (ln rw_ tot)
open Tr (MV TT FL TL)
set_option linter.unusedVariables false
set_option linter.unusedSimpArgs false

/-- Of the first j, those at which c holds are put to v. -/
def UP (c : Nat → Bool) (v : Nat → Int) (zs : List Int) : Nat → List Int
  | 0 => zs
  | j + 1 => if c j = true then (UP c v zs j).set j (v j) else UP c v zs j
theorem up_len (c : Nat → Bool) (v : Nat → Int) (zs : List Int) (j : Nat) : (UP c v zs j).length = zs.length := by
  induction j with
  | zero => rfl
  | succ j ih => unfold UP; split <;> simp [ih]
theorem up_el (c : Nat → Bool) (v : Nat → Int) (zs : List Int) (j i : Nat) (hi : i < zs.length) : el (UP c v zs j) i = if i < j ∧ c i = true then v i else el zs i := by
  induction j with
  | zero => simp [UP]
  | succ j ih =>
    unfold UP
    by_cases hc : c j = true
    · rw [if_pos hc]
      by_cases e : i = j
      · subst e
        rw [if_pos ⟨by omega, hc⟩]
        simp [el, up_len, hi]
      · have : el ((UP c v zs j).set j (v j)) i = el (UP c v zs j) i := by simp [el, List.getElem?_set_ne (Ne.symm e)]
        rw [this, ih]
        by_cases h : i < j
        · simp [h, show i < j + 1 by omega]
        · simp [h, show ¬ i < j + 1 by omega]
    · rw [if_neg hc, ih]
      by_cases e : i = j
      · subst e; simp [hc]
      · by_cases h : i < j
        · simp [h, show i < j + 1 by omega]
        · simp [h, show ¬ i < j + 1 by omega]
theorem ext_el {xs ys : List Int} (h : xs.length = ys.length) (h2 : ∀ j, j < xs.length → el xs j = el ys j) : xs = ys := by
  apply List.ext_getElem h
  intro j h3 h4
  have := h2 j h3
  simpa [el, h3, h4] using this
theorem mo_len (os ds : List Int) : (MO os ds).length = os.length := by
  unfold MO
  have : ∀ q, (DOj os ds q).length = os.length := fun q => by
    induction q with
    | zero => rfl
    | succ q ih => unfold DOj; simp [ih]
  exact this _
theorem op_mo {os ds : List Int} {k : Nat} (h : os.length = k) : OP os ds k = MO os ds :=
  ext_el (by rw [op_len, mo_len, h]) (fun j hj => by rw [op_len] at hj; rw [op_el os ds hj, mo_el os ds (by omega)])

/-- Whether the node j asks and is put right; by how much. -/
def CB (n l d r p s : Int) (ks : List Int) (k : Nat) (os : List Int) (m : Nat) (t : Int) (ds : List Int) (es ls : List (List Int)) (fs rs : List Bool) (nF nR : Nat) (j : Nat) : Bool := TT (GO n l d r p s ks k os m t ds es ls fs rs nF nR (j : Int)) (GO n l d r p s ks k os m t ds es ls fs rs nF nR (j : Int)).length l
def CV (n l d r p s : Int) (ks : List Int) (k : Nat) (os : List Int) (m : Nat) (t : Int) (ds : List Int) (es ls : List (List Int)) (fs rs : List Bool) (nF nR : Nat) (j : Nat) : Int := MV (GO n l d r p s ks k os m t ds es ls fs rs nF nR (j : Int)) (GO n l d r p s ks k os m t ds es ls fs rs nF nR (j : Int)).length l

theorem tm_of {zs : List Int} {n : Nat} (h : ∀ j, j < n → Tm (el zs j)) : tmK zs n = true := by
  induction n with
  | zero => rfl
  | succ n ih => show (tmK zs n && decide (Tm (el zs n))) = true; rw [ih (fun j hj => h j (by omega)), decide_eq_true (h n (by omega))]; rfl
theorem gl_el (ks os ds : List Int) (es ls : List (List Int)) (i : Nat) {j q : Nat} (h : q < j) : el (GL ks os ds es ls i j) q = GS ks os ds es ls i q := by simp [GL, el, h]
theorem wo_liars {n l d r p s : Int} {ks os : List Int} {k m : Nat} {t : Int} (h : WO n l d r p s ks k os m t = true) : 0 ≤ l ∧ 3 * l + 1 ≤ (k : Int) ∧ 0 ≤ t ∧ t ≤ 1000000 := by
  unfold WO at h
  simp only [Bool.and_eq_true, beq_iff_eq] at h
  have h1 := Cf.cr_zero.1 (Cf.cp_zero.1 h.1).1
  have h2 := Cf.l1_iff.1 h1.2.1
  have h3 := Cf.dr_iff.1 h.2.2.2.1
  have := h.2.1.1
  omega
theorem gs_tm {n l d r p s : Int} {ks : List Int} {k : Nat} {os : List Int} {m : Nat} {t : Int} {ds : List Int} {es ls : List (List Int)} {fs rs : List Bool} {nF nR : Nat} (h : TO n l d r p s ks k os m t ds es ls fs rs nF nR = true) {i j : Nat} (hi : i < k) (hj : j < k) : -3000000000000000 ≤ GS (FK ks fs) os ds es ls i j ∧ GS (FK ks fs) os ds es ls i j ≤ 3000000000000000 := by
  obtain ⟨hW, eF, eR, h1, h2, h3⟩ := to_facts h
  obtain ⟨en, em, k0, hO⟩ := wo_more hW
  obtain ⟨⟨d0, d1⟩, ⟨e0, e1⟩, k16⟩ := wo_bounds hW
  have hD := (r1_facts h1).2
  have hE := ((rs_facts h2).2 i hi).2
  have hL := ((rs_facts h3).2 i hi).2
  unfold GS
  split
  · split
    · omega
    · have := hO j hj
      have := hO i hi
      have := hD j hj
      have := hD i hi
      have := hE j hj
      omega
  · have := hL j hj
    omega
theorem cb_is {n l d r p s : Int} {ks : List Int} {k : Nat} {os : List Int} {m : Nat} {t : Int} {ds : List Int} {es ls : List (List Int)} {fs rs : List Bool} {nF nR : Nat} (h : TO n l d r p s ks k os m t ds es ls fs rs nF nR = true) {j : Nat} (hj : j < k) : CB n l d r p s ks k os m t ds es ls fs rs nF nR j = (decide (el (FK ks fs) j = 0) || eb rs j) := by
  obtain ⟨hW, eF, eR, h1, h2, h3⟩ := to_facts h
  obtain ⟨l0, l1, t0, t1⟩ := wo_liars hW
  obtain ⟨_, _, k16⟩ := wo_bounds hW
  unfold CB
  by_cases hc : el (FK ks fs) j = 0 ∨ eb rs j = true
  · have E : GO n l d r p s ks k os m t ds es ls fs rs nF nR (j : Int) = GL (FK ks fs) os ds es ls j k := by
      unfold GO; rw [if_pos ⟨h, by omega, by simpa using hc⟩]; simp
    rw [E, gl_len]
    have e2 : (decide (el (FK ks fs) j = 0) || eb rs j) = true := by
      rcases hc with hc | hc
      · rw [decide_eq_true hc]; rfl
      · rw [hc, Bool.or_true]
    rw [e2, TT, decide_eq_true (by omega), Bool.true_and]
    exact tm_of fun q hq => by rw [gl_el _ _ _ _ _ _ hq]; have := gs_tm h hj hq; unfold Tm; omega
  · have E : GO n l d r p s ks k os m t ds es ls fs rs nF nR (j : Int) = [] := by
      unfold GO; rw [if_neg (fun q => hc (by simpa using q.2.2))]
    rw [E]
    have e2 : (decide (el (FK ks fs) j = 0) || eb rs j) = false := by
      rw [decide_eq_false (fun q => hc (.inl q)), Bool.false_or]
      cases q : eb rs j with
      | true => exact (hc (.inr q)).elim
      | false => rfl
    rw [e2]
    exact Tr.tt_no (by simp; omega)
theorem cv_le (n l d r p s : Int) (ks : List Int) (k : Nat) (os : List Int) (m : Nat) (t : Int) (ds : List Int) (es ls : List (List Int)) (fs rs : List Bool) (nF nR : Nat) (j : Nat) : -4000000000000000000 ≤ CV n l d r p s ks k os m t ds es ls fs rs nF nR j ∧ CV n l d r p s ks k os m t ds es ls fs rs nF nR j ≤ 4000000000000000000 := by
  unfold CV MV
  split
  · rename_i h
    have h1 := Tr.tl_tm rfl h
    have h2 := Tr.tl_pos rfl h
    have a := Tr.el_tm h1 (k := 0) h2
    have b := Tr.el_tm h1 (k := (TL (GO n l d r p s ks k os m t ds es ls fs rs nF nR (j : Int)) (GO n l d r p s ks k os m t ds es ls fs rs nF nR (j : Int)).length l).length - 1) (by omega)
    unfold Tm at a b
    unfold FL
    omega
  · omega

/-- The kinds and the offs behind a right turn. -/
def TK (n l d r p s : Int) (ks : List Int) (k : Nat) (os : List Int) (m : Nat) (t : Int) (ds : List Int) (es ls : List (List Int)) (fs rs : List Bool) (nF nR : Nat) : List Int := UP (CB n l d r p s ks k os m t ds es ls fs rs nF nR) (fun _ => 0) (FK ks fs) k
def TF (n l d r p s : Int) (ks : List Int) (k : Nat) (os : List Int) (m : Nat) (t : Int) (ds : List Int) (es ls : List (List Int)) (fs rs : List Bool) (nF nR : Nat) : List Int := UP (CB n l d r p s ks k os m t ds es ls fs rs nF nR) (fun j => el (MO os ds) j + CV n l d r p s ks k os m t ds es ls fs rs nF nR j) (MO os ds) k
theorem fk_len' (ks : List Int) (fs : List Bool) : (FK ks fs).length = ks.length := fk_len ks fs _
theorem tk_rs {n l d r p s : Int} {ks : List Int} {k : Nat} {os : List Int} {m : Nat} {t : Int} {ds : List Int} {es ls : List (List Int)} {fs rs : List Bool} {nF nR : Nat} (h : TO n l d r p s ks k os m t ds es ls fs rs nF nR = true) (hz : ks.length = k) : UP (eb rs) (fun _ => 0) (FK ks fs) k = TK n l d r p s ks k os m t ds es ls fs rs nF nR := by
  unfold TK
  refine ext_el (by rw [up_len, up_len]) (fun j hj => ?_)
  rw [up_len, fk_len'] at hj
  rw [up_el _ _ _ _ _ (by rw [fk_len']; exact hj), up_el _ _ _ _ _ (by rw [fk_len']; exact hj), cb_is h (by omega)]
  by_cases h0 : el (FK ks fs) j = 0
  · simp [h0]
  · simp [h0]
/-- Whether a turn is right and leads to a right world; what is there behind it. -/
def RB (n l d r p s : Int) (ks : List Int) (k : Nat) (os : List Int) (m : Nat) (t : Int) (ds : List Int) (es ls : List (List Int)) (fs rs : List Bool) (nF nR : Nat) : Bool := TO n l d r p s ks k os m t ds es ls fs rs nF nR && WO n l d r p s (TK n l d r p s ks k os m t ds es ls fs rs nF nR) k (TF n l d r p s ks k os m t ds es ls fs rs nF nR) m (t + 1)
def RK (n l d r p s : Int) (ks : List Int) (k : Nat) (os : List Int) (m : Nat) (t : Int) (ds : List Int) (es ls : List (List Int)) (fs rs : List Bool) (nF nR : Nat) : List Int := if RB n l d r p s ks k os m t ds es ls fs rs nF nR = true then TK n l d r p s ks k os m t ds es ls fs rs nF nR else ks
def RO (n l d r p s : Int) (ks : List Int) (k : Nat) (os : List Int) (m : Nat) (t : Int) (ds : List Int) (es ls : List (List Int)) (fs rs : List Bool) (nF nR : Nat) : List Int := if RB n l d r p s ks k os m t ds es ls fs rs nF nR = true then TF n l d r p s ks k os m t ds es ls fs rs nF nR else os
def RU (n l d r p s : Int) (ks : List Int) (k : Nat) (os : List Int) (m : Nat) (t : Int) (ds : List Int) (es ls : List (List Int)) (fs rs : List Bool) (nF nR : Nat) : Int := if RB n l d r p s ks k os m t ds es ls fs rs nF nR = true then t + 1 else t
theorem tk_len (n l d r p s : Int) (ks : List Int) (k : Nat) (os : List Int) (m : Nat) (t : Int) (ds : List Int) (es ls : List (List Int)) (fs rs : List Bool) (nF nR : Nat) : (TK n l d r p s ks k os m t ds es ls fs rs nF nR).length = ks.length := by unfold TK; rw [up_len, fk_len']
theorem tf_len (n l d r p s : Int) (ks : List Int) (k : Nat) (os : List Int) (m : Nat) (t : Int) (ds : List Int) (es ls : List (List Int)) (fs rs : List Bool) (nF nR : Nat) : (TF n l d r p s ks k os m t ds es ls fs rs nF nR).length = os.length := by unfold TF; rw [up_len, mo_len]
theorem rk_len (n l d r p s : Int) (ks : List Int) (k : Nat) (os : List Int) (m : Nat) (t : Int) (ds : List Int) (es ls : List (List Int)) (fs rs : List Bool) (nF nR : Nat) : (RK n l d r p s ks k os m t ds es ls fs rs nF nR).length = ks.length := by unfold RK; split; exact tk_len n l d r p s ks k os m t ds es ls fs rs nF nR; rfl
theorem ro_len (n l d r p s : Int) (ks : List Int) (k : Nat) (os : List Int) (m : Nat) (t : Int) (ds : List Int) (es ls : List (List Int)) (fs rs : List Bool) (nF nR : Nat) : (RO n l d r p s ks k os m t ds es ls fs rs nF nR).length = os.length := by unfold RO; split; exact tf_len n l d r p s ks k os m t ds es ls fs rs nF nR; rfl

end Go.Proofs.Ytloicicgcdfgnaa.Tu

namespace Go.Proofs.Ytloicicgcdfgnaa.Tr
open Go.ChangeShapes Go.WideShapes Go.ChangeAt Go.RowKit
open Ad (Tm)
open Ls (el Row)
open Hu (mnK mxK tmK HT)
open Ow (Own Has srt ints)
set_option linter.unusedVariables false

theorem mm_all {zs : List Int} : ∀ n k, k < n → mnK zs n ≤ el zs k ∧ el zs k ≤ mxK zs n
  | 0, k => by omega
  | n + 1, k => by
    intro hk
    have e1 : mnK zs (n + 1) = min (mnK zs n) (el zs n) := rfl
    have e2 : mxK zs (n + 1) = max (mxK zs n) (el zs n) := rfl
    rw [e1, e2]
    by_cases e : k = n
    · subst e; omega
    · have := mm_all (zs := zs) n k (by omega)
      omega
theorem mm_mem {zs : List Int} {n : Nat} (hz : zs.length = n) {x : Int} (hx : x ∈ zs) : mnK zs n ≤ x ∧ x ≤ mxK zs n := by
  obtain ⟨k, hk, rfl⟩ := List.mem_iff_getElem.1 hx
  have := mm_all (zs := zs) n k (by omega)
  rw [Ow.el_get hk] at this
  exact this
/-- The ends are among them. -/
theorem mm_in {zs : List Int} {n : Nat} (h : 0 < n) : (∃ k, k < n ∧ el zs k = mnK zs n) ∧ ∃ k, k < n ∧ el zs k = mxK zs n := by
  obtain ⟨m, rfl⟩ : ∃ m, n = m + 1 := ⟨n - 1, by omega⟩
  clear h
  induction m with
  | zero => exact ⟨⟨0, by omega, (Hu.mn1 zs).symm⟩, ⟨0, by omega, (Hu.mx1 zs).symm⟩⟩
  | succ m ih =>
    obtain ⟨⟨k1, h1, e1⟩, ⟨k2, h2, e2⟩⟩ := ih
    have q1 : mnK zs (m + 1 + 1) = min (mnK zs (m + 1)) (el zs (m + 1)) := rfl
    have q2 : mxK zs (m + 1 + 1) = max (mxK zs (m + 1)) (el zs (m + 1)) := rfl
    refine ⟨?_, ?_⟩
    · by_cases h : mnK zs (m + 1) ≤ el zs (m + 1)
      · exact ⟨k1, by omega, by rw [q1]; omega⟩
      · exact ⟨m + 1, by omega, by rw [q1]; omega⟩
    · by_cases h : el zs (m + 1) ≤ mxK zs (m + 1)
      · exact ⟨k2, by omega, by rw [q2]; omega⟩
      · exact ⟨m + 1, by omega, by rw [q2]; omega⟩
theorem tm_of {zs : List Int} {n : Nat} (hz : zs.length = n) (h : ∀ x ∈ zs, Tm x) : tmK zs n = true := by
  have : ∀ k, k ≤ n → tmK zs k = true := by
    intro k
    induction k with
    | zero => intro _; rfl
    | succ k ih =>
      intro hk
      show (tmK zs k && decide (Tm (el zs k))) = true
      rw [ih (by omega), decide_eq_true (by rw [Ow.el_get (by omega)]; exact h _ (List.getElem_mem _))]
      rfl
  exact this n (Nat.le_refl _)

theorem low {L : List Int} {f : Nat} {m : Int} (hs : L.Pairwise (· ≤ ·)) (hf : f < L.length) (hc : L.countP (fun x => decide (x < m)) ≤ f) : m ≤ L[f] := by
  rcases Int.lt_or_le L[f] m with h | h
  · exfalso
    have h1 : (L.take (f + 1)).countP (fun x => decide (x < m)) = (L.take (f + 1)).length := by
      rw [List.countP_eq_length]
      intro a ha
      obtain ⟨j, hj, rfl⟩ := List.mem_iff_getElem.1 ha
      rw [List.length_take] at hj
      rw [List.getElem_take]
      apply decide_eq_true
      by_cases e : j = f
      · subst e; exact h
      · exact Int.lt_of_le_of_lt (List.pairwise_iff_getElem.1 hs j f (by omega) hf (by omega)) h
    rw [List.length_take] at h1
    have h2 := List.countP_append (p := fun x : Int => decide (x < m)) (l₁ := L.take (f + 1)) (l₂ := L.drop (f + 1))
    rw [List.take_append_drop] at h2
    omega
  · exact h
theorem high {L : List Int} {f : Nat} {m : Int} (hs : L.Pairwise (· ≤ ·)) (hf : f < L.length) (hc : L.countP (fun x => decide (m < x)) ≤ f) : L[L.length - 1 - f]'(by omega) ≤ m := by
  rcases Int.lt_or_le m (L[L.length - 1 - f]'(by omega)) with h | h
  · exfalso
    have h1 : (L.drop (L.length - 1 - f)).countP (fun x => decide (m < x)) = (L.drop (L.length - 1 - f)).length := by
      rw [List.countP_eq_length]
      intro a ha
      obtain ⟨j, hj, rfl⟩ := List.mem_iff_getElem.1 ha
      rw [List.length_drop] at hj
      rw [List.getElem_drop]
      apply decide_eq_true
      by_cases e : j = 0
      · subst e; exact h
      · exact Int.lt_of_lt_of_le h (List.pairwise_iff_getElem.1 hs (L.length - 1 - f) (L.length - 1 - f + j) (by omega) (by omega) (by omega))
    rw [List.length_drop] at h1
    have h2 := List.countP_append (p := fun x : Int => decide (m < x)) (l₁ := L.take (L.length - 1 - f)) (l₂ := L.drop (L.length - 1 - f))
    rw [List.take_append_drop] at h2
    omega
  · exact h

theorem el_tl {zs : List Int} {n F k : Nat} (hz : zs.length = n) (h : TT zs n F = true) (hk : k < n - 2 * F) : el (TL zs n F) k = (srt zs)[F + k]'(by rw [Ow.srt_len]; omega) := by
  have hl : F + k < (srt zs).length := by rw [Ow.srt_len]; omega
  rw [tl_yes h, Ow.el_get (by rw [List.length_take, List.length_drop, Ow.srt_len]; omega), List.getElem_take, List.getElem_drop]

/-- With at most F of them wrong. -/
theorem trim_in {zs ys : List Int} {n1 n F : Nat} (h1 : zs.length = n1) (hy : ys.length ≤ F) (hn : (zs ++ ys).length = n) (h2 : 2 * F < n) (hT : TT (zs ++ ys) n F = true) :
    mnK zs n1 ≤ el (TL (zs ++ ys) n F) 0 ∧ el (TL (zs ++ ys) n F) (n - 2 * F - 1) ≤ mxK zs n1 ∧ mnK zs n1 ≤ MV (zs ++ ys) n F ∧ MV (zs ++ ys) n F ≤ mxK zs n1 := by
  have hs := Ow.srt_sorted (zs ++ ys)
  have hl : (srt (zs ++ ys)).length = n := by rw [Ow.srt_len]; exact hn
  have c1 : (srt (zs ++ ys)).countP (fun x => decide (x < mnK zs n1)) ≤ F := by
    rw [(Ow.srt_perm (zs ++ ys)).countP_eq, List.countP_append]
    have : zs.countP (fun x => decide (x < mnK zs n1)) = 0 := by
      rw [List.countP_eq_zero]
      intro a ha
      have := (mm_mem h1 ha).1
      simp; omega
    have := List.countP_le_length (p := fun x : Int => decide (x < mnK zs n1)) (l := ys)
    omega
  have c2 : (srt (zs ++ ys)).countP (fun x => decide (mxK zs n1 < x)) ≤ F := by
    rw [(Ow.srt_perm (zs ++ ys)).countP_eq, List.countP_append]
    have : zs.countP (fun x => decide (mxK zs n1 < x)) = 0 := by
      rw [List.countP_eq_zero]
      intro a ha
      have := (mm_mem h1 ha).2
      simp; omega
    have := List.countP_le_length (p := fun x : Int => decide (mxK zs n1 < x)) (l := ys)
    omega
  have a1 := low hs (f := F) (by omega) c1
  have a2 := high hs (f := F) (by omega) c2
  have e0 := el_tl hn hT (k := 0) (by omega)
  have e1 := el_tl hn hT (k := n - 2 * F - 1) (by omega)
  have q0 : el (TL (zs ++ ys) n F) 0 = (srt (zs ++ ys))[F]'(by omega) := e0
  have q1 : el (TL (zs ++ ys) n F) (n - 2 * F - 1) = (srt (zs ++ ys))[(srt (zs ++ ys)).length - 1 - F]'(by omega) := by
    rw [e1]
    congr 1
    omega
  have q2 : (srt (zs ++ ys))[F]'(by omega) ≤ (srt (zs ++ ys))[(srt (zs ++ ys)).length - 1 - F]'(by omega) := by
    by_cases e : F = (srt (zs ++ ys)).length - 1 - F
    · exact Int.le_of_eq (by congr 1)
    · exact List.pairwise_iff_getElem.1 hs _ _ (by omega) (by omega) (by omega)
  rw [← q0] at a1 q2
  rw [← q1] at a2 q2
  refine ⟨a1, a2, ?_⟩
  rw [mv_yes hT, FL, tl_len hn hT]
  omega

/-- It does not hang on the order. -/
theorem srt_same {xs ys : List Int} (h : xs.Perm ys) : srt xs = srt ys :=
  Ow.sorted_one (Ow.srt_sorted _) (Ow.srt_sorted _) ((Ow.srt_perm xs).trans (h.trans (Ow.srt_perm ys).symm))
theorem srt_map (zs : List Int) (b : Int) : srt (zs.map (· + b)) = (srt zs).map (· + b) := by
  refine Ow.sorted_one (Ow.srt_sorted _) ?_ ((Ow.srt_perm _).trans ((Ow.srt_perm zs).symm.map _))
  rw [List.pairwise_map]
  exact (Ow.srt_sorted zs).imp (by intro a b h; omega)
theorem mv_back {zs : List Int} {n F : Nat} (h1 : TT zs n F = true) (h2 : TT zs.reverse n F = true) : MV zs.reverse n F = MV zs n F := by
  rw [mv_yes h1, mv_yes h2, FL, FL, tl_yes h1, tl_yes h2, srt_same (List.reverse_perm zs)]
theorem el_map {L : List Int} {b : Int} {k : Nat} (hk : k < L.length) : el (L.map (· + b)) k = el L k + b := by
  rw [Ow.el_get (by simpa using hk), Ow.el_get hk, List.getElem_map]
theorem mv_later {zs : List Int} {n F : Nat} {b : Int} (hz : zs.length = n) (h0 : 2 * F < n) (h1 : TT zs n F = true) (h2 : TT (zs.reverse.map (· + b)) n F = true) : MV (zs.reverse.map (· + b)) n F = MV zs n F + b := by
  have e : TL (zs.reverse.map (· + b)) n F = (TL zs n F).map (· + b) := by
    rw [tl_yes h1, tl_yes h2, srt_map, srt_same (List.reverse_perm zs), List.map_take, List.map_drop]
  have hl := tl_len hz h1
  rw [mv_yes h1, mv_yes h2, FL, FL, e, List.length_map, el_map (by omega), el_map (by omega)]
  omega

/-- The sum of the first k. -/
def sumK (zs : List Int) : Nat → Int
  | 0 => 0
  | k + 1 => sumK zs k + el zs k
theorem sum_perm {xs ys : List Int} (h : xs.Perm ys) : xs.sum = ys.sum := by
  induction h with
  | nil => rfl
  | cons x _ ih => simp [ih]
  | swap x y l => simp; omega
  | trans _ _ ih1 ih2 => rw [ih1, ih2]
theorem sum_take {zs : List Int} : ∀ k, k ≤ zs.length → sumK zs k = (zs.take k).sum
  | 0 => by intro _; simp [sumK]
  | k + 1 => by
    intro h
    have e : zs.take (k + 1) = zs.take k ++ [zs[k]'(by omega)] := (List.take_append_getElem (by omega)).symm
    rw [sumK, sum_take k (by omega), Ow.el_get (by omega), e, List.sum_append]
    simp
theorem sum_all {zs : List Int} {n : Nat} (hz : zs.length = n) : sumK zs n = zs.sum := by
  rw [sum_take n (by omega), List.take_of_length_le (by omega)]
theorem sum_srt {zs : List Int} {n : Nat} (hz : zs.length = n) : sumK (srt zs) n = sumK zs n := by
  rw [sum_all hz, sum_all (by rw [Ow.srt_len]; exact hz), sum_perm (Ow.srt_perm zs)]
theorem sum_bd {zs : List Int} {n : Nat} (hz : zs.length = n) {m : Int} (hm : 0 ≤ m) (h : ∀ x ∈ zs, -m ≤ x ∧ x ≤ m) : ∀ k, k ≤ n → -(m * k) ≤ sumK zs k ∧ sumK zs k ≤ m * k
  | 0 => by intro _; simp [sumK]
  | k + 1 => by
    intro hk
    have := sum_bd hz hm h k (by omega)
    have h2 := h _ (List.getElem_mem (l := zs) (n := k) (by omega))
    rw [← Ow.el_get (by omega)] at h2
    have e : m * ((k + 1 : Nat) : Int) = m * k + m := by rw [Int.natCast_add, Int.mul_add]; simp
    rw [sumK, e]
    omega

end Go.Proofs.Ytloicicgcdfgnaa.Tr

namespace Go.Proofs.Ytloicicgcdfgnaa.Tu
open Go.ChangeShapes Go.WideShapes Go.ChangeAt Go.RowKit
open Ls (el Row)
open Bo (eb)
open Ad (Tm)
open Wl (WO bad allIn)
open Ss (ln rw_ tot)
open Tr (MV TT FL TL)
open Ow (srt)
set_option linter.unusedVariables false
set_option linter.unusedSimpArgs false

/-- The first and the last one that are left. -/
def FI (zs : List Int) (n F : Nat) : Int := el (TL zs n F) 0
def LA (zs : List Int) (n F : Nat) : Int := el (TL zs n F) (n - 2 * F - 1)
theorem fi_at {zs : List Int} {n F : Nat} (hz : zs.length = n) (h2 : 2 * F < n) (hT : TT zs n F = true) : FI zs n F = (srt zs)[F]'(by rw [Ow.srt_len]; omega) := Tr.el_tl hz hT (k := 0) (by omega)
theorem la_at {zs : List Int} {n F : Nat} (hz : zs.length = n) (h2 : 2 * F < n) (hT : TT zs n F = true) : LA zs n F = (srt zs)[(srt zs).length - 1 - F]'(by rw [Ow.srt_len]; omega) := by
  have hl : (srt zs).length = n := by rw [Ow.srt_len]; exact hz
  have e1 := Tr.el_tl hz hT (k := n - 2 * F - 1) (by omega)
  unfold LA
  rw [e1]
  congr 1
  omega
theorem mv_fl {zs : List Int} {n F : Nat} (hz : zs.length = n) (h2 : 2 * F < n) (hT : TT zs n F = true) : MV zs n F = (FI zs n F + LA zs n F) / 2 ∧ FI zs n F ≤ LA zs n F := by
  have hl : (srt zs).length = n := by rw [Ow.srt_len]; exact hz
  have hs := Ow.srt_sorted zs
  refine ⟨?_, ?_⟩
  · rw [Tr.mv_yes hT, FL, Tr.tl_len hz hT]; rfl
  · rw [fi_at hz h2 hT, la_at hz h2 hT]
    by_cases e : F = (srt zs).length - 1 - F
    · exact Int.le_of_eq (by congr 1)
    · exact List.pairwise_iff_getElem.1 hs _ _ (by omega) (by omega) (by omega)
theorem fi_ge {zs : List Int} {n F : Nat} (hz : zs.length = n) (h2 : 2 * F < n) (hT : TT zs n F = true) {lo : Int} (hc : zs.countP (fun x => decide (x < lo)) ≤ F) : lo ≤ FI zs n F := by
  rw [fi_at hz h2 hT]
  exact Tr.low (Ow.srt_sorted zs) (by rw [Ow.srt_len]; omega) (by rw [(Ow.srt_perm zs).countP_eq]; exact hc)
theorem la_le {zs : List Int} {n F : Nat} (hz : zs.length = n) (h2 : 2 * F < n) (hT : TT zs n F = true) {hi : Int} (hc : zs.countP (fun x => decide (hi < x)) ≤ F) : LA zs n F ≤ hi := by
  rw [la_at hz h2 hT]
  exact Tr.high (Ow.srt_sorted zs) (by rw [Ow.srt_len]; omega) (by rw [(Ow.srt_perm zs).countP_eq]; exact hc)
theorem cnt_below {L : List Int} {f : Nat} (hs : L.Pairwise (· ≤ ·)) (hf : f < L.length) : L.countP (fun x => decide (x < L[f])) ≤ f := by
  have h2 := List.countP_append (p := fun x : Int => decide (x < L[f])) (l₁ := L.take f) (l₂ := L.drop f)
  rw [List.take_append_drop] at h2
  have h3 : (L.drop f).countP (fun x => decide (x < L[f])) = 0 := by
    rw [List.countP_eq_zero]
    intro a ha
    obtain ⟨j, hj, rfl⟩ := List.mem_iff_getElem.1 ha
    rw [List.length_drop] at hj
    rw [List.getElem_drop]
    by_cases e : j = 0
    · subst e; simp
    · have := List.pairwise_iff_getElem.1 hs f (f + j) hf (by omega) (by omega)
      simp; omega
  have h4 := List.countP_le_length (p := fun x : Int => decide (x < L[f])) (l := L.take f)
  rw [List.length_take] at h4
  omega
theorem cnt_above {L : List Int} {f : Nat} (hs : L.Pairwise (· ≤ ·)) (hf : f < L.length) : L.countP (fun x => decide (L[L.length - 1 - f]'(by omega) < x)) ≤ f := by
  have h2 := List.countP_append (p := fun x : Int => decide (L[L.length - 1 - f]'(by omega) < x)) (l₁ := L.take (L.length - f)) (l₂ := L.drop (L.length - f))
  rw [List.take_append_drop] at h2
  have h3 : (L.take (L.length - f)).countP (fun x => decide (L[L.length - 1 - f]'(by omega) < x)) = 0 := by
    rw [List.countP_eq_zero]
    intro a ha
    obtain ⟨j, hj, rfl⟩ := List.mem_iff_getElem.1 ha
    rw [List.length_take] at hj
    rw [List.getElem_take]
    by_cases e : j = L.length - 1 - f
    · subst e; simp
    · have := List.pairwise_iff_getElem.1 hs j (L.length - 1 - f) (by omega) (by omega) (by omega)
      simp; omega
  have h4 := List.countP_le_length (p := fun x : Int => decide (L[L.length - 1 - f]'(by omega) < x)) (l := L.drop (L.length - f))
  rw [List.length_drop] at h4
  omega
/-- Of the numbers g 0, g 1, .. those that the test finds are no more than those that are not up, where it finds none of those that are. -/
theorem cnt_bad (P : Int → Bool) (g : Nat → Int) (ks : List Int) (k : Nat) (h : ∀ j, j < k → el ks j = 0 → P (g j) = false) : ((List.range k).map g).countP P ≤ bad ks k := by
  induction k with
  | zero => simp
  | succ k ih =>
    rw [List.range_succ, List.map_append, List.countP_append]
    have h1 := ih (fun j hj => h j (by omega))
    show _ ≤ bad ks k + _
    by_cases e : el ks k = 0
    · rw [if_pos e]
      have q := h k (by omega) e
      have e2 : (List.map g [k]).countP P = 0 := by simp [q]
      omega
    · rw [if_neg e]
      have e3 : (List.map g [k]).countP P ≤ (List.map g [k]).length := List.countP_le_length
      have e4 : (List.map g [k]).length = 1 := rfl
      omega
/-- Not all are found by one of three tests. -/
theorem three (P Q R : Nat → Bool) (k : Nat) (h : (List.range k).countP P + (List.range k).countP Q + (List.range k).countP R < k) : ∃ j, j < k ∧ P j = false ∧ Q j = false ∧ R j = false := by
  induction k with
  | zero => omega
  | succ k ih =>
    rw [List.range_succ, List.countP_append, List.countP_append, List.countP_append] at h
    by_cases e : P k = false ∧ Q k = false ∧ R k = false
    · exact ⟨k, by omega, e⟩
    · have h1 : 1 ≤ [k].countP P + [k].countP Q + [k].countP R := by
        cases hP : P k <;> cases hQ : Q k <;> cases hR : R k <;> simp_all
      obtain ⟨j, hj, r⟩ := ih (by omega)
      exact ⟨j, by omega, r⟩
theorem bad_cnt (ks : List Int) (k : Nat) : (List.range k).countP (fun j => decide (el ks j ≠ 0)) = bad ks k := by
  induction k with
  | zero => rfl
  | succ k ih =>
    rw [List.range_succ, List.countP_append, ih]
    show _ = bad ks k + _
    by_cases e : el ks k = 0
    · simp [e]
    · simp [e]

/-- Where the node j is in the middle of the turn. -/
def MM (os ds : List Int) (j : Nat) : Int := el os j + el ds j
theorem to_bad {n l d r p s : Int} {ks : List Int} {k : Nat} {os : List Int} {m : Nat} {t : Int} {ds : List Int} {es ls : List (List Int)} {fs rs : List Bool} {nF nR : Nat} (h : TO n l d r p s ks k os m t ds es ls fs rs nF nR = true) : (bad (FK ks fs) k : Int) ≤ l := by
  unfold TO at h
  simp only [Bool.and_eq_true, decide_eq_true_eq] at h
  exact h.2.2.2.2.2.2.2
/-- What one that asks guesses of one that is up is off by at most Err. -/
theorem guess_err {n l d r p s : Int} {ks : List Int} {k : Nat} {os : List Int} {m : Nat} {t : Int} {ds : List Int} {es ls : List (List Int)} {fs rs : List Bool} {nF nR : Nat} (h : TO n l d r p s ks k os m t ds es ls fs rs nF nR = true) {i j : Nat} (hi : i < k) (hj : j < k) (h0 : el (FK ks fs) j = 0) : MM os ds j - MM os ds i - r ≤ GS (FK ks fs) os ds es ls i j ∧ GS (FK ks fs) os ds es ls i j ≤ MM os ds j - MM os ds i + r := by
  obtain ⟨hW, eF, eR, h1, h2, h3⟩ := to_facts h
  obtain ⟨_, ⟨e0, e1⟩, k16⟩ := wo_bounds hW
  have hE := ((rs_facts h2).2 i hi).2 j hj
  unfold GS MM
  rw [if_pos h0]
  split
  · rename_i e; subst e; omega
  · omega
/-- What asks: its guesses, and what they are trimmed to. -/
theorem asks {n l d r p s : Int} {ks : List Int} {k : Nat} {os : List Int} {m : Nat} {t : Int} {ds : List Int} {es ls : List (List Int)} {fs rs : List Bool} {nF nR : Nat} (h : TO n l d r p s ks k os m t ds es ls fs rs nF nR = true) {i : Nat} (hi : i < k) (hc : CB n l d r p s ks k os m t ds es ls fs rs nF nR i = true) :
    ∃ F : Nat, (F : Int) = l ∧ 3 * F + 1 ≤ k ∧ bad (FK ks fs) k ≤ F ∧ TT (GL (FK ks fs) os ds es ls i k) k F = true ∧ CV n l d r p s ks k os m t ds es ls fs rs nF nR i = MV (GL (FK ks fs) os ds es ls i k) k F := by
  obtain ⟨hW, eF, eR, h1, h2, h3⟩ := to_facts h
  obtain ⟨l0, l1, t0, t1⟩ := wo_liars hW
  have hb := to_bad h
  have hq := cb_is h hi
  rw [hc] at hq
  have hq2 : el (FK ks fs) i = 0 ∨ eb rs i = true := by
    by_cases e : el (FK ks fs) i = 0
    · exact .inl e
    · right
      rw [decide_eq_false e, Bool.false_or] at hq
      exact hq.symm
  have E : GO n l d r p s ks k os m t ds es ls fs rs nF nR (i : Int) = GL (FK ks fs) os ds es ls i k := by
    unfold GO; rw [if_pos ⟨h, by omega, by simpa using hq2⟩]; simp
  obtain ⟨F, rfl⟩ : ∃ F : Nat, l = (F : Int) := ⟨l.toNat, by omega⟩
  have hT : TT (GL (FK ks fs) os ds es ls i k) k F = true := by
    have := hc
    unfold CB at this
    rw [E, gl_len] at this
    exact this
  refine ⟨F, rfl, by omega, by omega, hT, ?_⟩
  unfold CV
  rw [E, gl_len]
/-- The first and the last guess that are left lie where those that are up are, but for Err. -/
theorem ends_in {n l d r p s : Int} {ks : List Int} {k : Nat} {os : List Int} {m : Nat} {t : Int} {ds : List Int} {es ls : List (List Int)} {fs rs : List Bool} {nF nR : Nat} (h : TO n l d r p s ks k os m t ds es ls fs rs nF nR = true) {i F : Nat} (hi : i < k) (hF : 3 * F + 1 ≤ k) (hb : bad (FK ks fs) k ≤ F) (hT : TT (GL (FK ks fs) os ds es ls i k) k F = true) {lo hi' : Int} (hM : ∀ j, j < k → el (FK ks fs) j = 0 → lo ≤ MM os ds j ∧ MM os ds j ≤ hi') :
    lo - MM os ds i - r ≤ FI (GL (FK ks fs) os ds es ls i k) k F ∧ LA (GL (FK ks fs) os ds es ls i k) k F ≤ hi' - MM os ds i + r := by
  have hz := gl_len (FK ks fs) os ds es ls i k
  refine ⟨fi_ge hz (by omega) hT ?_, la_le hz (by omega) hT ?_⟩
  · refine Nat.le_trans (cnt_bad _ _ (FK ks fs) k fun j hj h0 => ?_) hb
    have := (guess_err h hi hj h0).1
    have := (hM j hj h0).1
    simp; omega
  · refine Nat.le_trans (cnt_bad _ _ (FK ks fs) k fun j hj h0 => ?_) hb
    have := (guess_err h hi hj h0).2
    have := (hM j hj h0).2
    simp; omega
/-- P6. -/
theorem valid_in {n l d r p s : Int} {ks : List Int} {k : Nat} {os : List Int} {m : Nat} {t : Int} {ds : List Int} {es ls : List (List Int)} {fs rs : List Bool} {nF nR : Nat} (h : TO n l d r p s ks k os m t ds es ls fs rs nF nR = true) {i : Nat} (hi : i < k) (hc : CB n l d r p s ks k os m t ds es ls fs rs nF nR i = true) {lo hi' : Int} (hM : ∀ j, j < k → el (FK ks fs) j = 0 → lo ≤ MM os ds j ∧ MM os ds j ≤ hi') :
    lo - r ≤ MM os ds i + CV n l d r p s ks k os m t ds es ls fs rs nF nR i ∧ MM os ds i + CV n l d r p s ks k os m t ds es ls fs rs nF nR i ≤ hi' + r := by
  obtain ⟨F, hl, hF, hb, hT, hV⟩ := asks h hi hc
  have hz := gl_len (FK ks fs) os ds es ls i k
  obtain ⟨e1, e2⟩ := mv_fl hz (by omega) hT
  obtain ⟨a1, a2⟩ := ends_in h hi hF hb hT hM
  rw [hV, e1]
  omega
/-- The correction lies within the guesses about those that are up. -/
theorem corr_in {n l d r p s : Int} {ks : List Int} {k : Nat} {os : List Int} {m : Nat} {t : Int} {ds : List Int} {es ls : List (List Int)} {fs rs : List Bool} {nF nR : Nat} (h : TO n l d r p s ks k os m t ds es ls fs rs nF nR = true) {i : Nat} (hi : i < k) (hc : CB n l d r p s ks k os m t ds es ls fs rs nF nR i = true) {lo hi' : Int} (hM : ∀ j, j < k → el (FK ks fs) j = 0 → lo ≤ GS (FK ks fs) os ds es ls i j ∧ GS (FK ks fs) os ds es ls i j ≤ hi') :
    lo ≤ CV n l d r p s ks k os m t ds es ls fs rs nF nR i ∧ CV n l d r p s ks k os m t ds es ls fs rs nF nR i ≤ hi' := by
  obtain ⟨F, hl, hF, hb, hT, hV⟩ := asks h hi hc
  have hz := gl_len (FK ks fs) os ds es ls i k
  obtain ⟨e1, e2⟩ := mv_fl hz (by omega) hT
  have a1 : lo ≤ FI (GL (FK ks fs) os ds es ls i k) k F := fi_ge hz (by omega) hT (Nat.le_trans (cnt_bad _ _ (FK ks fs) k fun j hj h0 => by have := (hM j hj h0).1; simp; omega) hb)
  have a2 : LA (GL (FK ks fs) os ds es ls i k) k F ≤ hi' := la_le hz (by omega) hT (Nat.le_trans (cnt_bad _ _ (FK ks fs) k fun j hj h0 => by have := (hM j hj h0).2; simp; omega) hb)
  rw [hV, e1]
  omega
theorem cnt_map (P : Int → Bool) (g : Nat → Int) (k : Nat) : ((List.range k).map g).countP P = (List.range k).countP (fun j => P (g j)) := by rw [List.countP_map]; rfl
/-- Two that ask have one that is up between their ends. -/
theorem cross {n l d r p s : Int} {ks : List Int} {k : Nat} {os : List Int} {m : Nat} {t : Int} {ds : List Int} {es ls : List (List Int)} {fs rs : List Bool} {nF nR : Nat} (h : TO n l d r p s ks k os m t ds es ls fs rs nF nR = true) {i i' F : Nat} (hi : i < k) (hi' : i' < k) (hF : 3 * F + 1 ≤ k) (hb : bad (FK ks fs) k ≤ F) (hT : TT (GL (FK ks fs) os ds es ls i k) k F = true) (hT' : TT (GL (FK ks fs) os ds es ls i' k) k F = true) :
    MM os ds i + FI (GL (FK ks fs) os ds es ls i k) k F ≤ MM os ds i' + LA (GL (FK ks fs) os ds es ls i' k) k F + 2 * r := by
  have hz := gl_len (FK ks fs) os ds es ls i k
  have hz' := gl_len (FK ks fs) os ds es ls i' k
  have c1 : (GL (FK ks fs) os ds es ls i k).countP (fun x => decide (x < FI (GL (FK ks fs) os ds es ls i k) k F)) ≤ F := by
    rw [fi_at hz (by omega) hT, ← (Ow.srt_perm (GL (FK ks fs) os ds es ls i k)).countP_eq]
    exact cnt_below (Ow.srt_sorted _) _
  have c2 : (GL (FK ks fs) os ds es ls i' k).countP (fun x => decide (LA (GL (FK ks fs) os ds es ls i' k) k F < x)) ≤ F := by
    rw [la_at hz' (by omega) hT', ← (Ow.srt_perm (GL (FK ks fs) os ds es ls i' k)).countP_eq]
    exact cnt_above (Ow.srt_sorted _) (by rw [Ow.srt_len]; omega)
  have c3 := bad_cnt (FK ks fs) k
  generalize FI (GL (FK ks fs) os ds es ls i k) k F = X at c1 ⊢
  generalize LA (GL (FK ks fs) os ds es ls i' k) k F = Y at c2 ⊢
  unfold GL at c1 c2
  rw [cnt_map] at c1 c2
  obtain ⟨j, hj, p1, p2, p3⟩ := three _ _ _ k (Nat.lt_of_le_of_lt (Nat.add_le_add (Nat.add_le_add c1 c2) (Nat.le_trans (Nat.le_of_eq c3) hb)) (by omega))
  have h0 : el (FK ks fs) j = 0 := by simpa using p3
  have g1 := guess_err h hi hj h0
  have g2 := guess_err h hi' hj h0
  simp at p1 p2
  omega
/-- P7, the first half: two that ask come to lie within half of what those that are up span, twice Err and 1. -/
theorem half_in {n l d r p s : Int} {ks : List Int} {k : Nat} {os : List Int} {m : Nat} {t : Int} {ds : List Int} {es ls : List (List Int)} {fs rs : List Bool} {nF nR : Nat} (h : TO n l d r p s ks k os m t ds es ls fs rs nF nR = true) {i i' : Nat} (hi : i < k) (hi' : i' < k) (hc : CB n l d r p s ks k os m t ds es ls fs rs nF nR i = true) (hc' : CB n l d r p s ks k os m t ds es ls fs rs nF nR i' = true) {lo up : Int} (hM : ∀ j, j < k → el (FK ks fs) j = 0 → lo ≤ MM os ds j ∧ MM os ds j ≤ up) :
    (MM os ds i + CV n l d r p s ks k os m t ds es ls fs rs nF nR i) - (MM os ds i' + CV n l d r p s ks k os m t ds es ls fs rs nF nR i') ≤ (up - lo) / 2 + 2 * r + 1 := by
  obtain ⟨F, hl, hF, hb, hT, hV⟩ := asks h hi hc
  obtain ⟨F', hl', hF', hb', hT', hV'⟩ := asks h hi' hc'
  obtain rfl : F = F' := by omega
  have hz := gl_len (FK ks fs) os ds es ls i k
  have hz' := gl_len (FK ks fs) os ds es ls i' k
  obtain ⟨e1, e2⟩ := mv_fl hz (by omega) hT
  obtain ⟨f1, f2⟩ := mv_fl hz' (by omega) hT'
  obtain ⟨a1, a2⟩ := ends_in h hi hF hb hT hM
  obtain ⟨b1, b2⟩ := ends_in h hi' hF hb hT' hM
  have x1 := cross h hi hi' hF hb hT hT'
  rw [hV, e1, hV', f1]
  omega

end Go.Proofs.Ytloicicgcdfgnaa.Tu

namespace Go.Proofs.Ytloicicgcdfgnaa.Ls
open Go.ChangeShapes Go.WideShapes Go.ChangeAt Go.RowKit
set_option linter.unusedVariables false

set_option maxHeartbeats 1000000 in
theorem likeInts (a b : Option Addr) (n cap cap' : Nat) (zs : List Int) (w : World) (hr : Row w w.heap.size a n zs) (hs : Row w w.heap.size b n zs) (hn : n ≤ 1048576) :
    Calls Try.prog 72 #[.slice a n cap, .slice b n cap'] w fun e w' => e = .returned (.bool true) ∧ Below w.heap.size w w' := by
  have ⟨hz, hrow⟩ := hr
  have ⟨_, hrow'⟩ := hs
  go_enter Try.func72, Try.ntmps72
  go_wp2
  go_loopw [5] (fun i w' => ∃ k : Nat, k ≤ n ∧ i = .int .i64 k ∧ Below w.heap.size w w') (fun i _ => n - (intOf i).toNat)
  case atStart => exact ⟨0, Nat.zero_le _, rfl, Below.refl _ _⟩
  case round =>
    obtain ⟨k, hk, rfl, hb⟩ := hrel
    by_cases hlt : k < n
    · have hi : (k : Int) < n := by omega
      rcases hrow with hrow | ⟨b1, off, rfl, hB, hc⟩
      · omega
      · rcases hrow' with hrow' | ⟨b2, off', rfl, hB', hc'⟩
        · omega
        · have hc1 := hc k hlt
          rw [← hb.cell (p := ⟨b1, off + k, none⟩) hB] at hc1
          have hc2 := hc' k hlt
          rw [← hb.cell (p := ⟨b2, off' + k, none⟩) hB'] at hc2
          go_wp2
          go_quiet (fail)
          go_wp2
          go_roundw
          case rel => exact ⟨k + 1, by omega, by go_num, below_drewN hb _⟩
          case measure => simp [intOf]; omega
    · have hi : ¬ (k : Int) < n := by omega
      go_wp2
      go_ret
      exact ⟨rfl, hb⟩

end Go.Proofs.Ytloicicgcdfgnaa.Ls

namespace Go.Proofs.Ytloicicgcdfgnaa.Lw
open Go.ChangeShapes Go.WideShapes Go.ChangeAt Go.RowKit
open Ls (el Row)
open Ow (Has Own ints)
open Rd (Flags)
open Bo (eb HasB)
open Wl (KL bad z9 c9 wld WO)
open Tu (trn FK FR R1 RS TO GO GL GS CB CV MM)
open Tr (TT MV)
open Hu (mnK mxK tmK)
open Ss (RowsAt ln rw_ tot)
set_option linter.unusedVariables false
set_option linter.unusedSimpArgs false

/-- The guesses about those of the first j that are up. -/
def GD (ks os ds : List Int) (es ls : List (List Int)) (i : Nat) : Nat → List Int
  | 0 => []
  | j + 1 => if el ks j = 0 then GD ks os ds es ls i j ++ [GS ks os ds es ls i j] else GD ks os ds es ls i j
theorem gd_le (ks os ds : List Int) (es ls : List (List Int)) (i : Nat) : ∀ j, (GD ks os ds es ls i j).length ≤ j
  | 0 => Nat.le_refl _
  | j + 1 => by
    have h := gd_le ks os ds es ls i j
    rw [GD]
    split <;> simp <;> omega
theorem gd_mem {ks os ds : List Int} {es ls : List (List Int)} {i : Nat} {x : Int} : ∀ {j}, x ∈ GD ks os ds es ls i j → ∃ m, m < j ∧ el ks m = 0 ∧ x = GS ks os ds es ls i m
  | 0, h => by cases h
  | j + 1, h => by
    rw [GD] at h
    split at h
    · rcases List.mem_append.1 h with h | h
      · obtain ⟨m, hm, r⟩ := gd_mem h; exact ⟨m, by omega, r⟩
      · rw [List.mem_singleton] at h; exact ⟨j, by omega, by assumption, h⟩
    · obtain ⟨m, hm, r⟩ := gd_mem h; exact ⟨m, by omega, r⟩
theorem gd_has {ks os ds : List Int} {es ls : List (List Int)} {i m : Nat} (h0 : el ks m = 0) : ∀ {j}, m < j → GS ks os ds es ls i m ∈ GD ks os ds es ls i j
  | 0, h => by omega
  | j + 1, h => by
    rw [GD]
    by_cases e : m = j
    · subst e; rw [if_pos h0]; simp
    · have q := gd_has (os := os) (ds := ds) (es := es) (ls := ls) (i := i) h0 (show m < j by omega)
      split
      · exact List.mem_append_left _ q
      · exact q
theorem mn_le {zs : List Int} : ∀ {n m}, m < n → mnK zs n ≤ el zs m
  | 0, _, h => by omega
  | n + 1, m, h => by
    rw [mnK]
    by_cases e : m = n
    · subst e; omega
    · have := mn_le (zs := zs) (show m < n by omega); omega
theorem mx_ge {zs : List Int} : ∀ {n m}, m < n → el zs m ≤ mxK zs n
  | 0, _, h => by omega
  | n + 1, m, h => by
    rw [mxK]
    by_cases e : m = n
    · subst e; omega
    · have := mx_ge (zs := zs) (show m < n by omega); omega
theorem mem_el {zs : List Int} {x : Int} (h : x ∈ zs) : ∃ m, m < zs.length ∧ x = el zs m := by
  obtain ⟨m, hm, e⟩ := List.mem_iff_getElem.1 h
  exact ⟨m, hm, by rw [← e]; simp [el, List.getD, hm]⟩
theorem mn_mem {zs : List Int} {x : Int} (h : x ∈ zs) : mnK zs zs.length ≤ x ∧ x ≤ mxK zs zs.length := by
  obtain ⟨m, hm, rfl⟩ := mem_el h
  exact ⟨mn_le hm, mx_ge hm⟩
theorem tm_all {zs : List Int} (h : ∀ x ∈ zs, Ad.Tm x) : tmK zs zs.length = true := Tu.tm_of (fun j hj => h _ (el_mem hj))
theorem tot_small {zss : List (List Int)} {q : Nat} : ∀ j, (∀ i, i < j → ln zss i ≤ q) → tot zss j ≤ j * q
  | 0, _ => by simp [tot]
  | j + 1, h => by
    have a := tot_small j (fun i hi => h i (by omega))
    have b := h j (by omega)
    rw [tot, Nat.succ_mul]
    omega
section
variable {n l d r p s : Int} {ks : List Int} {k : Nat} {os : List Int} {m : Nat} {t : Int} {ds : List Int} {es ls : List (List Int)} {fs rs : List Bool} {nF nR : Nat}
theorem up_one {zs : List Int} : ∀ k, bad zs k < k → ∃ i, i < k ∧ el zs i = 0
  | 0, h => by omega
  | k + 1, h => by
    rw [bad] at h
    by_cases e : el zs k = 0
    · exact ⟨k, by omega, e⟩
    · rw [if_neg e] at h
      obtain ⟨i, hi, r⟩ := up_one (zs := zs) k (by omega)
      exact ⟨i, by omega, r⟩
theorem go_pos (h : TO n l d r p s ks k os m t ds es ls fs rs nF nR = true) {j : Nat} (hj : j < k) : CB n l d r p s ks k os m t ds es ls fs rs nF nR j = decide (0 < (GO n l d r p s ks k os m t ds es ls fs rs nF nR j).length) ∧
    (0 < (GO n l d r p s ks k os m t ds es ls fs rs nF nR j).length → GO n l d r p s ks k os m t ds es ls fs rs nF nR j = GL (FK ks fs) os ds es ls j k) := by
  have c := Tu.cb_is h hj
  have e : GO n l d r p s ks k os m t ds es ls fs rs nF nR j = if el (FK ks fs) j = 0 ∨ eb rs j = true then GL (FK ks fs) os ds es ls j k else [] := by
    unfold GO
    by_cases q : el (FK ks fs) j = 0 ∨ eb rs j = true
    · rw [if_pos q, if_pos ⟨h, by omega, by simpa using q⟩]; simp
    · rw [if_neg q, if_neg (fun z => q (by simpa using z.2.2))]
  by_cases q : el (FK ks fs) j = 0 ∨ eb rs j = true
  · rw [if_pos q] at e
    refine ⟨?_, fun _ => e⟩
    rw [c, e, Tu.gl_len, decide_eq_true (show 0 < k by omega)]
    rcases q with q | q
    · simp [q]
    · simp [q]
  · rw [if_neg q] at e
    refine ⟨?_, fun q2 => by rw [e] at q2; simp at q2⟩
    rw [c, e]
    have q1 : ¬ el (FK ks fs) j = 0 := fun z => q (.inl z)
    have q2 : eb rs j = false := by cases z : eb rs j with | false => rfl | true => exact absurd (.inr z) q
    simp [q1, q2]
/-- The correction lies within the guesses about those that are up. -/
theorem good_in (h : TO n l d r p s ks k os m t ds es ls fs rs nF nR = true) {j : Nat} (hj : j < k) (hc : CB n l d r p s ks k os m t ds es ls fs rs nF nR j = true) :
    (mnK (GD (FK ks fs) os ds es ls j k) (GD (FK ks fs) os ds es ls j k).length ≤ CV n l d r p s ks k os m t ds es ls fs rs nF nR j ∧ CV n l d r p s ks k os m t ds es ls fs rs nF nR j ≤ mxK (GD (FK ks fs) os ds es ls j k) (GD (FK ks fs) os ds es ls j k).length) ∧
    Hu.HT (GD (FK ks fs) os ds es ls j k) (GD (FK ks fs) os ds es ls j k).length = true := by
  refine ⟨Tu.corr_in h hj hc (fun i hi h0 => mn_mem (gd_has h0 hi)), ?_⟩
  have hpos : 0 < (GD (FK ks fs) os ds es ls j k).length := by
    obtain ⟨hW, _⟩ := Tu.to_facts h
    obtain ⟨l0, l1, _⟩ := Tu.wo_liars hW
    have hb := Tu.to_bad h
    obtain ⟨i, hi, e⟩ := up_one (zs := FK ks fs) k (by omega)
    exact List.length_pos_of_mem (gd_has e hi)
  unfold Hu.HT
  rw [tm_all (fun x hx => by
    obtain ⟨q, hq, _, rfl⟩ := gd_mem hx
    have := Tu.gs_tm h hj hq
    unfold Ad.Tm; omega)]
  have : ((GD (FK ks fs) os ds es ls j k).length == 0) = false := by rw [beq_eq_false_iff_ne]; omega
  rw [this]; rfl
/-- Somebody of the first j has asked. -/
def SN (n l d r p s : Int) (ks : List Int) (k : Nat) (os : List Int) (m : Nat) (t : Int) (ds : List Int) (es ls : List (List Int)) (fs rs : List Bool) (nF nR : Nat) : Nat → Bool
  | 0 => false
  | j + 1 => SN n l d r p s ks k os m t ds es ls fs rs nF nR j || CB n l d r p s ks k os m t ds es ls fs rs nF nR j
theorem sn_of {i : Nat} (hc : CB n l d r p s ks k os m t ds es ls fs rs nF nR i = true) : ∀ j, i < j → SN n l d r p s ks k os m t ds es ls fs rs nF nR j = true
  | 0, h => by omega
  | j + 1, h => by
    rw [SN]
    by_cases e : i = j
    · subst e; rw [hc]; simp
    · rw [sn_of hc j (by omega)]; rfl
theorem sn_all (h : TO n l d r p s ks k os m t ds es ls fs rs nF nR = true) : SN n l d r p s ks k os m t ds es ls fs rs nF nR k = true := by
  obtain ⟨hW, _⟩ := Tu.to_facts h
  obtain ⟨l0, l1, _⟩ := Tu.wo_liars hW
  have hb := Tu.to_bad h
  obtain ⟨i, hi, e⟩ := up_one (zs := FK ks fs) k (by omega)
  refine sn_of (i := i) ?_ k hi
  rw [Tu.cb_is h hi, e]
  rfl
end

end Go.Proofs.Ytloicicgcdfgnaa.Lw
