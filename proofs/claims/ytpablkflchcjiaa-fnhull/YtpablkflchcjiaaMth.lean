/-
  On lists alone: the hull's ends, what is left of a trimmed list, its middle.
-/
import Derived.Test.YtpablkflchcjiaaMid
import Derived.Test.YtpablkflchcjiaaSpread
namespace Go.Proofs.Ytpablkflchcjiaa.Tr
open Go.ChangeShapes Go.WideShapes Go.ChangeAt Go.RowKit
open Ad (Tm)
open Ls (el Row)
open Hu (mnK mxK tmK HT)
open Ow (Own Has srt ints)
set_option linter.unusedVariables false

theorem mm_all {zs : List Int} : ∀ n k, k < n → mnK zs n ≤ el zs k ∧ el zs k ≤ mxK zs n
  | 0, k => by omega
  | n + 1, k => by
    intro hk
    have e1 : mnK zs (n + 1) = min (mnK zs n) (el zs n) := rfl
    have e2 : mxK zs (n + 1) = max (mxK zs n) (el zs n) := rfl
    rw [e1, e2]
    by_cases e : k = n
    · subst e; omega
    · have := mm_all (zs := zs) n k (by omega)
      omega
theorem mm_mem {zs : List Int} {n : Nat} (hz : zs.length = n) {x : Int} (hx : x ∈ zs) : mnK zs n ≤ x ∧ x ≤ mxK zs n := by
  obtain ⟨k, hk, rfl⟩ := List.mem_iff_getElem.1 hx
  have := mm_all (zs := zs) n k (by omega)
  rw [Ow.el_get hk] at this
  exact this
/-- The ends are among them. -/
theorem mm_in {zs : List Int} {n : Nat} (h : 0 < n) : (∃ k, k < n ∧ el zs k = mnK zs n) ∧ ∃ k, k < n ∧ el zs k = mxK zs n := by
  obtain ⟨m, rfl⟩ : ∃ m, n = m + 1 := ⟨n - 1, by omega⟩
  clear h
  induction m with
  | zero => exact ⟨⟨0, by omega, (Hu.mn1 zs).symm⟩, ⟨0, by omega, (Hu.mx1 zs).symm⟩⟩
  | succ m ih =>
    obtain ⟨⟨k1, h1, e1⟩, ⟨k2, h2, e2⟩⟩ := ih
    have q1 : mnK zs (m + 1 + 1) = min (mnK zs (m + 1)) (el zs (m + 1)) := rfl
    have q2 : mxK zs (m + 1 + 1) = max (mxK zs (m + 1)) (el zs (m + 1)) := rfl
    refine ⟨?_, ?_⟩
    · by_cases h : mnK zs (m + 1) ≤ el zs (m + 1)
      · exact ⟨k1, by omega, by rw [q1]; omega⟩
      · exact ⟨m + 1, by omega, by rw [q1]; omega⟩
    · by_cases h : el zs (m + 1) ≤ mxK zs (m + 1)
      · exact ⟨k2, by omega, by rw [q2]; omega⟩
      · exact ⟨m + 1, by omega, by rw [q2]; omega⟩
theorem tm_of {zs : List Int} {n : Nat} (hz : zs.length = n) (h : ∀ x ∈ zs, Tm x) : tmK zs n = true := by
  have : ∀ k, k ≤ n → tmK zs k = true := by
    intro k
    induction k with
    | zero => intro _; rfl
    | succ k ih =>
      intro hk
      show (tmK zs k && decide (Tm (el zs k))) = true
      rw [ih (by omega), decide_eq_true (by rw [Ow.el_get (by omega)]; exact h _ (List.getElem_mem _))]
      rfl
  exact this n (Nat.le_refl _)

theorem low {L : List Int} {f : Nat} {m : Int} (hs : L.Pairwise (· ≤ ·)) (hf : f < L.length) (hc : L.countP (fun x => decide (x < m)) ≤ f) : m ≤ L[f] := by
  rcases Int.lt_or_le L[f] m with h | h
  · exfalso
    have h1 : (L.take (f + 1)).countP (fun x => decide (x < m)) = (L.take (f + 1)).length := by
      rw [List.countP_eq_length]
      intro a ha
      obtain ⟨j, hj, rfl⟩ := List.mem_iff_getElem.1 ha
      rw [List.length_take] at hj
      rw [List.getElem_take]
      apply decide_eq_true
      by_cases e : j = f
      · subst e; exact h
      · exact Int.lt_of_le_of_lt (List.pairwise_iff_getElem.1 hs j f (by omega) hf (by omega)) h
    rw [List.length_take] at h1
    have h2 := List.countP_append (p := fun x : Int => decide (x < m)) (l₁ := L.take (f + 1)) (l₂ := L.drop (f + 1))
    rw [List.take_append_drop] at h2
    omega
  · exact h
theorem high {L : List Int} {f : Nat} {m : Int} (hs : L.Pairwise (· ≤ ·)) (hf : f < L.length) (hc : L.countP (fun x => decide (m < x)) ≤ f) : L[L.length - 1 - f]'(by omega) ≤ m := by
  rcases Int.lt_or_le m (L[L.length - 1 - f]'(by omega)) with h | h
  · exfalso
    have h1 : (L.drop (L.length - 1 - f)).countP (fun x => decide (m < x)) = (L.drop (L.length - 1 - f)).length := by
      rw [List.countP_eq_length]
      intro a ha
      obtain ⟨j, hj, rfl⟩ := List.mem_iff_getElem.1 ha
      rw [List.length_drop] at hj
      rw [List.getElem_drop]
      apply decide_eq_true
      by_cases e : j = 0
      · subst e; exact h
      · exact Int.lt_of_lt_of_le h (List.pairwise_iff_getElem.1 hs (L.length - 1 - f) (L.length - 1 - f + j) (by omega) (by omega) (by omega))
    rw [List.length_drop] at h1
    have h2 := List.countP_append (p := fun x : Int => decide (m < x)) (l₁ := L.take (L.length - 1 - f)) (l₂ := L.drop (L.length - 1 - f))
    rw [List.take_append_drop] at h2
    omega
  · exact h

theorem el_tl {zs : List Int} {n F k : Nat} (hz : zs.length = n) (h : TT zs n F = true) (hk : k < n - 2 * F) : el (TL zs n F) k = (srt zs)[F + k]'(by rw [Ow.srt_len]; omega) := by
  have hl : F + k < (srt zs).length := by rw [Ow.srt_len]; omega
  rw [tl_yes h, Ow.el_get (by rw [List.length_take, List.length_drop, Ow.srt_len]; omega), List.getElem_take, List.getElem_drop]

/-- With at most F of them wrong. -/
theorem trim_in {zs ys : List Int} {n1 n F : Nat} (h1 : zs.length = n1) (hy : ys.length ≤ F) (hn : (zs ++ ys).length = n) (h2 : 2 * F < n) (hT : TT (zs ++ ys) n F = true) :
    mnK zs n1 ≤ el (TL (zs ++ ys) n F) 0 ∧ el (TL (zs ++ ys) n F) (n - 2 * F - 1) ≤ mxK zs n1 ∧ mnK zs n1 ≤ MV (zs ++ ys) n F ∧ MV (zs ++ ys) n F ≤ mxK zs n1 := by
  have hs := Ow.srt_sorted (zs ++ ys)
  have hl : (srt (zs ++ ys)).length = n := by rw [Ow.srt_len]; exact hn
  have c1 : (srt (zs ++ ys)).countP (fun x => decide (x < mnK zs n1)) ≤ F := by
    rw [(Ow.srt_perm (zs ++ ys)).countP_eq, List.countP_append]
    have : zs.countP (fun x => decide (x < mnK zs n1)) = 0 := by
      rw [List.countP_eq_zero]
      intro a ha
      have := (mm_mem h1 ha).1
      simp; omega
    have := List.countP_le_length (p := fun x : Int => decide (x < mnK zs n1)) (l := ys)
    omega
  have c2 : (srt (zs ++ ys)).countP (fun x => decide (mxK zs n1 < x)) ≤ F := by
    rw [(Ow.srt_perm (zs ++ ys)).countP_eq, List.countP_append]
    have : zs.countP (fun x => decide (mxK zs n1 < x)) = 0 := by
      rw [List.countP_eq_zero]
      intro a ha
      have := (mm_mem h1 ha).2
      simp; omega
    have := List.countP_le_length (p := fun x : Int => decide (mxK zs n1 < x)) (l := ys)
    omega
  have a1 := low hs (f := F) (by omega) c1
  have a2 := high hs (f := F) (by omega) c2
  have e0 := el_tl hn hT (k := 0) (by omega)
  have e1 := el_tl hn hT (k := n - 2 * F - 1) (by omega)
  have q0 : el (TL (zs ++ ys) n F) 0 = (srt (zs ++ ys))[F]'(by omega) := e0
  have q1 : el (TL (zs ++ ys) n F) (n - 2 * F - 1) = (srt (zs ++ ys))[(srt (zs ++ ys)).length - 1 - F]'(by omega) := by
    rw [e1]
    congr 1
    omega
  have q2 : (srt (zs ++ ys))[F]'(by omega) ≤ (srt (zs ++ ys))[(srt (zs ++ ys)).length - 1 - F]'(by omega) := by
    by_cases e : F = (srt (zs ++ ys)).length - 1 - F
    · exact Int.le_of_eq (by congr 1)
    · exact List.pairwise_iff_getElem.1 hs _ _ (by omega) (by omega) (by omega)
  rw [← q0] at a1 q2
  rw [← q1] at a2 q2
  refine ⟨a1, a2, ?_⟩
  rw [mv_yes hT, FL, tl_len hn hT]
  omega

/-- It does not hang on the order. -/
theorem srt_same {xs ys : List Int} (h : xs.Perm ys) : srt xs = srt ys :=
  Ow.sorted_one (Ow.srt_sorted _) (Ow.srt_sorted _) ((Ow.srt_perm xs).trans (h.trans (Ow.srt_perm ys).symm))
theorem srt_map (zs : List Int) (b : Int) : srt (zs.map (· + b)) = (srt zs).map (· + b) := by
  refine Ow.sorted_one (Ow.srt_sorted _) ?_ ((Ow.srt_perm _).trans ((Ow.srt_perm zs).symm.map _))
  rw [List.pairwise_map]
  exact (Ow.srt_sorted zs).imp (by intro a b h; omega)
theorem mv_back {zs : List Int} {n F : Nat} (h1 : TT zs n F = true) (h2 : TT zs.reverse n F = true) : MV zs.reverse n F = MV zs n F := by
  rw [mv_yes h1, mv_yes h2, FL, FL, tl_yes h1, tl_yes h2, srt_same (List.reverse_perm zs)]
theorem el_map {L : List Int} {b : Int} {k : Nat} (hk : k < L.length) : el (L.map (· + b)) k = el L k + b := by
  rw [Ow.el_get (by simpa using hk), Ow.el_get hk, List.getElem_map]
theorem mv_later {zs : List Int} {n F : Nat} {b : Int} (hz : zs.length = n) (h0 : 2 * F < n) (h1 : TT zs n F = true) (h2 : TT (zs.reverse.map (· + b)) n F = true) : MV (zs.reverse.map (· + b)) n F = MV zs n F + b := by
  have e : TL (zs.reverse.map (· + b)) n F = (TL zs n F).map (· + b) := by
    rw [tl_yes h1, tl_yes h2, srt_map, srt_same (List.reverse_perm zs), List.map_take, List.map_drop]
  have hl := tl_len hz h1
  rw [mv_yes h1, mv_yes h2, FL, FL, e, List.length_map, el_map (by omega), el_map (by omega)]
  omega

/-- The sum of the first k. -/
def sumK (zs : List Int) : Nat → Int
  | 0 => 0
  | k + 1 => sumK zs k + el zs k
theorem sum_perm {xs ys : List Int} (h : xs.Perm ys) : xs.sum = ys.sum := by
  induction h with
  | nil => rfl
  | cons x _ ih => simp [ih]
  | swap x y l => simp; omega
  | trans _ _ ih1 ih2 => rw [ih1, ih2]
theorem sum_take {zs : List Int} : ∀ k, k ≤ zs.length → sumK zs k = (zs.take k).sum
  | 0 => by intro _; simp [sumK]
  | k + 1 => by
    intro h
    have e : zs.take (k + 1) = zs.take k ++ [zs[k]'(by omega)] := (List.take_append_getElem (by omega)).symm
    rw [sumK, sum_take k (by omega), Ow.el_get (by omega), e, List.sum_append]
    simp
theorem sum_all {zs : List Int} {n : Nat} (hz : zs.length = n) : sumK zs n = zs.sum := by
  rw [sum_take n (by omega), List.take_of_length_le (by omega)]
theorem sum_srt {zs : List Int} {n : Nat} (hz : zs.length = n) : sumK (srt zs) n = sumK zs n := by
  rw [sum_all hz, sum_all (by rw [Ow.srt_len]; exact hz), sum_perm (Ow.srt_perm zs)]
theorem sum_bd {zs : List Int} {n : Nat} (hz : zs.length = n) {m : Int} (hm : 0 ≤ m) (h : ∀ x ∈ zs, -m ≤ x ∧ x ≤ m) : ∀ k, k ≤ n → -(m * k) ≤ sumK zs k ∧ sumK zs k ≤ m * k
  | 0 => by intro _; simp [sumK]
  | k + 1 => by
    intro hk
    have := sum_bd hz hm h k (by omega)
    have h2 := h _ (List.getElem_mem (l := zs) (n := k) (by omega))
    rw [← Ow.el_get (by omega)] at h2
    have e : m * ((k + 1 : Nat) : Int) = m * k + m := by rw [Int.natCast_add, Int.mul_add]; simp
    rw [sumK, e]
    omega

end Go.Proofs.Ytpablkflchcjiaa.Tr
