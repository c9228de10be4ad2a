/-
  Plain facts on new worlds: who is up, what their offs span; laws.has.
-/
import Derived.Test.YtloicicgcdfgnaaSpanOf
import Derived.Test.YtloicicgcdfgnaaWdAll
namespace Go.Proofs.Ytloicicgcdfgnaa.Wl
open Go.ChangeShapes Go.WideShapes Go.ChangeAt Go.RowKit
open Ls (el Row)
open Bo (eb)
open Hu (HT mnK mxK tmK)
open Ad (Tm)
set_option linter.unusedVariables false
set_option linter.unusedSimpArgs false

/-- Whether x is among the first k. -/
def hasK (zs : List Int) (x : Int) : Nat → Bool
  | 0 => false
  | k + 1 => hasK zs x k || (el zs k == x)
theorem hasK_iff (zs : List Int) (x : Int) (k : Nat) : hasK zs x k = true ↔ ∃ j, j < k ∧ el zs j = x := by
  induction k with
  | zero => simp [hasK]
  | succ k ih =>
    rw [hasK, Bool.or_eq_true, ih, beq_iff_eq]
    constructor
    · rintro (⟨j, h1, h2⟩ | h)
      · exact ⟨j, by omega, h2⟩
      · exact ⟨k, by omega, h⟩
    · rintro ⟨j, h1, h2⟩
      by_cases e : j = k
      · subst e; exact .inr h2
      · exact .inl ⟨j, by omega, h2⟩
theorem hasK_later {zs : List Int} {x : Int} {k n : Nat} (h : hasK zs x k = true) (hk : k ≤ n) : hasK zs x n = true := by
  rw [hasK_iff] at h ⊢
  obtain ⟨j, h1, h2⟩ := h
  exact ⟨j, by omega, h2⟩

set_option maxHeartbeats 1000000 in
theorem has (a : Option Addr) (n cap : Nat) (zs : List Int) (x : Int) (w : World) (hr : Row w w.heap.size a n zs) (hn : n ≤ 1048576) :
    Calls Try.prog 33 #[.slice a n cap, .int .i64 x] w fun e w' => e = .returned (.bool (hasK zs x n)) ∧ w' = w := by
  obtain ⟨hz, hrow⟩ := hr
  go_enter Try.func33, Try.ntmps33
  go_wp2
  go_loop [5] (fun i => ∃ k : Nat, k ≤ n ∧ i = .int .i64 k ∧ Hid (hasK zs x k = false)) (fun i => n - (intOf i).toNat)
  case atStart => exact ⟨0, Nat.zero_le _, rfl, rfl⟩
  case round =>
    obtain ⟨k, hk, rfl, HF⟩ := hrel
    by_cases hlt : k < n
    · have hi : (k : Int) < n := by omega
      rcases hrow with hrow | ⟨b, off, rfl, hB, hc⟩
      · omega
      have hc1 := hc k hlt
      cases hx : (el zs k == x) with
      | true =>
        have E : Hid (hasK zs x n = true) := hasK_later (k := k + 1) (by rw [hasK, hx]; simp) hlt
        go_wp2
        go_ret
        exact ⟨Sp.retb E.out.symm, rfl⟩
      | false =>
        have E : Hid (hasK zs x (k + 1) = false) := by unfold Hid; rw [hasK, hx, HF.out]; rfl
        go_wp2
        go_round
        case rel => exact ⟨k + 1, by omega, by go_num, E⟩
        case measure => simp [intOf]; omega
    · have hi : ¬ (k : Int) < n := by omega
      have e : k = n := by omega
      subst e
      go_wp2
      go_ret
      exact ⟨Sp.retb HF.out.symm, rfl⟩

theorem up_all {zs : List Int} {k i : Nat} (h : i < k) (h0 : el zs i = 0) : (i : Int) ∈ up zs k := by
  induction k with
  | zero => omega
  | succ k ih =>
    unfold up
    by_cases e : i = k
    · subst e; rw [if_pos h0]; simp
    · have q := ih (by omega)
      split
      · exact List.mem_append_left _ q
      · exact q
theorem mem_el {zs : List Int} {x : Int} (h : x ∈ zs) : ∃ j, j < zs.length ∧ el zs j = x := by
  obtain ⟨j, h1, h2⟩ := List.getElem_of_mem h
  exact ⟨j, h1, by simp [el, List.getD, h1, h2]⟩
/-- One is up just when it does not lie. -/
theorem has_up (bs : List Bool) (k i : Nat) (h : i < k) : hasK (up (KL bs) k) (i : Int) (up (KL bs) k).length = !eb bs i := by
  have e := kl_el bs i
  cases hb : eb bs i with
  | false =>
    rw [hb] at e
    rw [Bool.not_false, hasK_iff]
    exact mem_el (up_all h e)
  | true =>
    rw [hb] at e
    rw [Bool.not_true, Bool.eq_false_iff]
    intro q
    obtain ⟨j, h1, h2⟩ := (hasK_iff _ _ _).1 q
    have m := el_mem _ j h1
    rw [h2] at m
    obtain ⟨i', h3, h4, h5⟩ := up_mem m
    have : i = i' := by omega
    subst this
    rw [e] at h5
    cases h5

theorem mn_le (zs : List Int) (n j : Nat) (h : j < n) : mnK zs n ≤ el zs j := by
  induction n with
  | zero => omega
  | succ n ih =>
    unfold mnK
    by_cases e : j = n
    · subst e; omega
    · have := ih (by omega); omega
theorem le_mx (zs : List Int) (n j : Nat) (h : j < n) : el zs j ≤ mxK zs n := by
  induction n with
  | zero => omega
  | succ n ih =>
    unfold mxK
    by_cases e : j = n
    · subst e; omega
    · have := ih (by omega); omega
theorem tm_all {zs : List Int} {n : Nat} (h : ∀ j, j < n → Tm (el zs j)) : tmK zs n = true := by
  induction n with
  | zero => rfl
  | succ n ih => unfold tmK; rw [ih (fun j hj => h j (by omega)), decide_eq_true (h n (by omega))]; rfl

/-- What is known of a right world's answers. -/
theorem right {n l d r p s : Int} {ks os : List Int} {k m : Nat} {t : Int} (h : WO n l d r p s ks k os m t = true) :
    k = m ∧ UL n l d r p s ks k os m t = up ks k ∧ HT (OL n l d r p s ks k os m t) (OL n l d r p s ks k os m t).length = true ∧
      (∀ j, j < (OL n l d r p s ks k os m t).length → lo (OL n l d r p s ks k os m t) ≤ el (OL n l d r p s ks k os m t) j ∧ el (OL n l d r p s ks k os m t) j ≤ hi (OL n l d r p s ks k os m t)) := by
  have h' := h
  unfold WO at h'
  simp only [Bool.and_eq_true, beq_iff_eq, decide_eq_true_eq] at h'
  obtain ⟨h1, ⟨h2, h3⟩, ⟨h4, h5⟩, h6, h7⟩ := h'
  have hU : UL n l d r p s ks k os m t = up ks k := by unfold UL; rw [h]; rfl
  have hn := Cf.n1_iff.1 (Cf.cr_zero.1 (Cf.cp_zero.1 h1).1).1
  have hl := Cf.l1_iff.1 (Cf.cr_zero.1 (Cf.cp_zero.1 h1).1).2.1
  have hlen := up_len ks k
  have hol := ol_len n l d r p s ks k os m t
  rw [hU] at hol
  have ht : HT (OL n l d r p s ks k os m t) (OL n l d r p s ks k os m t).length = true := by
    unfold HT
    have a1 : ((OL n l d r p s ks k os m t).length == 0) = false := by rw [beq_eq_false_iff_ne]; omega
    rw [a1, tm_all]
    · rfl
    · intro j hj
      obtain ⟨i, e1, e2, e3⟩ := ul_at (n := n) (l := l) (d := d) (r := r) (p := p) (s := s) (ks := ks) (k := k) (os := os) (m := m) (t := t) (j := j) (by rw [← ol_len]; exact hj)
      rw [e3]
      have q := all_iff.1 h5 i e2
      unfold Sp.LK at q
      simp at q
      unfold Tm
      omega
  refine ⟨by omega, hU, ht, fun j hj => ?_⟩
  unfold lo hi
  rw [ht]
  exact ⟨mn_le _ _ j hj, le_mx _ _ j hj⟩

end Go.Proofs.Ytloicicgcdfgnaa.Wl
