/-
  The Go functions AddNs, SubNs and FloorDiv of impl, AddNs and SubNs of spec, each by one answer, at every two int64s.
-/
import Derived.Test.YtimakfokgcnklaaGreatRows
import Derived.WalkKit
import Derived.ProofKit
import Derived.OpenShut
import Derived.Below
namespace Go.Proofs.YtimakfokgcnklaaGreat.Ad
open Go.ChangeShapes Go.WideShapes Go.ChangeAt Go.RowKit
set_option linter.unusedVariables false

theorem ret2 {a b : Int} {x y : Bool} (h : a = b) (k : x = y) : Ending.returned (.tuple #[.int .i64 a, .bool x]) = .returned (.tuple #[.int .i64 b, .bool y]) := by rw [h, k]
abbrev Tm (n : Int) : Prop := -4000000000000000000 ≤ n ∧ n ≤ 4000000000000000000
def AT (a b : Int) : Bool := decide (Tm a ∧ Tm b ∧ Tm (a + b))
def AV (a b : Int) : Int := if Tm a ∧ Tm b ∧ Tm (a + b) then a + b else 0
def ST (a b : Int) : Bool := decide (Tm a ∧ Tm b ∧ Tm (a - b))
def SV (a b : Int) : Int := if Tm a ∧ Tm b ∧ Tm (a - b) then a - b else 0

theorem a_yes {a b : Int} (h : Tm a ∧ Tm b ∧ Tm (a + b)) : AV a b = a + b ∧ AT a b = true := ⟨by rw [AV, if_pos h], decide_eq_true h⟩
theorem a_no {a b : Int} (h : ¬ (Tm a ∧ Tm b ∧ Tm (a + b))) : AV a b = 0 ∧ AT a b = false := ⟨by rw [AV, if_neg h], decide_eq_false h⟩
theorem s_yes {a b : Int} (h : Tm a ∧ Tm b ∧ Tm (a - b)) : SV a b = a - b ∧ ST a b = true := ⟨by rw [SV, if_pos h], decide_eq_true h⟩
theorem s_no {a b : Int} (h : ¬ (Tm a ∧ Tm b ∧ Tm (a - b))) : SV a b = 0 ∧ ST a b = false := ⟨by rw [SV, if_neg h], decide_eq_false h⟩

/-- What is added is taken away again. -/
theorem back {a b : Int} (h : AT a b = true) : SV (AV a b) b = a ∧ ST (AV a b) b = true := by
  have k := of_decide_eq_true h
  rw [(a_yes k).1]
  obtain ⟨h1, h2, h3⟩ := k
  have := s_yes (a := a + b) (b := b) ⟨h3, h2, by have := h1; omega, by have := h1; omega⟩
  exact ⟨by rw [this.1]; omega, this.2⟩

theorem io (a : Int) (w : World) :
    Calls Tryz.prog 118 #[.int .i64 a] w fun e w' => e = .returned (.bool (decide (Tm a))) ∧ w' = w := by
  by_cases h1 : (-4000000000000000000 : Int) ≤ a
  · by_cases h2 : a ≤ 4000000000000000000
    · rw [decide_eq_true (show Tm a from ⟨h1, h2⟩)]
      go_enter Tryz.func118, Tryz.ntmps118
      go_wp2
      go_ret
      exact ⟨rfl, rfl⟩
    · rw [decide_eq_false (show ¬ Tm a from fun h => h2 h.2)]
      go_enter Tryz.func118, Tryz.ntmps118
      go_wp2
      go_ret
      exact ⟨rfl, rfl⟩
  · rw [decide_eq_false (show ¬ Tm a from fun h => h1 h.1)]
    go_enter Tryz.func118, Tryz.ntmps118
    go_wp2
    go_ret
    exact ⟨rfl, rfl⟩

theorem floor_t {n k : Int} (hk : 1 ≤ k) (h : n.tmod k < 0) : n.tdiv k - 1 = n / k := by
  have hn : n < 0 := by
    rcases Int.lt_or_le n 0 with h' | h'
    · exact h'
    · have := Int.tmod_nonneg k h'; omega
  have hd : ¬ k ∣ n := fun d => by rw [Int.tmod_eq_zero_of_dvd d] at h; omega
  rw [Int.tdiv_eq_ediv, if_neg (by rintro (h' | h'); omega; exact hd h'), Int.sign_eq_one_of_pos (by omega)]; omega
theorem floor_e {n k : Int} (hk : 1 ≤ k) (h : ¬ n.tmod k < 0) : n.tdiv k = n / k := by
  rw [Int.tdiv_eq_ediv]
  by_cases h0 : 0 ≤ n
  · rw [if_pos (.inl h0)]; omega
  · have : n.tmod k = 0 := by
      have h1 := Int.tmod_nonneg k (a := -n) (by omega)
      rw [Int.neg_tmod] at h1; omega
    rw [if_pos (.inr (Int.dvd_of_tmod_eq_zero this))]; omega
theorem div_bd {n k : Int} (hk : 1 ≤ k) (h1 : (-4000000000000000000 : Int) ≤ n) (h2 : n ≤ 4000000000000000000) : -4000000000000000000 ≤ n / k ∧ n / k ≤ 4000000000000000000 := by
  have e := Int.mul_ediv_add_emod n k
  have m0 := Int.emod_nonneg n (b := k) (by omega)
  have m1 := Int.emod_lt_of_pos n (b := k) (by omega)
  refine ⟨(Int.le_ediv_iff_mul_le (by omega)).2 ?_, ?_⟩
  · omega
  · have : n / k < 4000000000000000000 + 1 := (Int.ediv_lt_iff_lt_mul (by omega)).2 (by omega)
    omega

end Go.Proofs.YtimakfokgcnklaaGreat.Ad
