/-
  Who signed: flags in memory, counted.
-/
import Derived.Test.YtdjeffjjijkhbaaPf
namespace Go.Proofs.Ytdjeffjjijkhbaa.Mi
open Go.ChangeShapes Go.WideShapes Go.ChangeAt Go.RowKit
set_option linter.unusedVariables false
set_option linter.unusedSimpArgs false

/-- Sixteen flags at block g, from o on. -/
def FL (w : World) (g o : Nat) (F : Nat → Bool) : Prop := ∀ k, k < 16 → w.cell? ⟨g, o + k, none⟩ = some (.bool (F k)) ∧ w.frozen? ⟨g, o + k, none⟩ = false
theorem FL.block {w w1 : World} {g o : Nat} {F : Nat → Bool} (h : FL w g o F) (e : w1.heap[g]? = w.heap[g]?) : FL w1 g o F := fun k hk => by
  obtain ⟨a, b⟩ := h k hk
  exact ⟨by rw [World.cell?_of_block (a := ⟨g, o + k, none⟩) e]; exact a, by rw [World.frozen?_of_block (a := ⟨g, o + k, none⟩) e]; exact b⟩
theorem FL.congr {w : World} {g o : Nat} {F G : Nat → Bool} (h : FL w g o F) (e : ∀ k, k < 16 → F k = G k) : FL w g o G := fun k hk => by rw [← e k hk]; exact h k hk
/-- One flag is set. -/
theorem FL.up {w : World} {g o : Nat} {F : Nat → Bool} (h : FL w g o F) (j : Nat) : FL (w.setCell ⟨g, o + j, none⟩ (.bool true)) g o (up F j) := fun k hk => by
  obtain ⟨a, b⟩ := h k hk
  refine ⟨?_, by rw [World.frozen?_setCell]; exact b⟩
  by_cases e : k = j
  · subst e
    rw [World.cell?_setCell_same _ _ _ a]
    simp [Mi.up]
  · rw [World.cell?_setCell_other _ _ _ _ (by simp <;> omega), a]
    unfold Mi.up
    rw [decide_eq_false e, Bool.or_false]
theorem FL.other {w : World} {g o p : Nat} {F : Nat → Bool} (h : FL w g o F) (hp : p + 16 ≤ o ∨ o + 16 ≤ p + 0 ∨ True) (i : Nat) (hi : i < o ∨ o + 16 ≤ i) (v : Value) : FL (w.setCell ⟨g, i, none⟩ v) g o F := fun k hk => by
  obtain ⟨a, b⟩ := h k hk
  exact ⟨by rw [World.cell?_setCell_other _ _ _ _ (by simp <;> omega)]; exact a, by rw [World.frozen?_setCell]; exact b⟩
theorem FL.setOther {w : World} {g o q : Nat} {F : Nat → Bool} (h : FL w g o F) (hq : q ≠ g) (i : Nat) (v : Value) : FL (w.setCell ⟨q, i, none⟩ v) g o F :=
  h.block (Below.heap_setCell _ _ _ _ (by simp <;> omega))

set_option maxHeartbeats 2000000 in
theorem i_count (g o : Nat) (F : Nat → Bool) (w : World) (h : FL w g o F) :
    Calls Try.prog 43 #[.pointer (some ⟨g, o, none⟩)] w fun e w' => e = .returned (.int .i64 (ct F 16 : Nat)) ∧ w' = w := by
  go_enter Try.func43, Try.ntmps43
  go_wp2
  go_loopw [3, 7] (fun p q wr => ∃ (k d : Nat), k ≤ 16 ∧ p = .int .i64 (d : Int) ∧ q = .int .i64 (k : Int) ∧ Hid (ct F k = d) ∧ wr = w) (fun _ q _ => 16 - (intOf q).toNat)
  case atStart => exact ⟨0, 0, by omega, rfl, rfl, rfl, rfl⟩
  case round =>
    obtain ⟨k, d, hk, rfl, rfl, HD, rfl⟩ := hrel
    have hd := ct_le F k
    rw [HD.out] at hd
    by_cases hlt : k < 16
    · have hi : (k : Int) < 16 := by omega
      have e0 := (h k hlt).1
      cases hF : F k with
      | true =>
        have HN : Hid (ct F (k + 1) = d + 1) := ct_yes HD.out hF
        rw [hF] at e0
        clear hF
        go_wp2
        go_roundw
        case rel => exact ⟨k + 1, d + 1, by omega, by go_num, by go_num, HN, by first | trivial | rfl⟩
        case measure => simp [intOf]; omega
      | false =>
        have HN : Hid (ct F (k + 1) = d) := ct_no HD.out hF
        rw [hF] at e0
        clear hF
        go_wp2
        go_roundw
        case rel => exact ⟨k + 1, d, by omega, rfl, by go_num, HN, by first | trivial | rfl⟩
        case measure => simp [intOf]; omega
    · have hi : ¬ (k : Int) < 16 := by omega
      obtain rfl : k = 16 := by omega
      go_wp2
      go_ret
      rw [HD.out]
      exact ⟨rfl, rfl⟩

end Go.Proofs.Ytdjeffjjijkhbaa.Mi
