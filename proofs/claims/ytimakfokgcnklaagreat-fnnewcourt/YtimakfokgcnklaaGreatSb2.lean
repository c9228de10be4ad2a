/-
  Slices of seals that are marked, and whose marks are held; letters: a copy of one, whether two are alike, marks.
-/
import Derived.Test.YtimakfokgcnklaaGreatSb
namespace Go.Proofs.YtimakfokgcnklaaGreat.Sb
open Go.ChangeShapes Go.WideShapes Go.ChangeAt Go.RowKit
open Rm (Room)
set_option linter.unusedVariables false
set_option linter.unusedSimpArgs false

theorem grown_set {w wr : World} {g : Nat} (h : w.grownBy wr (some g)) (i : Nat) (u : Value) : w.grownBy (wr.setCell ⟨g, i, none⟩ u) (some g) :=
  ⟨h.os, h.tape, h.output, by have := h.size; simpa using this, fun j hj hne => by rw [Below.heap_setCell _ _ _ _ (by simpa using hne)]; exact h.block j hj hne⟩
/-- What is written when n are marked. -/
def smarks (s : Int) (n : Nat) : List S3 := (List.range n).map fun k : Nat => (s + 3 * (k : Int), s + 3 * (k : Int) + 1, s + 3 * (k : Int) + 1 + 1)
theorem es_marks {s : Int} {n k : Nat} (h : k < n) : es (smarks s n) k = (s + 3 * (k : Int), s + 3 * (k : Int) + 1, s + 3 * (k : Int) + 1 + 1) := by simp [es, smarks, List.getD, h]

set_option maxHeartbeats 4000000 in
theorem markSealS (s : Int) (B g off n cap : Nat) (ss : List S3) (w : World) (h : SHas w B g off n ss) (hn : n ≤ 1048576) (hs0 : 0 ≤ s) (hs1 : s ≤ 100000000) :
    Calls Tryz.prog 78 #[.slice (some ⟨g, off, none⟩) n cap, .int .i64 s] w fun e w' => e = .returned (.int .i64 (s + 3 * (n : Int))) ∧ SHas w' B g off n (smarks s n) ∧ w.grownBy w' (some g) := by
  go_enter Tryz.func78, Tryz.ntmps78
  go_wp2
  go_loopw [1, 5] (fun q i wr => ∃ k : Nat, k ≤ n ∧ i = .int .i64 k ∧ q = .int .i64 (s + 3 * (k : Int)) ∧ Hid (∃ ts, SHas wr B g off n ts ∧ (∀ j, j < k → es ts j = (s + 3 * (j : Int), s + 3 * (j : Int) + 1, s + 3 * (j : Int) + 1 + 1)) ∧ w.grownBy wr (some g))) (fun _ i _ => n - (intOf i).toNat)
  case atStart => exact ⟨0, Nat.zero_le _, rfl, by simp, ⟨ss, h, fun j hj => by omega, World.grownBy.refl _ _⟩⟩
  case round =>
    obtain ⟨k, hk, rfl, rfl, HH⟩ := hrel
    obtain ⟨ts, hS, hts, hgr⟩ := HH.out
    clear HH h
    by_cases hlt : k < n
    · have hi : (k : Int) < n := by omega
      obtain ⟨⟨d0, f0⟩, ⟨d1, f1⟩, d2, f2⟩ := hS.cells k hlt
      have hS3 := hS.put k (s + 3 * (k : Int), s + 3 * (k : Int) + 1, s + 3 * (k : Int) + 1 + 1)
      have hg3 := grown_set (grown_set (grown_set hgr (off + k * 3) (.int .i64 (s + 3 * (k : Int)))) (off + k * 3 + 1) (.int .i64 (s + 3 * (k : Int) + 1))) (off + k * 3 + 2) (.int .i64 (s + 3 * (k : Int) + 1 + 1))
      have hT3 : Hid (∀ j, j < k + 1 → es (ts.set k (s + 3 * (k : Int), s + 3 * (k : Int) + 1, s + 3 * (k : Int) + 1 + 1)) j = (s + 3 * (j : Int), s + 3 * (j : Int) + 1, s + 3 * (j : Int) + 1 + 1)) := fun j hj => by
        rw [es_set _ _ _ _ (by rw [hS.1]; exact hlt)]
        by_cases e : j = k
        · rw [if_pos e, e]
        · rw [if_neg e]; exact hts j (by omega)
      clear hS hts hgr
      have HQ : Hid (SHas (((wr.setCell ⟨g, off + k * 3, none⟩ (.int .i64 (s + 3 * (k : Int)))).setCell ⟨g, off + k * 3 + 1, none⟩ (.int .i64 (s + 3 * (k : Int) + 1))).setCell ⟨g, off + k * 3 + 2, none⟩ (.int .i64 (s + 3 * (k : Int) + 1 + 1))) B g off n (ts.set k (s + 3 * (k : Int), s + 3 * (k : Int) + 1, s + 3 * (k : Int) + 1 + 1)) ∧ w.grownBy (((wr.setCell ⟨g, off + k * 3, none⟩ (.int .i64 (s + 3 * (k : Int)))).setCell ⟨g, off + k * 3 + 1, none⟩ (.int .i64 (s + 3 * (k : Int) + 1))).setCell ⟨g, off + k * 3 + 2, none⟩ (.int .i64 (s + 3 * (k : Int) + 1 + 1))) (some g)) := ⟨hS3, hg3⟩
      clear hS3 hg3
      go_wp2_with fail
      go_roundw
      case rel => exact ⟨k + 1, by omega, by go_num, by go_num, ⟨_, HQ.out.1, hT3.out, HQ.out.2⟩⟩
      case measure => simp [intOf]; omega
    · have hi : ¬ (k : Int) < n := by omega
      have e : k = n := by omega
      subst e
      have e2 : ts = smarks s k := es_ext (by rw [hS.1]; simp [smarks]) (fun j hj => by rw [hts j (by have := hS.1; omega), es_marks (by have := hS.1; omega)])
      subst e2
      go_wp2
      go_ret
      exact ⟨rfl, hS, hgr⟩

set_option maxHeartbeats 4000000 in
theorem heldSealS (s : Int) (B g off n cap : Nat) (w : World) (h : SHas w B g off n (smarks s n)) (hn : n ≤ 1048576) (hs0 : 0 ≤ s) (hs1 : s ≤ 100000000) :
    Calls Tryz.prog 83 #[.slice (some ⟨g, off, none⟩) n cap, .int .i64 s] w fun e w' => e = .returned (.int .i64 (s + 3 * (n : Int))) ∧ w' = w := by
  go_enter Tryz.func83, Tryz.ntmps83
  go_wp2
  go_loop [1, 5] (fun q i => ∃ k : Nat, k ≤ n ∧ i = .int .i64 k ∧ q = .int .i64 (s + 3 * (k : Int))) (fun _ i => n - (intOf i).toNat)
  case atStart => exact ⟨0, Nat.zero_le _, rfl, by simp⟩
  case round =>
    obtain ⟨k, hk, rfl, rfl⟩ := hrel
    by_cases hlt : k < n
    · have hi : (k : Int) < n := by omega
      obtain ⟨⟨d0, f0⟩, ⟨d1, f1⟩, d2, f2⟩ := h.cells k hlt
      rw [es_marks hlt] at d0 d1 d2
      dsimp only at d0 d1 d2
      go_wp2
      go_round
      case rel => exact ⟨k + 1, by omega, by go_num, by go_num⟩
      case measure => simp [intOf]; omega
    · have hi : ¬ (k : Int) < n := by omega
      have e : k = n := by omega
      subst e
      go_wp2
      go_ret
      exact ⟨rfl, rfl⟩

theorem szSealS_yes (a : Option Addr) (n cap : Nat) (left : Int) (w : World) (h : (n : Int) ≤ left) (hl : left ≤ 1048576) :
    Calls Tryz.prog 59 #[.slice a n cap, .int .i64 left] w fun e w' => e = .returned (.int .i64 (left - n)) ∧ w' = w := by
  have d : decide (left - (n : Int) < 0) = false := decide_eq_false (by omega)
  go_enter Tryz.func59, Tryz.ntmps59
  go_wp2
  go_ret
  exact ⟨rfl, rfl⟩
theorem szSealS_no (a : Option Addr) (n cap : Nat) (left : Int) (w : World) (h : ¬ (n : Int) ≤ left) (hl : 0 ≤ left ∧ left ≤ 1048576) (hm : n ≤ maxLen) :
    Calls Tryz.prog 59 #[.slice a n cap, .int .i64 left] w fun e w' => e = .returned (.int .i64 (-1)) ∧ w' = w := by
  unfold maxLen at hm
  have d : decide (left - (n : Int) < 0) = true := decide_eq_true (by omega)
  go_enter Tryz.func59, Tryz.ntmps59
  go_wp2
  go_ret
  exact ⟨rfl, rfl⟩

end Go.Proofs.YtimakfokgcnklaaGreat.Sb
