/-
  A new court marked, and its marks held (laws.markCourt, heldCourt); the zero court.
-/
import Derived.Test.YtimakfokgcnklaaGreatNw3
namespace Go.Proofs.YtimakfokgcnklaaGreat.Nw
open Go.ChangeShapes Go.WideShapes Go.ChangeAt Go.RowKit
open Ls (el Row)
open Rm (Room)
open Rd (Flags)
open Ow (ints Own Has marks)
open Ct (bools pcs Peers)
open Mi (hid)
open Ns (Mid)
set_option linter.unusedVariables false
set_option linter.unusedSimpArgs false

theorem z_markInt64S (s : Int) (w : World) : Calls Tryz.prog 27 #[.slice none 0 0, .int .i64 s] w fun e w' => e = .returned (.int .i64 s) ∧ w' = w := by
  go_enter Tryz.func27, Tryz.ntmps27
  go_wp2
  go_loop [1, 5] (fun q i => i = .int .i64 0 ∧ q = .int .i64 s) (fun _ i => 0)
  case atStart => exact ⟨rfl, rfl⟩
  case round =>
    obtain ⟨rfl, rfl⟩ := hrel
    go_wp2
    go_ret
    exact ⟨rfl, rfl⟩

theorem z_heldInt64S (s : Int) (w : World) : Calls Tryz.prog 33 #[.slice none 0 0, .int .i64 s] w fun e w' => e = .returned (.int .i64 s) ∧ w' = w := by
  go_enter Tryz.func33, Tryz.ntmps33
  go_wp2
  go_loop [1, 5] (fun q i => i = .int .i64 0 ∧ q = .int .i64 s) (fun _ i => 0)
  case atStart => exact ⟨rfl, rfl⟩
  case round =>
    obtain ⟨rfl, rfl⟩ := hrel
    go_wp2
    go_ret
    exact ⟨rfl, rfl⟩

theorem z_markBoolS (s : Int) (w : World) : Calls Tryz.prog 28 #[.slice none 0 0, .int .i64 s] w fun e w' => e = .returned (.int .i64 s) ∧ w' = w := by
  go_enter Tryz.func28, Tryz.ntmps28
  go_wp2
  go_loop [1, 5] (fun q i => i = .int .i64 0 ∧ q = .int .i64 s) (fun _ i => 0)
  case atStart => exact ⟨rfl, rfl⟩
  case round =>
    obtain ⟨rfl, rfl⟩ := hrel
    go_wp2
    go_ret
    exact ⟨rfl, rfl⟩

theorem z_heldBoolS (s : Int) (w : World) : Calls Tryz.prog 80 #[.slice none 0 0, .int .i64 s] w fun e w' => e = .returned (.int .i64 s) ∧ w' = w := by
  go_enter Tryz.func80, Tryz.ntmps80
  go_wp2
  go_loop [1, 5] (fun q i => i = .int .i64 0 ∧ q = .int .i64 s) (fun _ i => 0)
  case atStart => exact ⟨rfl, rfl⟩
  case round =>
    obtain ⟨rfl, rfl⟩ := hrel
    go_wp2
    go_ret
    exact ⟨rfl, rfl⟩

theorem z_markPeerS (s : Int) (w : World) : Calls Tryz.prog 76 #[.slice none 0 0, .int .i64 s] w fun e w' => e = .returned (.int .i64 s) ∧ w' = w := by
  go_enter Tryz.func76, Tryz.ntmps76
  go_wp2
  go_loop [1, 5] (fun q i => i = .int .i64 0 ∧ q = .int .i64 s) (fun _ i => 0)
  case atStart => exact ⟨rfl, rfl⟩
  case round =>
    obtain ⟨rfl, rfl⟩ := hrel
    go_wp2
    go_ret
    exact ⟨rfl, rfl⟩

theorem z_heldPeerS (s : Int) (w : World) : Calls Tryz.prog 81 #[.slice none 0 0, .int .i64 s] w fun e w' => e = .returned (.int .i64 s) ∧ w' = w := by
  go_enter Tryz.func81, Tryz.ntmps81
  go_wp2
  go_loop [1, 5] (fun q i => i = .int .i64 0 ∧ q = .int .i64 s) (fun _ i => 0)
  case atStart => exact ⟨rfl, rfl⟩
  case round =>
    obtain ⟨rfl, rfl⟩ := hrel
    go_wp2
    go_ret
    exact ⟨rfl, rfl⟩

theorem z_markParcelS (s : Int) (w : World) : Calls Tryz.prog 77 #[.slice none 0 0, .int .i64 s] w fun e w' => e = .returned (.int .i64 s) ∧ w' = w := by
  go_enter Tryz.func77, Tryz.ntmps77
  go_wp2
  go_loop [1, 5] (fun q i => i = .int .i64 0 ∧ q = .int .i64 s) (fun _ i => 0)
  case atStart => exact ⟨rfl, rfl⟩
  case round =>
    obtain ⟨rfl, rfl⟩ := hrel
    go_wp2
    go_ret
    exact ⟨rfl, rfl⟩

theorem z_heldParcelS (s : Int) (w : World) : Calls Tryz.prog 82 #[.slice none 0 0, .int .i64 s] w fun e w' => e = .returned (.int .i64 s) ∧ w' = w := by
  go_enter Tryz.func82, Tryz.ntmps82
  go_wp2
  go_loop [1, 5] (fun q i => i = .int .i64 0 ∧ q = .int .i64 s) (fun _ i => 0)
  case atStart => exact ⟨rfl, rfl⟩
  case round =>
    obtain ⟨rfl, rfl⟩ := hrel
    go_wp2
    go_ret
    exact ⟨rfl, rfl⟩

theorem z_markSealS (s : Int) (w : World) : Calls Tryz.prog 78 #[.slice none 0 0, .int .i64 s] w fun e w' => e = .returned (.int .i64 s) ∧ w' = w := by
  go_enter Tryz.func78, Tryz.ntmps78
  go_wp2
  go_loop [1, 5] (fun q i => i = .int .i64 0 ∧ q = .int .i64 s) (fun _ i => 0)
  case atStart => exact ⟨rfl, rfl⟩
  case round =>
    obtain ⟨rfl, rfl⟩ := hrel
    go_wp2
    go_ret
    exact ⟨rfl, rfl⟩

theorem z_heldSealS (s : Int) (w : World) : Calls Tryz.prog 83 #[.slice none 0 0, .int .i64 s] w fun e w' => e = .returned (.int .i64 s) ∧ w' = w := by
  go_enter Tryz.func83, Tryz.ntmps83
  go_wp2
  go_loop [1, 5] (fun q i => i = .int .i64 0 ∧ q = .int .i64 s) (fun _ i => 0)
  case atStart => exact ⟨rfl, rfl⟩
  case round =>
    obtain ⟨rfl, rfl⟩ := hrel
    go_wp2
    go_ret
    exact ⟨rfl, rfl⟩

theorem z_markFactS (s : Int) (w : World) : Calls Tryz.prog 79 #[.slice none 0 0, .int .i64 s] w fun e w' => e = .returned (.int .i64 s) ∧ w' = w := by
  go_enter Tryz.func79, Tryz.ntmps79
  go_wp2
  go_loop [1, 5] (fun q i => i = .int .i64 0 ∧ q = .int .i64 s) (fun _ i => 0)
  case atStart => exact ⟨rfl, rfl⟩
  case round =>
    obtain ⟨rfl, rfl⟩ := hrel
    go_wp2
    go_ret
    exact ⟨rfl, rfl⟩

theorem z_heldFactS (s : Int) (w : World) : Calls Tryz.prog 84 #[.slice none 0 0, .int .i64 s] w fun e w' => e = .returned (.int .i64 s) ∧ w' = w := by
  go_enter Tryz.func84, Tryz.ntmps84
  go_wp2
  go_loop [1, 5] (fun q i => i = .int .i64 0 ∧ q = .int .i64 s) (fun _ i => 0)
  case atStart => exact ⟨rfl, rfl⟩
  case round =>
    obtain ⟨rfl, rfl⟩ := hrel
    go_wp2
    go_ret
    exact ⟨rfl, rfl⟩

def BV (x : Int) : Bool := x % 3 == 0
def bmarks (s : Int) (n : Nat) : List Value := (List.range n).map fun k : Nat => Value.bool (BV (s + (k : Int)))
theorem bmarks_at {s : Int} {n k : Nat} (h : k < n) : (bmarks s n)[k]? = some (.bool (BV (s + (k : Int)))) := by simp [bmarks, h]
theorem bmarks_len (s : Int) (n : Nat) : (bmarks s n).length = n := by simp [bmarks]
/-- The first k are marked. -/
structure BM (w wr : World) (g n : Nat) (s : Int) (vs : List Value) (k : Nat) : Prop where
  G : w.grownBy wr (some g)
  R : Room wr g vs
  L : vs.length = n
  T : ∀ j, j < k → vs[j]? = some (.bool (BV (s + (j : Int))))
theorem BM.next {w wr : World} {g n : Nat} {s : Int} {vs : List Value} {k : Nat} (h : BM w wr g n s vs k) (hk : k < n) {u : Value} (hu : u = .bool (BV (s + (k : Int)))) : BM w (wr.setCell ⟨g, k, none⟩ u) g n s (vs.set k u) (k + 1) := by
  subst hu
  have hl := h.L
  refine ⟨⟨h.G.os, h.G.tape, h.G.output, by have := h.G.size; simpa using this, fun j hj hne => ?_⟩, h.R.set _ _, by simpa using hl, fun j hj => ?_⟩
  · rw [Below.heap_setCell _ _ _ _ (by simpa using hne)]; exact h.G.block j hj hne
  · by_cases e : j = k
    · subst e; rw [List.getElem?_set_self (by omega)]
    · rw [List.getElem?_set_ne (by omega)]; exact h.T j (by omega)
theorem BM.all {w wr : World} {g n : Nat} {s : Int} {vs : List Value} (h : BM w wr g n s vs n) : vs = bmarks s n := by
  apply List.ext_getElem?
  intro i
  by_cases hi : i < n
  · rw [h.T i hi, bmarks_at hi]
  · rw [List.getElem?_eq_none (by rw [h.L]; omega), List.getElem?_eq_none (by rw [bmarks_len]; omega)]

set_option maxHeartbeats 1000000 in
theorem markB (s : Int) (g n cap : Nat) (vs : List Value) (w : World) (h : Room w g vs) (hl : vs.length = n) (hn : n ≤ 1048576) (hs0 : 0 ≤ s) (hs1 : s ≤ 100000000) :
    Calls Tryz.prog 28 #[.slice (some ⟨g, 0, none⟩) n cap, .int .i64 s] w fun e w' => e = .returned (.int .i64 (s + (n : Int))) ∧ Room w' g (bmarks s n) ∧ w.grownBy w' (some g) := by
  have H0 : Hid (∃ vs, BM w w g n s vs 0) := ⟨vs, World.grownBy.refl _ _, h, hl, fun j hj => by omega⟩
  clear h hl
  go_enter Tryz.func28, Tryz.ntmps28
  go_wp2
  go_loopw [1, 5] (fun q i wr => ∃ k : Nat, k ≤ n ∧ i = .int .i64 k ∧ q = .int .i64 (s + (k : Int)) ∧ Hid (∃ vs, BM w wr g n s vs k)) (fun _ i _ => n - (intOf i).toNat)
  case atStart => exact ⟨0, Nat.zero_le _, rfl, by simp, H0⟩
  case round =>
    clear H0
    obtain ⟨k, hk, rfl, rfl, H⟩ := hrel
    by_cases hlt : k < n
    · have hi : (k : Int) < n := by omega
      obtain ⟨vs, hB⟩ := H.out
      obtain ⟨v0, hv0⟩ : ∃ v, vs[k]? = some v := ⟨_, List.getElem?_eq_getElem (by rw [hB.L]; omega)⟩
      have x0 := hB.R.cell _ hv0
      have y0 := hB.R.froz _ hv0
      have HB := hid hB
      clear hB H hv0
      go_wp2
      go_roundw
      case rel => exact ⟨k + 1, by omega, by go_num, by go_num, ⟨_, HB.out.next hlt (by first | rfl | (unfold BV; rfl) | (unfold BV; simp))⟩⟩
      case measure => simp [intOf]; omega
    · have hi : ¬ (k : Int) < n := by omega
      obtain rfl : k = n := by omega
      obtain ⟨vs, hB⟩ := H.out
      have e := hB.all
      subst e
      go_wp2
      go_ret
      exact ⟨rfl, hB.R, hB.G⟩

theorem heldB (s : Int) (g n cap : Nat) (w : World) (h : Room w g (bmarks s n)) (hn : n ≤ 1048576) (hs0 : 0 ≤ s) (hs1 : s ≤ 100000000) :
    Calls Tryz.prog 80 #[.slice (some ⟨g, 0, none⟩) n cap, .int .i64 s] w fun e w' => e = .returned (.int .i64 (s + (n : Int))) ∧ w' = w := by
  go_enter Tryz.func80, Tryz.ntmps80
  go_wp2
  go_loop [1, 5] (fun q i => ∃ k : Nat, k ≤ n ∧ i = .int .i64 k ∧ q = .int .i64 (s + (k : Int))) (fun _ i => n - (intOf i).toNat)
  case atStart => exact ⟨0, Nat.zero_le _, rfl, by simp⟩
  case round =>
    obtain ⟨k, hk, rfl, rfl⟩ := hrel
    by_cases hlt : k < n
    · have hi : (k : Int) < n := by omega
      have hc := h.cell k (bmarks_at hlt)
      unfold BV at hc
      go_wp2
      go_round
      case rel => exact ⟨k + 1, by omega, by go_num, by go_num⟩
      case measure => simp [intOf]; omega
    · have hi : ¬ (k : Int) < n := by omega
      obtain rfl : k = n := by omega
      go_wp2
      go_ret
      exact ⟨rfl, rfl⟩

/-- Peers marked. -/
def PMk (s : Int) (n : Nat) (vs : List Value) : Prop := ∀ j, j < n → vs[j * 4]? = some (.int .i64 (s + 3 * (j : Int))) ∧ vs[j * 4 + 1]? = some (.int .i64 (s + 3 * (j : Int) + 1)) ∧ vs[j * 4 + 2]? = some (.bool (BV (s + 3 * (j : Int) + 1 + 1))) ∧ vs[j * 4 + 3]? = some (.slice none 0 0)
structure PM (w wr : World) (g n : Nat) (s : Int) (vs : List Value) (k : Nat) : Prop where
  G : w.grownBy wr (some g)
  R : Room wr g vs
  L : vs.length = n * 4
  T : PMk s k vs
  S : ∀ j, j < n → vs[j * 4 + 3]? = some (.slice none 0 0)
theorem grown_set {w wr : World} {g i : Nat} (h : w.grownBy wr (some g)) (u : Value) : w.grownBy (wr.setCell ⟨g, i, none⟩ u) (some g) :=
  ⟨h.os, h.tape, h.output, by have := h.size; simpa using this, fun j hj hne => by rw [Below.heap_setCell _ _ _ _ (by simpa using hne)]; exact h.block j hj hne⟩
theorem PM.next {w wr : World} {g n : Nat} {s : Int} {vs : List Value} {k : Nat} (h : PM w wr g n s vs k) (hk : k < n) {u0 u1 u2 : Value} (h0 : u0 = .int .i64 (s + 3 * (k : Int))) (h1 : u1 = .int .i64 (s + 3 * (k : Int) + 1)) (h2 : u2 = .bool (BV (s + 3 * (k : Int) + 1 + 1))) :
    PM w (((wr.setCell ⟨g, k * 4, none⟩ u0).setCell ⟨g, k * 4 + 1, none⟩ u1).setCell ⟨g, k * 4 + 2, none⟩ u2) g n s (((vs.set (k * 4) u0).set (k * 4 + 1) u1).set (k * 4 + 2) u2) (k + 1) := by
  subst h0; subst h1; subst h2
  have hl := h.L
  refine ⟨grown_set (grown_set (grown_set h.G _) _) _, ((h.R.set _ _).set _ _).set _ _, by simpa using hl, fun j hj => ?_, fun j hj => ?_⟩
  · by_cases e : j = k
    · subst e
      refine ⟨?_, ?_, ?_, ?_⟩
      · rw [List.getElem?_set_ne (by omega), List.getElem?_set_ne (by omega), List.getElem?_set_self (by omega)]
      · rw [List.getElem?_set_ne (by omega), List.getElem?_set_self (by simp; omega)]
      · rw [List.getElem?_set_self (by simp; omega)]
      · rw [List.getElem?_set_ne (by omega), List.getElem?_set_ne (by omega), List.getElem?_set_ne (by omega)]; exact h.S j hk
    · obtain ⟨a, b, c, d⟩ := h.T j (by omega)
      refine ⟨?_, ?_, ?_, ?_⟩ <;> rw [List.getElem?_set_ne (by omega), List.getElem?_set_ne (by omega), List.getElem?_set_ne (by omega)] <;> assumption
  · rw [List.getElem?_set_ne (by omega), List.getElem?_set_ne (by omega), List.getElem?_set_ne (by omega)]; exact h.S j hj

set_option maxHeartbeats 2000000 in
theorem markP (s : Int) (g n cap : Nat) (vs : List Value) (w : World) (h : Room w g vs) (hl : vs.length = n * 4) (hS : ∀ j, j < n → vs[j * 4 + 3]? = some (.slice none 0 0)) (hn : n ≤ 1048576) (hs0 : 0 ≤ s) (hs1 : s ≤ 100000000) :
    Calls Tryz.prog 76 #[.slice (some ⟨g, 0, none⟩) n cap, .int .i64 s] w fun e w' => e = .returned (.int .i64 (s + 3 * (n : Int))) ∧ (∃ vs, Room w' g vs ∧ PMk s n vs) ∧ w.grownBy w' (some g) := by
  have H0 : Hid (∃ vs, PM w w g n s vs 0) := ⟨vs, World.grownBy.refl _ _, h, hl, fun j hj => by omega, hS⟩
  clear h hl hS
  go_enter Tryz.func76, Tryz.ntmps76
  go_wp2
  go_loopw [1, 5] (fun q i wr => ∃ k : Nat, k ≤ n ∧ i = .int .i64 k ∧ q = .int .i64 (s + 3 * (k : Int)) ∧ Hid (∃ vs, PM w wr g n s vs k)) (fun _ i _ => n - (intOf i).toNat)
  case atStart => exact ⟨0, Nat.zero_le _, rfl, by simp, H0⟩
  case round =>
    clear H0
    obtain ⟨k, hk, rfl, rfl, H⟩ := hrel
    by_cases hlt : k < n
    · have hi : (k : Int) < n := by omega
      obtain ⟨vs, hB⟩ := H.out
      obtain ⟨v0, hv0⟩ : ∃ v, vs[k * 4]? = some v := ⟨_, List.getElem?_eq_getElem (by rw [hB.L]; omega)⟩
      obtain ⟨v1, hv1⟩ : ∃ v, vs[k * 4 + 1]? = some v := ⟨_, List.getElem?_eq_getElem (by rw [hB.L]; omega)⟩
      obtain ⟨v2, hv2⟩ : ∃ v, vs[k * 4 + 2]? = some v := ⟨_, List.getElem?_eq_getElem (by rw [hB.L]; omega)⟩
      have x0 := hB.R.cell _ hv0
      have x1 := hB.R.cell _ hv1
      have x2 := hB.R.cell _ hv2
      have x3 := hB.R.cell _ (hB.S k hlt)
      have y0 := hB.R.froz _ hv0
      have y1 := hB.R.froz _ hv1
      have y2 := hB.R.froz _ hv2
      have HB := hid hB
      clear hB H hv0 hv1 hv2
      obtain ⟨T, hT⟩ : ∃ T, T = s + 3 * (k : Int) := ⟨_, rfl⟩
      have HT := hid hT
      have hT0 : 0 ≤ T := by omega
      have hT1 : T ≤ 200000000 := by omega
      rw [← hT]
      clear hT
      go_wp2_with fail
      refine (z_markSealS _ _).mono ?_
      rintro e w2 ⟨rfl, rfl⟩
      go_wp2
      go_roundw
      case rel => exact ⟨k + 1, by omega, by go_num, by have := HT.out; congr 1; omega, ⟨_, HB.out.next hlt (by rw [HT.out]) (by rw [HT.out]) (by first | (rw [← HT.out]; rfl) | (rw [← HT.out]; unfold BV; simp))⟩⟩
      case measure => simp [intOf]; omega
    · have hi : ¬ (k : Int) < n := by omega
      obtain rfl : k = n := by omega
      obtain ⟨vs, hB⟩ := H.out
      go_wp2
      go_ret
      exact ⟨rfl, ⟨vs, hB.R, hB.T⟩, hB.G⟩

theorem heldP (s : Int) (g n cap : Nat) (vs : List Value) (w : World) (h : Room w g vs) (hT : PMk s n vs) (hn : n ≤ 1048576) (hs0 : 0 ≤ s) (hs1 : s ≤ 100000000) :
    Calls Tryz.prog 81 #[.slice (some ⟨g, 0, none⟩) n cap, .int .i64 s] w fun e w' => e = .returned (.int .i64 (s + 3 * (n : Int))) ∧ w' = w := by
  have HP := hid hT
  clear hT
  go_enter Tryz.func81, Tryz.ntmps81
  go_wp2
  go_loop [1, 5] (fun q i => ∃ k : Nat, k ≤ n ∧ i = .int .i64 k ∧ q = .int .i64 (s + 3 * (k : Int))) (fun _ i => n - (intOf i).toNat)
  case atStart => exact ⟨0, Nat.zero_le _, rfl, by simp⟩
  case round =>
    obtain ⟨k, hk, rfl, rfl⟩ := hrel
    by_cases hlt : k < n
    · have hi : (k : Int) < n := by omega
      obtain ⟨a0, a1, a2, a3⟩ := HP.out k hlt
      have c0 := h.cell _ a0
      have c1 := h.cell _ a1
      have c2 := h.cell _ a2
      have c3 := h.cell _ a3
      obtain ⟨T, hT⟩ : ∃ T, T = s + 3 * (k : Int) := ⟨_, rfl⟩
      have HT := hid hT
      have hT0 : 0 ≤ T := by omega
      have hT1 : T ≤ 200000000 := by omega
      unfold BV at c2
      rw [← hT] at c0 c1 c2 ⊢
      clear hT a0 a1 a2 a3
      go_wp2_with fail
      refine (z_heldSealS _ _).mono ?_
      rintro e w2 ⟨rfl, rfl⟩
      have d : decide (T + 1 + 1 + 1 < 0) = false := decide_eq_false (by omega)
      go_wp2
      go_round
      case rel => exact ⟨k + 1, by omega, by go_num, by have := HT.out; congr 1; omega⟩
      case measure => simp [intOf]; omega
    · have hi : ¬ (k : Int) < n := by omega
      obtain rfl : k = n := by omega
      go_wp2
      go_ret
      exact ⟨rfl, rfl⟩

/-- Nothing but these blocks has changed. -/
structure Gr (w w' : World) (gK gL gP : Nat) : Prop where
  os : w'.os = w.os
  tape : w'.tape = w.tape
  output : w'.output = w.output
  size : w.heap.size ≤ w'.heap.size
  block : ∀ k, k < w.heap.size → k ≠ gK → k ≠ gL → k ≠ gP → w'.heap[k]? = w.heap[k]?
theorem Gr.below {w0 w w' : World} {B gK gL gP : Nat} (h : Gr w w' gK gL gP) (b : Below B w0 w) (hB : B ≤ w.heap.size) (h1 : B ≤ gK) (h2 : B ≤ gL) (h3 : B ≤ gP) : Below B w0 w' :=
  ⟨h.os.trans b.os, h.tape.trans b.tape, h.output.trans b.output, Nat.le_trans b.size h.size, fun k hk => (h.block k (by omega) (by omega) (by omega) (by omega)).trans (b.block k hk)⟩
theorem Gr.room {w w' : World} {gK gL gP g : Nat} {vs : List Value} (h : Gr w w' gK gL gP) (R : Room w g vs) (hg : g < w.heap.size) (h1 : g ≠ gK) (h2 : g ≠ gL) (h3 : g ≠ gP) : Room w' g vs := R.block (h.block g hg h1 h2 h3)
/-- Marks on a new court's lists. -/
structure Mk (w : World) (s : Int) (gK gL gP a b c : Nat) : Prop where
  K : Has w gK gK 0 a (marks s a)
  L : Room w gL (bmarks (s + (a : Int)) b)
  lL : gL < w.heap.size
  P : ∃ vs, Room w gP vs ∧ PMk (s + (a : Int) + (b : Int)) c vs
  lP : gP < w.heap.size
theorem Mk.below {w w' : World} {s : Int} {gK gL gP a b c : Nat} (h : Mk w s gK gL gP a b c) (q : Below w.heap.size w w') : Mk w' s gK gL gP a b c := by
  obtain ⟨vs, R, T⟩ := h.P
  exact ⟨h.K.later q h.K.2.2.1, h.L.below q, Nat.lt_of_lt_of_le h.lL q.size, ⟨vs, R.below q, T⟩, Nat.lt_of_lt_of_le h.lP q.size⟩
theorem has_grown {w w2 : World} {A g n b : Nat} {zs : List Int} (h : Has w A g 0 n zs) (hg : w.grownBy w2 (some b)) (hne : g ≠ b) : Has w2 A g 0 n zs :=
  (Mid.of_grown (B := b) (C := b + 1) hg (Nat.le_refl _) (Nat.lt_succ_self _)).has h (by omega)

set_option maxHeartbeats 4000000 in
theorem markN (n f p a l m : Int) (gK gL gP nK nL nP kK kL kP : Nat) (zs : List Int) (vL vP : List Value) (w : World) (hK : Has w gK gK 0 nK zs) (hL : Room w gL vL) (lL : vL.length = nL) (zL : gL < w.heap.size) (hP : Room w gP vP) (lP : vP.length = nP * 4) (sP : ∀ j, j < nP → vP[j * 4 + 3]? = some (.slice none 0 0)) (zP : gP < w.heap.size) (n1 : gK ≠ gL) (n2 : gK ≠ gP) (n3 : gL ≠ gP) (s : Int) (hs0 : 0 ≤ s) (hs1 : s ≤ 100) (q1 : nK ≤ 16) (q2 : nL ≤ 16) (q3 : nP ≤ 16) :
    Calls Tryz.prog 29 #[.agg #[.int .i64 n, .int .i64 f, .int .i64 p, .int .i64 a, .int .i64 l, .int .i64 m, .slice (some ⟨gK, 0, none⟩) nK kK, .slice (some ⟨gL, 0, none⟩) nL kL, .slice (some ⟨gP, 0, none⟩) nP kP, .slice none 0 0, .int .i64 0, .slice none 0 0, .slice none 0 0], .int .i64 s] w fun e w' => e = .returned (.int .i64 (s + (nK : Int) + (nL : Int) + 3 * (nP : Int))) ∧ Mk w' s gK gL gP nK nL nP ∧ Gr w w' gK gL gP := by
  have X := Room.new w [.int .i64 n, .int .i64 f, .int .i64 p, .int .i64 a, .int .i64 l, .int .i64 m, .slice (some ⟨gK, 0, none⟩) nK kK, .slice (some ⟨gL, 0, none⟩) nL kL, .slice (some ⟨gP, 0, none⟩) nP kP, .slice none 0 0, .int .i64 0, .slice none 0 0, .slice none 0 0] 35
  have b0 := (Below.refl w.heap.size w).alloc (Nat.le_refl _) (.cells #[.int .i64 n, .int .i64 f, .int .i64 p, .int .i64 a, .int .i64 l, .int .i64 m, .slice (some ⟨gK, 0, none⟩) nK kK, .slice (some ⟨gL, 0, none⟩) nL kL, .slice (some ⟨gP, 0, none⟩) nP kP, .slice none 0 0, .int .i64 0, .slice none 0 0, .slice none 0 0] 35)
  have zK := hK.2.2.1
  have GR : Gr w (w.alloc (.cells #[.int .i64 n, .int .i64 f, .int .i64 p, .int .i64 a, .int .i64 l, .int .i64 m, .slice (some ⟨gK, 0, none⟩) nK kK, .slice (some ⟨gL, 0, none⟩) nL kL, .slice (some ⟨gP, 0, none⟩) nP kP, .slice none 0 0, .int .i64 0, .slice none 0 0, .slice none 0 0] 35)) gK gL gP := ⟨b0.os, b0.tape, b0.output, b0.size, fun k hk _ _ _ => b0.block k hk⟩
  replace hK := hK.later b0 zK
  replace hL := hL.below b0
  replace hP := hP.below b0
  clear b0
  have k6 := X.cell 6 rfl
  go_enter Tryz.func29, Tryz.ntmps29
  go_wp2_with fail
  generalize w.alloc (.cells #[.int .i64 n, .int .i64 f, .int .i64 p, .int .i64 a, .int .i64 l, .int .i64 m, .slice (some ⟨gK, 0, none⟩) nK kK, .slice (some ⟨gL, 0, none⟩) nL kL, .slice (some ⟨gP, 0, none⟩) nP kP, .slice none 0 0, .int .i64 0, .slice none 0 0, .slice none 0 0] 35) = w1 at X GR hK hL hP ⊢
  clear k6
  refine (Ow.mark s gK gK 0 nK kK zs _ hK (by omega) hs0 (by omega)).mono ?_
  rintro e w2 ⟨rfl, mK, g2⟩
  replace X := X.other g2 (by omega)
  replace hL := hL.other g2 (Ne.symm n1)
  replace hP := hP.other g2 (Ne.symm n2)
  replace GR : Gr w w2 gK gL gP := ⟨g2.os.trans GR.os, g2.tape.trans GR.tape, g2.output.trans GR.output, Nat.le_trans GR.size g2.size, fun k hk h1 h2 h3 => (g2.block k (Nat.lt_of_lt_of_le hk GR.size) (by simpa using h1)).trans (GR.block k hk h1 h2 h3)⟩
  clear g2 hK
  have k7 := X.cell 7 rfl
  go_wp2_with fail
  clear k7
  refine (markB (s + (nK : Int)) gL nL kL vL _ hL lL (by omega) (by omega) (by omega)).mono ?_
  rintro e w3 ⟨rfl, mL, g3⟩
  replace X := X.other g3 (by omega)
  replace mK := has_grown mK g3 n1
  replace hP := hP.other g3 (Ne.symm n3)
  replace GR : Gr w w3 gK gL gP := ⟨g3.os.trans GR.os, g3.tape.trans GR.tape, g3.output.trans GR.output, Nat.le_trans GR.size g3.size, fun k hk h1 h2 h3 => (g3.block k (Nat.lt_of_lt_of_le hk GR.size) (by simpa using h2)).trans (GR.block k hk h1 h2 h3)⟩
  clear g3 hL
  have k8 := X.cell 8 rfl
  go_wp2_with fail
  clear k8
  refine (markP (s + (nK : Int) + (nL : Int)) gP nP kP vP _ hP lP sP (by omega) (by omega) (by omega)).mono ?_
  rintro e w4 ⟨rfl, mP, g4⟩
  replace X := X.other g4 (by omega)
  replace mK := has_grown mK g4 n2
  replace mL := mL.other g4 n3
  replace GR : Gr w w4 gK gL gP := ⟨g4.os.trans GR.os, g4.tape.trans GR.tape, g4.output.trans GR.output, Nat.le_trans GR.size g4.size, fun k hk h1 h2 h3 => (g4.block k (Nat.lt_of_lt_of_le hk GR.size) (by simpa using h3)).trans (GR.block k hk h1 h2 h3)⟩
  clear g4 hP
  have MK : Mk w4 s gK gL gP nK nL nP := ⟨mK, mL, Nat.lt_of_lt_of_le zL GR.size, mP, Nat.lt_of_lt_of_le zP GR.size⟩
  clear mK mL mP
  obtain ⟨T, hT⟩ : ∃ T, T = s + (nK : Int) + (nL : Int) + 3 * (nP : Int) := ⟨_, rfl⟩
  have HT := hid hT
  rw [← hT]
  clear hT
  have k9 := X.cell 9 rfl
  go_wp2_with fail
  refine (z_markParcelS _ _).mono ?_
  rintro e w5 ⟨rfl, rfl⟩
  have k11 := X.cell 11 rfl
  go_wp2_with fail
  refine (z_markSealS _ _).mono ?_
  rintro e w5 ⟨rfl, rfl⟩
  have k12 := X.cell 12 rfl
  go_wp2_with fail
  refine (z_markFactS _ _).mono ?_
  rintro e w5 ⟨rfl, rfl⟩
  go_wp2
  go_ret
  exact ⟨by rw [← HT.out]; rfl, MK, GR⟩

set_option maxHeartbeats 4000000 in
theorem heldN (n f p a l m : Int) (gK gL gP nK nL nP kK kL kP : Nat) (w : World) (s : Int) (h : Mk w s gK gL gP nK nL nP) (hs0 : 0 ≤ s) (hs1 : s ≤ 100) (q1 : nK ≤ 16) (q2 : nL ≤ 16) (q3 : nP ≤ 16) :
    Calls Tryz.prog 30 #[.agg #[.int .i64 n, .int .i64 f, .int .i64 p, .int .i64 a, .int .i64 l, .int .i64 m, .slice (some ⟨gK, 0, none⟩) nK kK, .slice (some ⟨gL, 0, none⟩) nL kL, .slice (some ⟨gP, 0, none⟩) nP kP, .slice none 0 0, .int .i64 0, .slice none 0 0, .slice none 0 0], .int .i64 s] w fun e w' => e = .returned (.int .i64 (s + (nK : Int) + (nL : Int) + 3 * (nP : Int))) ∧ Below w.heap.size w w' := by
  have X := Room.new w [.int .i64 n, .int .i64 f, .int .i64 p, .int .i64 a, .int .i64 l, .int .i64 m, .slice (some ⟨gK, 0, none⟩) nK kK, .slice (some ⟨gL, 0, none⟩) nL kL, .slice (some ⟨gP, 0, none⟩) nP kP, .slice none 0 0, .int .i64 0, .slice none 0 0, .slice none 0 0] 35
  have b0 := (Below.refl w.heap.size w).alloc (Nat.le_refl _) (.cells #[.int .i64 n, .int .i64 f, .int .i64 p, .int .i64 a, .int .i64 l, .int .i64 m, .slice (some ⟨gK, 0, none⟩) nK kK, .slice (some ⟨gL, 0, none⟩) nL kL, .slice (some ⟨gP, 0, none⟩) nP kP, .slice none 0 0, .int .i64 0, .slice none 0 0, .slice none 0 0] 35)
  replace h := h.below b0
  have k6 := X.cell 6 rfl
  go_enter Tryz.func30, Tryz.ntmps30
  go_wp2_with fail
  generalize w.alloc (.cells #[.int .i64 n, .int .i64 f, .int .i64 p, .int .i64 a, .int .i64 l, .int .i64 m, .slice (some ⟨gK, 0, none⟩) nK kK, .slice (some ⟨gL, 0, none⟩) nL kL, .slice (some ⟨gP, 0, none⟩) nP kP, .slice none 0 0, .int .i64 0, .slice none 0 0, .slice none 0 0] 35) = w1 at X b0 h ⊢
  clear k6
  refine (Ow.held s gK gK 0 nK kK _ h.K (by omega) hs0 (by omega)).mono ?_
  rintro e w2 ⟨rfl, rfl⟩
  obtain ⟨T1, hT1⟩ : ∃ T1, T1 = s + (nK : Int) := ⟨_, rfl⟩
  have H1 := hid hT1
  have d1 : decide (T1 < 0) = false := decide_eq_false (by omega)
  rw [← hT1]
  clear hT1
  have k7 := X.cell 7 rfl
  go_wp2_with fail
  clear k7 d1
  refine (heldB T1 gL nL kL _ (by rw [H1.out]; exact h.L) (by omega) (by have := H1.out; omega) (by have := H1.out; omega)).mono ?_
  rintro e w3 ⟨rfl, rfl⟩
  obtain ⟨T2, hT2⟩ : ∃ T2, T2 = T1 + (nL : Int) := ⟨_, rfl⟩
  have H2 := hid hT2
  have d2 : decide (T2 < 0) = false := decide_eq_false (by have := H1.out; omega)
  rw [← hT2]
  clear hT2
  have k8 := X.cell 8 rfl
  obtain ⟨vs, RP, TP⟩ := h.P
  have HTP := hid TP
  clear TP
  go_wp2_with fail
  clear k8 d2
  refine (heldP T2 gP nP kP vs _ RP (by rw [H2.out, H1.out]; exact HTP.out) (by omega) (by have := H1.out; have := H2.out; omega) (by have := H1.out; have := H2.out; omega)).mono ?_
  rintro e w4 ⟨rfl, rfl⟩
  obtain ⟨T3, hT3⟩ : ∃ T3, T3 = T2 + 3 * (nP : Int) := ⟨_, rfl⟩
  have H3 := hid hT3
  have d3 : decide (T3 < 0) = false := decide_eq_false (by have := H1.out; have := H2.out; omega)
  rw [← hT3]
  clear hT3
  have k9 := X.cell 9 rfl
  go_wp2_with fail
  refine (z_heldParcelS _ _).mono ?_
  rintro e w5 ⟨rfl, rfl⟩
  have k11 := X.cell 11 rfl
  go_wp2_with fail
  refine (z_heldSealS _ _).mono ?_
  rintro e w5 ⟨rfl, rfl⟩
  have k12 := X.cell 12 rfl
  go_wp2_with fail
  refine (z_heldFactS _ _).mono ?_
  rintro e w5 ⟨rfl, rfl⟩
  go_wp2
  go_ret
  have e1 : T1 = s + (nK : Int) := H1.out
  have e2 : T2 = T1 + (nL : Int) := H2.out
  have e3 : T3 = T2 + 3 * (nP : Int) := H3.out
  have E : T3 = s + (nK : Int) + (nL : Int) + 3 * (nP : Int) := by omega
  exact ⟨by rw [← E]; rfl, b0⟩

theorem markZ (s : Int) (hs0 : 0 ≤ s) (w : World) : Calls Tryz.prog 29 #[.agg #[.int .i64 0, .int .i64 0, .int .i64 0, .int .i64 0, .int .i64 0, .int .i64 0, .slice none 0 0, .slice none 0 0, .slice none 0 0, .slice none 0 0, .int .i64 0, .slice none 0 0, .slice none 0 0], .int .i64 s] w fun e w' => e = .returned (.int .i64 s) ∧ Below w.heap.size w w' := by
  have X := Room.new w [.int .i64 0, .int .i64 0, .int .i64 0, .int .i64 0, .int .i64 0, .int .i64 0, .slice none 0 0, .slice none 0 0, .slice none 0 0, .slice none 0 0, .int .i64 0, .slice none 0 0, .slice none 0 0] 35
  have b0 := (Below.refl w.heap.size w).alloc (Nat.le_refl _) (.cells #[.int .i64 0, .int .i64 0, .int .i64 0, .int .i64 0, .int .i64 0, .int .i64 0, .slice none 0 0, .slice none 0 0, .slice none 0 0, .slice none 0 0, .int .i64 0, .slice none 0 0, .slice none 0 0] 35)
  have k6 := X.cell 6 rfl
  have k7 := X.cell 7 rfl
  have k8 := X.cell 8 rfl
  have k9 := X.cell 9 rfl
  have k11 := X.cell 11 rfl
  have k12 := X.cell 12 rfl
  go_enter Tryz.func29, Tryz.ntmps29
  go_wp2_with fail
  refine (z_markInt64S _ _).mono ?_
  rintro e w5 ⟨rfl, rfl⟩
  go_wp2_with fail
  refine (z_markBoolS _ _).mono ?_
  rintro e w5 ⟨rfl, rfl⟩
  go_wp2_with fail
  refine (z_markPeerS _ _).mono ?_
  rintro e w5 ⟨rfl, rfl⟩
  go_wp2_with fail
  refine (z_markParcelS _ _).mono ?_
  rintro e w5 ⟨rfl, rfl⟩
  go_wp2_with fail
  refine (z_markSealS _ _).mono ?_
  rintro e w5 ⟨rfl, rfl⟩
  go_wp2_with fail
  refine (z_markFactS _ _).mono ?_
  rintro e w5 ⟨rfl, rfl⟩
  go_wp2
  go_ret
  exact ⟨rfl, b0⟩

theorem heldZ (s : Int) (hs0 : 0 ≤ s) (w : World) : Calls Tryz.prog 30 #[.agg #[.int .i64 0, .int .i64 0, .int .i64 0, .int .i64 0, .int .i64 0, .int .i64 0, .slice none 0 0, .slice none 0 0, .slice none 0 0, .slice none 0 0, .int .i64 0, .slice none 0 0, .slice none 0 0], .int .i64 s] w fun e w' => e = .returned (.int .i64 s) ∧ Below w.heap.size w w' := by
  have X := Room.new w [.int .i64 0, .int .i64 0, .int .i64 0, .int .i64 0, .int .i64 0, .int .i64 0, .slice none 0 0, .slice none 0 0, .slice none 0 0, .slice none 0 0, .int .i64 0, .slice none 0 0, .slice none 0 0] 35
  have b0 := (Below.refl w.heap.size w).alloc (Nat.le_refl _) (.cells #[.int .i64 0, .int .i64 0, .int .i64 0, .int .i64 0, .int .i64 0, .int .i64 0, .slice none 0 0, .slice none 0 0, .slice none 0 0, .slice none 0 0, .int .i64 0, .slice none 0 0, .slice none 0 0] 35)
  have d0 : decide (s < 0) = false := decide_eq_false (by omega)
  have k6 := X.cell 6 rfl
  have k7 := X.cell 7 rfl
  have k8 := X.cell 8 rfl
  have k9 := X.cell 9 rfl
  have k11 := X.cell 11 rfl
  have k12 := X.cell 12 rfl
  go_enter Tryz.func30, Tryz.ntmps30
  go_wp2_with fail
  refine (z_heldInt64S _ _).mono ?_
  rintro e w5 ⟨rfl, rfl⟩
  go_wp2_with fail
  refine (z_heldBoolS _ _).mono ?_
  rintro e w5 ⟨rfl, rfl⟩
  go_wp2_with fail
  refine (z_heldPeerS _ _).mono ?_
  rintro e w5 ⟨rfl, rfl⟩
  go_wp2_with fail
  refine (z_heldParcelS _ _).mono ?_
  rintro e w5 ⟨rfl, rfl⟩
  go_wp2_with fail
  refine (z_heldSealS _ _).mono ?_
  rintro e w5 ⟨rfl, rfl⟩
  go_wp2_with fail
  refine (z_heldFactS _ _).mono ?_
  rintro e w5 ⟨rfl, rfl⟩
  go_wp2
  go_ret
  exact ⟨rfl, b0⟩

end Go.Proofs.YtimakfokgcnklaaGreat.Nw
