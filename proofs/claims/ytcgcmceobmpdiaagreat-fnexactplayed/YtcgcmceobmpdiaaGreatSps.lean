/-
  Slices of slices of int64s: how great one is, a copy of one, whether two are alike, one that is marked. · A turn of the laws, handed in by value: its five cells, and what its slices hold. · Slices of slices of int64s: whether two are alike; one that is marked.
-/
import Derived.Test.YtcgcmceobmpdiaaGreatWl
import Derived.Test.YtcgcmceobmpdiaaGreatBools
import Derived.Test.YtcgcmceobmpdiaaGreatBase
import Derived.Deep.RegionHeld3
import Derived.Test.YtcgcmceobmpdiaaGreatTk
namespace Go.Proofs.YtcgcmceobmpdiaaGreat.Ss
open Go.ChangeShapes Go.WideShapes Go.ChangeAt Go.RowKit
open Ls (el Row)
open Ow (Has)
set_option linter.unusedVariables false
set_option linter.unusedSimpArgs false

def rw_ (zss : List (List Int)) (k : Nat) : List Int := zss.getD k []
def ln (zss : List (List Int)) (k : Nat) : Nat := (rw_ zss k).length
/-- How many numbers the first k rows have. -/
def tot (zss : List (List Int)) : Nat → Nat
  | 0 => 0
  | k + 1 => tot zss k + ln zss k
theorem tot_le (zss : List (List Int)) {j k : Nat} (h : j ≤ k) : tot zss j ≤ tot zss k := by
  induction k with
  | zero => obtain rfl : j = 0 := by omega
            exact Nat.le_refl _
  | succ k ih =>
    by_cases e : j = k + 1
    · subst e; exact Nat.le_refl _
    · have := ih (by omega); have e2 : tot zss (k + 1) = tot zss k + ln zss k := rfl; omega
theorem ln_tot (zss : List (List Int)) {j k : Nat} (h : j < k) : ln zss j ≤ tot zss k := by
  have := tot_le zss (show j + 1 ≤ k from h)
  have e2 : tot zss (j + 1) = tot zss j + ln zss j := rfl
  omega

/-- A slice of slices: its first n cells hold slices, each of which holds its row; all below block B. -/
def RowsAt (w : World) (B : Nat) (a : Option Addr) (n : Nat) (zss : List (List Int)) : Prop :=
  zss.length = n ∧ (n = 0 ∨ ∃ b off, a = some ⟨b, off, none⟩ ∧ b < B ∧ ∀ k, k < n → ∃ ak ck, w.cell? ⟨b, off + k, none⟩ = some (.slice ak (ln zss k) ck) ∧ Row w B ak (ln zss k) (rw_ zss k))
theorem RowsAt.later {w w' : World} {B B' : Nat} {a : Option Addr} {n : Nat} {zss : List (List Int)} (h : RowsAt w B a n zss) (hb : Below B' w w') (hB : B ≤ B') : RowsAt w' B a n zss := by
  obtain ⟨h1, h2⟩ := h
  refine ⟨h1, ?_⟩
  rcases h2 with h2 | ⟨b, off, e, hB1, hc⟩
  · exact .inl h2
  · refine .inr ⟨b, off, e, hB1, fun k hk => ?_⟩
    obtain ⟨ak, ck, h3, h4⟩ := hc k hk
    exact ⟨ak, ck, by rw [hb.cell (p := ⟨b, off + k, none⟩) (by simp; omega)]; exact h3, h4.later hb hB⟩
theorem RowsAt.more {w : World} {B B' : Nat} {a : Option Addr} {n : Nat} {zss : List (List Int)} (h : RowsAt w B a n zss) (hB : B ≤ B') : RowsAt w B' a n zss := by
  obtain ⟨h1, h2⟩ := h
  refine ⟨h1, ?_⟩
  rcases h2 with h2 | ⟨b, off, e, hB1, hc⟩
  · exact .inl h2
  · refine .inr ⟨b, off, e, by omega, fun k hk => ?_⟩
    obtain ⟨ak, ck, h3, h4⟩ := hc k hk
    exact ⟨ak, ck, h3, h4.more hB⟩

set_option maxHeartbeats 1000000 in
theorem sz_yes (a : Option Addr) (n cap : Nat) (zss : List (List Int)) (q : Int) (w : World) (hr : RowsAt w w.heap.size a n zss) (h0 : (n : Int) + tot zss n ≤ q) (h1 : q ≤ 1048576) :
    Calls Tryz.prog 33 #[.slice a n cap, .int .i64 q] w fun e w' => e = .returned (.int .i64 (q - n - tot zss n)) ∧ w' = w := by
  obtain ⟨hz, hrow⟩ := hr
  have h2 : decide (q - (n : Int) < 0) = false := by simp; omega
  go_enter Tryz.func33, Tryz.ntmps33
  go_wp2
  go_loop [1, 5] (fun v i => ∃ k : Nat, k ≤ n ∧ i = .int .i64 k ∧ v = .int .i64 (q - n - tot zss k)) (fun _ i => n - (intOf i).toNat)
  case atStart => exact ⟨0, Nat.zero_le _, rfl, by simp [tot]⟩
  case round =>
    obtain ⟨k, hk, rfl, rfl⟩ := hrel
    by_cases hlt : k < n
    · have hi : (k : Int) < n := by omega
      rcases hrow with hrow | ⟨b, off, rfl, hB, hc⟩
      · omega
      obtain ⟨ak, ck, hc1, hc2⟩ := hc k hlt
      have ht : tot zss (k + 1) = tot zss k + ln zss k := rfl
      have hm := tot_le zss (show k + 1 ≤ n from hlt)
      have h3 : decide (q - (n : Int) - tot zss k - ln zss k < 0) = false := by simp; omega
      go_wp2_with fail
      refine (Wl.sz_yes ak (ln zss k) ck _ _ (by omega) (by omega)).mono ?_
      rintro e w ⟨rfl, rfl⟩
      go_wp2_with fail
      go_round
      case rel => exact ⟨k + 1, by omega, by go_num, by rw [show (q - (n : Int) - tot zss k - ln zss k) = q - n - tot zss (k + 1) by omega]⟩
      case measure => simp [intOf]; omega
    · have hi : ¬ (k : Int) < n := by omega
      have e : k = n := by omega
      subst e
      go_wp2
      go_ret
      exact ⟨rfl, rfl⟩

set_option maxHeartbeats 1000000 in
theorem sz_no (a : Option Addr) (n cap : Nat) (zss : List (List Int)) (q : Int) (w : World) (hr : RowsAt w w.heap.size a n zss) (h0 : q < (n : Int) + tot zss n) (h1 : 0 ≤ q) (h2 : q ≤ 1048576) (hn : n ≤ maxLen) (hm : ∀ k, k < n → ln zss k ≤ maxLen) :
    Calls Tryz.prog 33 #[.slice a n cap, .int .i64 q] w fun e w' => e = .returned (.int .i64 (-1)) ∧ w' = w := by
  obtain ⟨hz, hrow⟩ := hr
  unfold maxLen at hn hm
  have HM : Hid (∀ k, k < n → ln zss k ≤ 9223372036854775807) := hm
  clear hm
  by_cases hq : (n : Int) ≤ q
  · have h3 : decide (q - (n : Int) < 0) = false := by simp; omega
    go_enter Tryz.func33, Tryz.ntmps33
    go_wp2
    go_loop [1, 5] (fun v i => ∃ k : Nat, k ≤ n ∧ i = .int .i64 k ∧ v = .int .i64 (q - n - tot zss k) ∧ 0 ≤ q - n - tot zss k) (fun _ i => n - (intOf i).toNat)
    case atStart => exact ⟨0, Nat.zero_le _, rfl, by simp [tot], by simp [tot]; omega⟩
    case round =>
      obtain ⟨k, hk, rfl, rfl, hp⟩ := hrel
      by_cases hlt : k < n
      · have hi : (k : Int) < n := by omega
        rcases hrow with hrow | ⟨b, off, rfl, hB, hc⟩
        · omega
        obtain ⟨ak, ck, hc1, hc2⟩ := hc k hlt
        have ht : tot zss (k + 1) = tot zss k + ln zss k := rfl
        by_cases hx : (ln zss k : Int) ≤ q - n - tot zss k
        · have h4 : decide (q - (n : Int) - tot zss k - ln zss k < 0) = false := by simp; omega
          go_wp2_with fail
          refine (Wl.sz_yes ak (ln zss k) ck _ _ hx (by omega)).mono ?_
          rintro e w ⟨rfl, rfl⟩
          go_wp2_with fail
          go_round
          case rel => exact ⟨k + 1, by omega, by go_num, by rw [show (q - (n : Int) - tot zss k - ln zss k) = q - n - tot zss (k + 1) by omega], by omega⟩
          case measure => simp [intOf]; omega
        · go_wp2_with fail
          refine (Wl.sz_no ak (ln zss k) ck _ _ (by omega) (by omega) (by have := HM.out k hlt; unfold maxLen; omega)).mono ?_
          rintro e w ⟨rfl, rfl⟩
          go_wp2
          go_ret
          exact ⟨rfl, rfl⟩
      · have e : k = n := by omega
        subst e
        omega
  · have h3 : decide (q - (n : Int) < 0) = true := by simp; omega
    go_enter Tryz.func33, Tryz.ntmps33
    go_wp2
    go_ret
    exact ⟨rfl, rfl⟩

/-- Blocks from B to C alone have been written. -/
structure Mid (B C : Nat) (w w' : World) : Prop where
  os : w'.os = w.os
  tape : w'.tape = w.tape
  output : w'.output = w.output
  size : w.heap.size ≤ w'.heap.size
  block : ∀ k, k < w.heap.size → k < B ∨ C ≤ k → w'.heap[k]? = w.heap[k]?
theorem Mid.of_below {B C : Nat} {w w' : World} (h : Below w.heap.size w w') : Mid B C w w' := ⟨h.os, h.tape, h.output, h.size, fun k hk _ => h.block k hk⟩
theorem Mid.of_grown {B C b : Nat} {w w' : World} (h : w.grownBy w' (some b)) (h1 : B ≤ b) (h2 : b < C) : Mid B C w w' := ⟨h.os, h.tape, h.output, h.size, fun k hk q => h.block k hk (by simp; omega)⟩
theorem Mid.trans {B C : Nat} {a b c : World} (h : Mid B C a b) (k : Mid B C b c) : Mid B C a c :=
  ⟨k.os.trans h.os, k.tape.trans h.tape, k.output.trans h.output, Nat.le_trans h.size k.size, fun i hi q => (k.block i (Nat.lt_of_lt_of_le hi h.size) q).trans (h.block i hi q)⟩
theorem Mid.wide {B C B' C' : Nat} {w w' : World} (h : Mid B C w w') (h1 : B' ≤ B) (h2 : C ≤ C') : Mid B' C' w w' := ⟨h.os, h.tape, h.output, h.size, fun k hk q => h.block k hk (by omega)⟩
theorem Mid.below {B C A : Nat} {w w' : World} (h : Mid B C w w') (hA : A ≤ B) (hw : A ≤ w.heap.size) : Below A w w' := ⟨h.os, h.tape, h.output, h.size, fun k hk => h.block k (by omega) (by omega)⟩
theorem Mid.has {B C : Nat} {w w' : World} (m : Mid B C w w') {A g off n : Nat} {zs : List Int} (h : Has w A g off n zs) (q : g < B ∨ C ≤ g) : Has w' A g off n zs := by
  have e := m.block g h.2.2.1 q
  exact ⟨h.1, h.2.1, by have := m.size; have := h.2.2.1; omega, fun k hk => by rw [World.cell?_of_block (w := w) (a := ⟨g, off + k, none⟩) e]; exact h.2.2.2.1 k hk, fun k hk => by rw [World.frozen?_of_block (w := w) (a := ⟨g, off + k, none⟩) e]; exact h.2.2.2.2 k hk⟩
theorem Mid.hasB {B C : Nat} {w w' : World} (m : Mid B C w w') {A g off n : Nat} {zs : List Bool} (h : Bo.HasB w A g off n zs) (q : g < B ∨ C ≤ g) : Bo.HasB w' A g off n zs := by
  have e := m.block g h.2.2.1 q
  exact ⟨h.1, h.2.1, by have := m.size; have := h.2.2.1; omega, fun k hk => by rw [World.cell?_of_block (w := w) (a := ⟨g, off + k, none⟩) e]; exact h.2.2.2.1 k hk, fun k hk => by rw [World.frozen?_of_block (w := w) (a := ⟨g, off + k, none⟩) e]; exact h.2.2.2.2 k hk⟩
theorem Mid.room {B C : Nat} {w w' : World} (m : Mid B C w w') {g : Nat} {vs : List Value} (h : Rm.Room w g vs) (hn : 0 < vs.length) (q : g < B ∨ C ≤ g) : Rm.Room w' g vs := h.block (m.block g (h.lt hn) q)

/-- A slice of slices that nothing else holds: block g, rows at later blocks, one behind the other, all from B to C. -/
def HasR (w : World) (B C g n : Nat) (zss : List (List Int)) : Prop :=
  zss.length = n ∧ B ≤ g ∧ g < C ∧ C ≤ w.heap.size ∧ (∀ k, k < n → w.frozen? ⟨g, k, none⟩ = false) ∧ ∃ gs : Nat → Nat, (∀ k, k < n → w.cell? ⟨g, k, none⟩ = some (.slice (some ⟨gs k, 0, none⟩) (ln zss k) (ln zss k)) ∧ g < gs k ∧ gs k < C ∧ Has w B (gs k) 0 (ln zss k) (rw_ zss k)) ∧ ∀ j k, j < k → k < n → gs j < gs k
theorem HasR.rows {w : World} {B C g n : Nat} {zss : List (List Int)} (h : HasR w B C g n zss) : RowsAt w w.heap.size (some ⟨g, 0, none⟩) n zss := by
  obtain ⟨h1, h2, h3, h3', h4, gs, h5, h6⟩ := h
  exact ⟨h1, .inr ⟨g, 0, rfl, by omega, fun k hk => ⟨_, _, by rw [Nat.zero_add]; exact (h5 k hk).1, (h5 k hk).2.2.2.row⟩⟩⟩
theorem Mid.hasR {X Y : Nat} {w w' : World} (m : Mid X Y w w') {B C g n : Nat} {zss : List (List Int)} (h : HasR w B C g n zss) (q : C ≤ X ∨ Y ≤ B) : HasR w' B C g n zss := by
  obtain ⟨h1, h2, h3, h3', h4, gs, h5, h6⟩ := h
  have e := m.block g (by omega) (by omega)
  refine ⟨h1, h2, h3, by have := m.size; omega, fun k hk => by rw [World.frozen?_of_block (w := w) (a := ⟨g, k, none⟩) e]; exact h4 k hk, gs, fun k hk => ⟨by rw [World.cell?_of_block (w := w) (a := ⟨g, k, none⟩) e]; exact (h5 k hk).1, (h5 k hk).2.1, (h5 k hk).2.2.1, m.has (h5 k hk).2.2.2 ?_⟩, h6⟩
  have := (h5 k hk).2.2.1
  have := (h5 k hk).2.1
  omega
theorem HasR.later {w w' : World} {B C g n : Nat} {zss : List (List Int)} (h : HasR w B C g n zss) (hb : Below w.heap.size w w') : HasR w' B C g n zss :=
  (Mid.of_below (B := C) (C := B) hb).hasR h (.inl (Nat.le_refl _))
theorem HasR.setOther {w : World} {B C g n : Nat} {zss : List (List Int)} (h : HasR w B C g n zss) {q : Nat} (hq : q < B ∨ C ≤ q) (i : Nat) (u : Value) : HasR (w.setCell ⟨q, i, none⟩ u) B C g n zss := by
  refine (show Mid q (q + 1) w (w.setCell ⟨q, i, none⟩ u) from ⟨rfl, rfl, rfl, by simp, fun k hk e => Below.heap_setCell _ _ _ _ (by simp; omega)⟩).hasR h (by omega)

theorem info : (Tryz.prog.info? 24).map (fun i => (i.zero, i.size, i.bytes)) = some (some (.slice none 0 0), 1, 24) := by kernel_rfl
def part (zss : List (List Int)) (gs : Nat → Nat) (k i : Nat) : Value := if i < k then .slice (some ⟨gs i, 0, none⟩) (ln zss i) (ln zss i) else .slice none 0 0

set_option maxHeartbeats 2000000 in
theorem copied (a : Option Addr) (n cap : Nat) (zss : List (List Int)) (w : World) (hr : RowsAt w w.heap.size a n zss) (hn : n ≤ 1048576) (ht : tot zss n ≤ 1048576) :
    Calls Tryz.prog 44 #[.slice a n cap] w fun e w' => (∃ g, e = .returned (.slice (some ⟨g, 0, none⟩) n n) ∧ HasR w' w.heap.size w'.heap.size g n zss) ∧ Below w.heap.size w w' := by
  have hmk := run_make_row' (P := Tryz.prog) 45 24 (.slice none 0 0) 24 Tryz.underlying45 info rfl .i64 .i64 n (by omega) (by omega)
  have ⟨hz, hrow⟩ := hr
  go_enter Tryz.func44, Tryz.ntmps44
  go_wp2
  go_loopw [4] (fun i wr => ∃ k : Nat, k ≤ n ∧ i = .int .i64 k ∧ Hid (∃ gs : Nat → Nat, wr.rowIs w.heap.size 24 n (part zss gs k) ∧ (∀ j, j < k → w.heap.size < gs j ∧ Has wr w.heap.size (gs j) 0 (ln zss j) (rw_ zss j)) ∧ ∀ i j, i < j → j < k → gs i < gs j) ∧ Below w.heap.size w wr) (fun i _ => n - (intOf i).toNat)
  case atStart =>
    exact ⟨0, Nat.zero_le _, rfl, ⟨fun _ => 0, (World.rowIs_made w _ n _).congr (fun i _ => by simp [part]), fun j hj => by omega, fun i j _ hj => by omega⟩, (Below.refl _ _).alloc (Nat.le_refl _) _⟩
  case round =>
    obtain ⟨k, hk, rfl, H, hb⟩ := hrel
    obtain ⟨gs, hown, hgs, hinc⟩ := H.out
    clear H
    by_cases hlt : k < n
    · have hi : (k : Int) < n := by omega
      rcases hrow with hrow | ⟨b, off, rfl, hB, hc⟩
      · omega
      obtain ⟨ak, ck, hc1, hc2⟩ := hc k hlt
      rw [← hb.cell (p := ⟨b, off + k, none⟩) hB] at hc1
      have hlt2 := hown.lt
      have hln := ln_tot zss hlt
      go_wp2_with fail
      refine (Ow.copied ak (ln zss k) ck (rw_ zss k) _ ((hc2.later hb (Nat.le_refl _)).more hb.size) (by omega)).mono ?_
      rintro e w2 ⟨⟨gn, rfl, hN⟩, b2⟩
      have hB2 := hb.trans (b2.mono hb.size)
      have hown2 : w2.rowIs w.heap.size 24 n (part zss gs k) := by
        obtain ⟨c, q1, q2⟩ := hown
        exact ⟨c, by rw [b2.block _ hlt2]; exact q1, q2⟩
      have hcc := hown2.cell hlt
      have hff := hown2.frozen k
      have HN : Hid (∃ gs : Nat → Nat, (w2.setCell ⟨w.heap.size, k, none⟩ (.slice (some ⟨gn, 0, none⟩) (ln zss k) (ln zss k))).rowIs w.heap.size 24 n (part zss gs (k + 1)) ∧ (∀ j, j < k + 1 → w.heap.size < gs j ∧ Has (w2.setCell ⟨w.heap.size, k, none⟩ (.slice (some ⟨gn, 0, none⟩) (ln zss k) (ln zss k))) w.heap.size (gs j) 0 (ln zss j) (rw_ zss j)) ∧ ∀ i j, i < j → j < k + 1 → gs i < gs j) := by
        have lo := hN.2.1
        refine ⟨fun j => if j = k then gn else gs j, (hown2.set k _).congr fun i hi => ?_, fun j hj => ?_, fun i j hij hj => ?_⟩
        · unfold part
          dsimp only
          by_cases e : i = k
          · subst e; simp
          · rw [if_neg e, if_neg e]
            by_cases h2 : i < k
            · rw [if_pos h2, if_pos (by omega)]
            · rw [if_neg h2, if_neg (by omega)]
        · dsimp only
          by_cases e : j = k
          · subst e
            rw [if_pos rfl]
            exact ⟨by omega, (hN.setOther (q := w.heap.size) (by omega) j _).mono (by omega)⟩
          · rw [if_neg e]
            obtain ⟨q1, q2⟩ := hgs j (by omega)
            exact ⟨q1, (q2.later b2 q2.2.2.1).setOther (q := w.heap.size) (by omega) k _⟩
        · dsimp only
          have q2 := (hgs i (by omega)).2.2.2.1
          by_cases e : j = k
          · subst e
            rw [if_pos rfl, if_neg (by omega)]
            omega
          · rw [if_neg e, if_neg (by omega)]
            exact hinc i j hij (by omega)
      clear hown hgs hinc hN b2 hown2
      go_wp2_with fail
      go_roundw
      case rel => exact ⟨k + 1, by omega, by go_num, HN, hB2.setCell (Nat.le_refl _) _⟩
      case measure => simp [intOf]; omega
    · have hi : ¬ (k : Int) < n := by omega
      have e : k = n := by omega
      subst e
      have HF : Hid (HasR wr w.heap.size wr.heap.size w.heap.size k zss) :=
        ⟨hz, Nat.le_refl _, hown.lt, Nat.le_refl _, fun j hj => hown.frozen _, gs, fun j hj => ⟨by rw [hown.cell hj, part, if_pos hj], (hgs j hj).1, (hgs j hj).2.2.2.1, (hgs j hj).2⟩, hinc⟩
      go_wp2
      go_ret
      exact ⟨⟨_, rfl, HF.out⟩, hb⟩

end Go.Proofs.YtcgcmceobmpdiaaGreat.Ss

namespace Go.Proofs.YtcgcmceobmpdiaaGreat.Rd
open Go.ChangeShapes Go.WideShapes Go.ChangeAt Go.RowKit Go.Joins Go.Deep
open Ss (RowsAt ln rw_)
set_option linter.unusedVariables false

/-- A slice of slices of int64s. -/
theorem Reads.rows {H : Type} {enc : TypeId × Value → H} {P : Program} {w : World} {base : Nat} {spare : Nat → Bool} {held : Bool} {t : TypeId} {cs : List Value} {s e : TypeId} (ht : P.underlying t = some (.slice s)) (hs : P.underlying s = some (.slice e)) (he : P.underlying e = some (.int .i64)) (hc : P.cellsOf s = 1) (hc2 : P.cellsOf e = 1) (h : Reads enc P w base spare held t cs) :
    ∃ (a : Option Addr) (n cap : Nat) (zss : List (List Int)), cs = [.slice a n cap] ∧ RowsAt w w.heap.size a n zss ∧ n ≤ maxLen ∧ ∀ k, k < n → ln zss k ≤ maxLen := by
  rcases h.slice ht with rfl | ⟨a, n, cap, rfl, hl1, hl2, hel⟩
  · exact ⟨none, 0, 0, [], rfl, ⟨rfl, .inl rfl⟩, Nat.zero_le _, fun k hk => by omega⟩
  · have each : ∀ i, i < n → ∃ z : List Int, ∃ ak nk ck, w.cell? (a.add i) = some (.slice ak nk ck) ∧ Ls.Row w w.heap.size ak nk z ∧ nk ≤ maxLen := fun i hi => by
      obtain ⟨ds, h1, h2⟩ := hel i hi
      obtain ⟨ak, nk, ck, z, rfl, h3, h4, _⟩ := h2.ints hs he hc2
      rw [hc, Nat.mul_one] at h1
      exact ⟨z, ak, nk, ck, cell_of_cells?_one h1, h3, h4⟩
    obtain ⟨f, hf⟩ : ∃ f : Nat → List Int, ∀ i, i < n → ∃ ak nk ck, w.cell? (a.add i) = some (.slice ak nk ck) ∧ Ls.Row w w.heap.size ak nk (f i) ∧ nk ≤ maxLen :=
      ⟨fun i => if hi : i < n then (each i hi).choose else [], fun i hi => by simp only [hi, dif_pos]; exact (each i hi).choose_spec⟩
    have er : ∀ k, k < n → rw_ ((List.range n).map f) k = f k := fun k hk => by simp [rw_, List.getD, hk]
    refine ⟨some a, n, cap, (List.range n).map f, rfl, ⟨by simp, ?_⟩, by omega, fun k hk => ?_⟩
    · by_cases h0 : n = 0
      · exact .inl h0
      · obtain ⟨b, off, spot⟩ := a
        obtain ⟨ak0, nk0, ck0, hc0, -, -⟩ := hf 0 (by omega)
        have hs : spot = none := by simpa [Addr.add] using World.cell?_spot hc0
        subst hs
        have hb := World.block_lt_of_cell? _ _ hc0
        refine .inr ⟨b, off, rfl, by simpa [Addr.add] using hb, fun k hk => ?_⟩
        obtain ⟨ak, nk, ck, q1, q2, q3⟩ := hf k hk
        rw [add_plain] at q1
        have e2 : ln ((List.range n).map f) k = nk := by unfold ln; rw [er k hk]; exact q2.1
        rw [e2, er k hk]
        exact ⟨ak, ck, q1, q2⟩
    · obtain ⟨ak, nk, ck, q1, q2, q3⟩ := hf k hk
      unfold ln
      rw [er k hk, q2.1]
      exact q3

theorem five {α : Type} {cs : Array α} (h : cs.toList.length = 5) : ∃ a b c d e, cs = #[a, b, c, d, e] := by
  obtain ⟨l⟩ := cs
  match l, h with
  | [a, b, c, d, e], _ => exact ⟨a, b, c, d, e, rfl⟩
theorem cells_t1 : Tryz.prog.cellsOf 2 = 1 := by kernel_rfl
theorem cells_t2 : Tryz.prog.cellsOf 24 = 1 := by kernel_rfl
theorem cells_t3 : Tryz.prog.cellsOf 45 = 1 := by kernel_rfl
theorem cells_t4 : Tryz.prog.cellsOf 46 = 1 := by kernel_rfl
theorem cells_t5 : Tryz.prog.cellsOf 4 = 1 := by kernel_rfl
theorem cells_turn : Tryz.prog.cellsOf 48 = 5 := by kernel_rfl

theorem turn {H : Type} {enc : TypeId × Value → H} {w : World} {base : Nat} {spare : Nat → Bool} {held : Bool} {cs : Array Value} (h : Reads enc Tryz.prog w base spare held 48 cs.toList) :
    ∃ (aD : Option Addr) (nD cD : Nat) (aE : Option Addr) (nE cE : Nat) (aL : Option Addr) (nL cL : Nat) (aF : Option Addr) (nF cF : Nat) (aR : Option Addr) (nR cR : Nat) (ds : List Int) (es ls : List (List Int)) (fs rs : List Bool),
      cs = #[.slice aD nD cD, .slice aE nE cE, .slice aL nL cL, .slice aF nF cF, .slice aR nR cR] ∧ Ls.Row w w.heap.size aD nD ds ∧ RowsAt w w.heap.size aE nE es ∧ RowsAt w w.heap.size aL nL ls ∧ Flags w w.heap.size aF nF fs ∧ Flags w w.heap.size aR nR rs ∧ nD ≤ maxLen ∧ nE ≤ maxLen ∧ nL ≤ maxLen ∧ nF ≤ maxLen ∧ nR ≤ maxLen ∧ (∀ k, k < nE → ln es k ≤ maxLen) ∧ ∀ k, k < nL → ln ls k ≤ maxLen := by
  obtain ⟨hl, hf⟩ := h.struct Tryz.underlying48
  rw [cells_turn] at hl
  obtain ⟨c0, c1, c2, c3, c4, rfl⟩ := five hl
  obtain ⟨aD, nD, cD, ds, e0, h0, m0, _⟩ := (hf 0 _ rfl).ints Tryz.underlying24 Tryz.underlying2 cells_t1
  obtain ⟨aE, nE, cE, es, e1, h1, m1, k1⟩ := (hf 1 _ rfl).rows Tryz.underlying45 Tryz.underlying24 Tryz.underlying2 cells_t2 cells_t1
  obtain ⟨aL, nL, cL, ls, e2, h2, m2, k2⟩ := (hf 2 _ rfl).rows Tryz.underlying45 Tryz.underlying24 Tryz.underlying2 cells_t2 cells_t1
  obtain ⟨aF, nF, cF, fs, e3, h3, m3⟩ := (hf 3 _ rfl).bools Tryz.underlying46 Tryz.underlying4 cells_t5
  obtain ⟨aR, nR, cR, rs, e4, h4, m4⟩ := (hf 4 _ rfl).bools Tryz.underlying46 Tryz.underlying4 cells_t5
  simp [cells_t2, cells_t3, cells_t4] at e0 e1 e2 e3 e4
  subst e0 e1 e2 e3 e4
  exact ⟨aD, nD, cD, aE, nE, cE, aL, nL, cL, aF, nF, cF, aR, nR, cR, ds, es, ls, fs, rs, rfl, h0, h1, h2, h3, h4, m0, m1, m2, m3, m4, k1, k2⟩

end Go.Proofs.YtcgcmceobmpdiaaGreat.Rd

namespace Go.Proofs.YtcgcmceobmpdiaaGreat.Ss
open Go.ChangeShapes Go.WideShapes Go.ChangeAt Go.RowKit
open Ls (el Row)
open Ow (Has)
set_option linter.unusedVariables false
set_option linter.unusedSimpArgs false

set_option maxHeartbeats 4000000 in
theorem eqInt64SS (a b : Option Addr) (n cap cap' : Nat) (zss : List (List Int)) (w : World) (hr : RowsAt w w.heap.size a n zss) (hs : RowsAt w w.heap.size b n zss) (hn : n ≤ 1048576) (ht : tot zss n ≤ 1048576) :
    Calls Tryz.prog 54 #[.slice a n cap, .slice b n cap'] w fun e w' => e = .returned (.bool true) ∧ Below w.heap.size w w' := by
  have ⟨hz, hrow⟩ := hr
  have ⟨_, hrow'⟩ := hs
  go_enter Tryz.func54, Tryz.ntmps54
  go_wp2
  go_loopw [5] (fun i w' => ∃ k : Nat, k ≤ n ∧ i = .int .i64 k ∧ Below w.heap.size w w') (fun i _ => n - (intOf i).toNat)
  case atStart => exact ⟨0, Nat.zero_le _, rfl, Below.refl _ _⟩
  case round =>
    obtain ⟨k, hk, rfl, hb⟩ := hrel
    by_cases hlt : k < n
    · have hi : (k : Int) < n := by omega
      have hln := ln_tot zss hlt
      rcases hrow with hrow | ⟨b1, o1, rfl, hB1, hc⟩
      · omega
      rcases hrow' with hrow' | ⟨b2, o2, rfl, hB2, hc'⟩
      · omega
      obtain ⟨ak, ck, hc1, hc2⟩ := hc k hlt
      obtain ⟨ek, fk, he1, he2⟩ := hc' k hlt
      have hc1w : wr.drew.cell? ⟨b1, o1 + k, none⟩ = some (.slice ak (ln zss k) ck) := by rw [hb.drew.cell (p := ⟨b1, o1 + k, none⟩) hB1]; exact hc1
      have he1w : wr.drew.cell? ⟨b2, o2 + k, none⟩ = some (.slice ek (ln zss k) fk) := by rw [hb.drew.cell (p := ⟨b2, o2 + k, none⟩) hB2]; exact he1
      go_wp2_with fail
      refine wp_region_noPanic ?_
      refine wp_region_held_drew (S := (fun w' => w'.cell? ⟨b1, o1 + k, none⟩ = some (.slice ak (ln zss k) ck) ∧ w'.cell? ⟨b2, o2 + k, none⟩ = some (.slice ek (ln zss k) fk) ∧ Hid (Below w.heap.size w w'))) (by kernel_rfl) ⟨hc1w, he1w, hb.drew⟩ (fun hHeld => ?_)
      refine Tk.W 0 (some 17) (.move (.tmp 0)) 45 none ?_
      refine Tk.W 1 (some 18) (.move (.tmp 5)) 3 none ?_
      refine Tk.W 2 (some 19) (.indexAddr 45 (.tmp 17) (.tmp 18)) 0 none ?_
      refine Tk.W 3 (some 20) (.load 24 (.tmp 19)) 24 none ?_
      refine Tk.W 4 (some 21) (.move (.tmp 1)) 45 none ?_
      refine Tk.W 5 (some 22) (.move (.tmp 5)) 3 none ?_
      refine Tk.W 6 (some 23) (.indexAddr 45 (.tmp 21) (.tmp 22)) 0 none ?_
      refine Tk.W 7 (some 24) (.load 24 (.tmp 23)) 24 none ?_
      refine Tk.R 8 (some 25) (.call ⟨.value (.func 27), #[.tmp 20, .tmp 24], #[24, 24]⟩) 4 none (fun K hK => ?_)
      go_simp
      refine (Ls.eqInt64S _ _ (ln zss k) _ _ (rw_ zss k) _ ((hc2.later hHeld.2.2.out (Nat.le_refl _)).more hHeld.2.2.out.size) ((he2.later hHeld.2.2.out (Nat.le_refl _)).more hHeld.2.2.out.size) (by omega)).mono ?_
      rintro e ve9 ⟨rfl, be9⟩
      have qe9 := hHeld.2.2.out.trans (be9.mono hHeld.2.2.out.size)
      have kve9 := Tk.kv hK (w := ve9) ⟨by rw [qe9.cell (p := ⟨b1, o1 + k, none⟩) hB1]; exact hc1, by rw [qe9.cell (p := ⟨b2, o2 + k, none⟩) hB2]; exact he1, qe9⟩
      try dsimp only
      refine hK.out _ _ kve9 ?_; clear hK K hHeld; intro hHeld; try simp only [Act.put, List.setIfInBounds_toArray, List.set_cons_zero, List.set_cons_succ]
      refine Tk.W 9 (some 26) (.unOp .not 4 (.tmp 25)) 4 none ?_
      refine wpAnyH_done (by kernel_rfl) ?_ _
      refine NoPanic.normal ?_
      have hbb := hHeld.2.2.out
      clear hHeld
      go_wp2_with fail
      go_roundw
      case rel => exact ⟨k + 1, by omega, by go_num, hbb⟩
      case measure => simp [intOf]; omega
    · have hi : ¬ (k : Int) < n := by omega
      go_wp2
      go_ret
      exact ⟨rfl, hb⟩

set_option maxHeartbeats 4000000 in
theorem mark (s : Int) (B C g n cap : Nat) (zss : List (List Int)) (w : World) (h : HasR w B C g n zss) (hn : n ≤ 1048576) (ht : tot zss n ≤ 1048576) (hs0 : 0 ≤ s) (hs1 : s ≤ 50000000) :
    Calls Tryz.prog 30 #[.slice (some ⟨g, 0, none⟩) n cap, .int .i64 s] w fun e w' => e = .returned (.int .i64 (s + tot zss n)) ∧ Mid B C w w' := by
  obtain ⟨hz, hB, hg, hC, hf, gs, hc, hinc⟩ := h
  have HC : Hid (∀ k, k < n → w.cell? ⟨g, k, none⟩ = some (.slice (some ⟨gs k, 0, none⟩) (ln zss k) (ln zss k)) ∧ g < gs k ∧ gs k < C ∧ Has w B (gs k) 0 (ln zss k) (rw_ zss k)) := hc
  have HI : Hid (∀ j k, j < k → k < n → gs j < gs k) := hinc
  clear hc hinc hf
  go_enter Tryz.func30, Tryz.ntmps30
  go_wp2
  go_loopw [1, 5] (fun q i wr => ∃ k : Nat, k ≤ n ∧ i = .int .i64 k ∧ q = .int .i64 (s + tot zss k) ∧ Hid (∀ j, k ≤ j → j < n → wr.heap[gs j]? = w.heap[gs j]?) ∧ wr.heap[g]? = w.heap[g]? ∧ Mid B C w wr) (fun _ i _ => n - (intOf i).toNat)
  case atStart => exact ⟨0, Nat.zero_le _, rfl, by simp [tot], (fun j _ _ => rfl), rfl, ⟨rfl, rfl, rfl, Nat.le_refl _, fun _ _ _ => rfl⟩⟩
  case round =>
    obtain ⟨k, hk, rfl, rfl, HK, hgb, hb⟩ := hrel
    by_cases hlt : k < n
    · have hi : (k : Int) < n := by omega
      obtain ⟨c1, c2, c2', c3⟩ := HC.out k hlt
      have hl := tot_le zss (show k + 1 ≤ n from hlt)
      have ht2 : tot zss (k + 1) = tot zss k + ln zss k := rfl
      have c1' : wr.cell? ⟨g, k, none⟩ = some (.slice (some ⟨gs k, 0, none⟩) (ln zss k) (ln zss k)) := by rw [World.cell?_of_block (w := w) (a := ⟨g, k, none⟩) hgb]; exact c1
      have c3' : Hid (Has wr B (gs k) 0 (ln zss k) (rw_ zss k)) := by
        have e := HK.out k (Nat.le_refl _) hlt
        exact ⟨c3.1, c3.2.1, by have := hb.size; have := c3.2.2.1; omega, fun i hi => by rw [World.cell?_of_block (w := w) (a := ⟨gs k, 0 + i, none⟩) e]; exact c3.2.2.2.1 i hi, fun i hi => by rw [World.frozen?_of_block (w := w) (a := ⟨gs k, 0 + i, none⟩) e]; exact c3.2.2.2.2 i hi⟩
      have hlo := c3.2.1
      have hgl : g < wr.heap.size := by have := hb.size; omega
      clear c1 c3
      go_wp2_with fail
      refine (Ow.mark (s + tot zss k) B (gs k) 0 (ln zss k) (ln zss k) (rw_ zss k) _ c3'.out (by omega) (by omega) (by omega)).mono ?_
      rintro e w2 ⟨rfl, -, g2⟩
      have HK2 : Hid (∀ j, k + 1 ≤ j → j < n → w2.heap[gs j]? = w.heap[gs j]?) := fun j h1 h2 => by
        have q := HI.out k j (by omega) h2
        have q2 := (HC.out j h2).2.2.1
        rw [g2.block (gs j) (by have := hb.size; omega) (by simp; omega)]
        exact HK.out j (by omega) h2
      have hgb2 : w2.heap[g]? = w.heap[g]? := by rw [g2.block g hgl (by simp; omega)]; exact hgb
      have hb2 : Mid B C w w2 := hb.trans (Mid.of_grown g2 hlo c2')
      clear HK hgb g2 c3' c1'
      go_wp2_with fail
      go_roundw
      case rel => exact ⟨k + 1, by omega, by go_num, by rw [show (s + (tot zss k : Int) + (ln zss k : Int)) = s + tot zss (k + 1) by omega], HK2, hgb2, hb2⟩
      case measure => simp [intOf]; omega
    · have hi : ¬ (k : Int) < n := by omega
      have e : k = n := by omega
      subst e
      go_wp2
      go_ret
      exact ⟨rfl, hb⟩

end Go.Proofs.YtcgcmceobmpdiaaGreat.Ss
