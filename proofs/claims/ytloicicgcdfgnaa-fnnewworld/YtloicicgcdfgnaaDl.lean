/-
  Who lies, drawn (spec.l5DrawLies): at most as many as may; and what a step of a cursor leaves as it is.
-/
import Derived.Test.YtloicicgcdfgnaaWdAll
import Derived.Test.YtloicicgcdfgnaaDrawAny
namespace Go.Proofs.Ytloicicgcdfgnaa.Dr
open Go.ChangeShapes Go.WideShapes Go.ChangeAt Go.RowKit
open Ls (el Row)
open Ow (Has Own ints)
open Bo (eb HasB)
open Wl (KL bad)
set_option linter.unusedVariables false
set_option linter.unusedSimpArgs false

theorem has_step {p : Nat} {w w' : World} {B g off n : Nat} {zs : List Int} (h : Has w B g off n zs) (s : Step p w w') (hne : g ≠ p) : Has w' B g off n zs := by
  have e : w'.heap[g]? = w.heap[g]? := s.block g h.2.2.1 hne
  exact ⟨h.1, h.2.1, by have := s.size; have := h.2.2.1; omega, fun k hk => by rw [World.cell?_of_block (w := w) (a := ⟨g, off + k, none⟩) e]; exact h.2.2.2.1 k hk, fun k hk => by rw [World.frozen?_of_block (w := w) (a := ⟨g, off + k, none⟩) e]; exact h.2.2.2.2 k hk⟩
theorem hasb_step {p : Nat} {w w' : World} {B g off n : Nat} {zs : List Bool} (h : HasB w B g off n zs) (s : Step p w w') (hne : g ≠ p) : HasB w' B g off n zs := by
  have e : w'.heap[g]? = w.heap[g]? := s.block g h.2.2.1 hne
  exact ⟨h.1, h.2.1, by have := s.size; have := h.2.2.1; omega, fun k hk => by rw [World.cell?_of_block (w := w) (a := ⟨g, off + k, none⟩) e]; exact h.2.2.2.1 k hk, fun k hk => by rw [World.frozen?_of_block (w := w) (a := ⟨g, off + k, none⟩) e]; exact h.2.2.2.2 k hk⟩
theorem own_step {w w' : World} {p B g n c : Nat} {zs : List Int} (h : Own w B g n c zs) (s : Step p w w') (hne : g ≠ p) : Own w' B g n c zs := by
  obtain ⟨h1, h2⟩ := h
  refine ⟨h1, ?_⟩
  rcases h2 with h2 | ⟨g', cap', cur, e, hB, hb', rest⟩
  · exact .inl h2
  · cases e
    exact .inr ⟨g, c, cur, rfl, hB, by rw [s.block g (Array.getElem?_eq_some_iff.1 hb').1 hne]; exact hb', rest⟩
theorem room_step {p : Nat} {w w1 : World} {g : Nat} {vs : List Value} (h : Rm.Room w g vs) (s : Step p w w1) (hne : g ≠ p) : Rm.Room w1 g vs := Room.step h s hne

theorem step_grown {p g : Nat} {w0 w w' : World} (k : Step p w0 w) (hg : w.grownBy w' (some g)) (h0 : w0.heap.size ≤ g) : Step p w0 w' :=
  ⟨hg.os.trans k.os, hg.tape.trans k.tape, hg.output.trans k.output, Nat.le_trans k.size hg.size, fun j hj hn => by
    rw [hg.block j (Nat.lt_of_lt_of_le hj k.size) (by simp; omega)]; exact k.block j hj hn⟩

theorem dr_grown {w0 w w' : World} {B p g : Nat} {a : Option Addr} {len cap : Nat} (s : St w0 B p a len cap w) (hg : w.grownBy w' (some g)) (hp : g ≠ p) (hB : B ≤ g) (h0 : w0.heap.size ≤ g) : St w0 B p a len cap w' := by
  obtain ⟨⟨i, h, c⟩, k⟩ := s
  have hpl : p < w.heap.size := World.block_lt_of_cell? _ _ c.c0
  have e : w'.heap[p]? = w.heap[p]? := hg.block p hpl (by simp; omega)
  have ec : ∀ o, w'.cell? ⟨p, o, none⟩ = w.cell? ⟨p, o, none⟩ := fun o => World.cell?_of_block (a := ⟨p, o, none⟩) e
  have ef : ∀ o, w'.frozen? ⟨p, o, none⟩ = w.frozen? ⟨p, o, none⟩ := fun o => World.frozen?_of_block (a := ⟨p, o, none⟩) e
  exact ⟨⟨i, h, c.le, c.code.later ((Below.refl _ _).grown hg (by have := c.le; omega) (by intro j hj; cases hj; exact hB)), by rw [ec]; exact c.c0, by rw [ec]; exact c.c1, by rw [ec]; exact c.c2, by rw [ef]; exact c.f1, by rw [ef]; exact c.f2, c.i_le⟩, step_grown k hg h0⟩

/-- A cursor behind an append to a slice that is new. -/
theorem St.grown {w0 w w' : World} {B p : Nat} {row : Option Nat} {a : Option Addr} {len cap : Nat} (s : St w0 B p a len cap w) (hg : w.grownBy w' row) (hr : ∀ g, row = some g → g ≠ p ∧ B ≤ g ∧ w0.heap.size ≤ g) : St w0 B p a len cap w' := by
  cases row with
  | some g => exact dr_grown s hg (hr g rfl).1 (hr g rfl).2.1 (hr g rfl).2.2
  | none => exact s.below ⟨hg.os, hg.tape, hg.output, hg.size, fun k hk => hg.block k hk (by simp)⟩
theorem own_put {w : World} {B g n c j : Nat} {zs : List Int} (h : Own w B g n c zs) (hj : j < n) (x : Int) : Own (w.setCell ⟨g, j, none⟩ (.int .i64 x)) B g n c (zs.set j x) := by
  obtain ⟨h1, hB, h2, h2', cur, hb, h3, h4⟩ := h.data
  refine ⟨by simp [ints]; omega, .inr ⟨g, c, cur.setIfInBounds j (.int .i64 x), rfl, hB, ?_, h2, h2', by simp; omega, ?_⟩⟩
  · simp [World.setCell, Array.getElem?_modify, hb]
  · rw [Nat.mul_one, Array.toList_setIfInBounds, List.take_set, h4, ints, ints, List.map_set]
theorem has_put {w : World} {B g off n j : Nat} {zs : List Int} (h : Has w B g off n zs) (hj : j < n) (x : Int) : Has (w.setCell ⟨g, off + j, none⟩ (.int .i64 x)) B g off n (zs.set j x) := by
  refine ⟨by simp [h.1], h.2.1, by simpa using h.2.2.1, fun k hk => ?_, fun k hk => by rw [World.frozen?_setCell]; exact h.2.2.2.2 k hk⟩
  by_cases e : k = j
  · subst e
    rw [World.cell?_setCell_same _ _ _ (h.2.2.2.1 k hk)]
    simp [el, List.getD, h.1, hk]
  · rw [World.cell?_setCell_other _ _ _ _ (by simp <;> omega), h.2.2.2.1 k hk]
    simp [el, List.getD, List.getElem?_set, e, Ne.symm e]

theorem l1From' (w0 : World) (B p : Nat) (a : Option Addr) (len cap : Nat) (lo hi : Int) (h1 : lo ≤ hi) (h2 : -4000000000 ≤ lo) (h3 : hi ≤ 4000000000) (w : World) (st : St w0 B p a len cap w) :
    Calls Try.prog 119 #[.pointer (some ⟨p, 0, none⟩), .int .i64 lo, .int .i64 hi] w fun e w' => (∃ y : Int, e = .returned (.int .i64 y) ∧ lo ≤ y ∧ y ≤ hi) ∧ St w0 B p a len cap w' ∧ Step p w w' :=
  (l1From w B p a len cap lo hi h1 h2 h3 w st.here).mono fun e w' ⟨h, s⟩ => ⟨h, St.on st.step s, s.step⟩

theorem hasb_set {w : World} {B g off n y : Nat} {bs : List Bool} (h : HasB w B g off n bs) (hy : y < n) (b : Bool) : HasB (w.setCell ⟨g, off + y, none⟩ (.bool b)) B g off n (bs.set y b) := by
  refine ⟨by simp [h.1], h.2.1, by simpa using h.2.2.1, fun k hk => ?_, fun k hk => by rw [World.frozen?_setCell]; exact h.2.2.2.2 k hk⟩
  by_cases e : k = y
  · subst e
    rw [World.cell?_setCell_same _ _ _ (h.2.2.2.1 k hk)]
    simp [eb, List.getD, h.1, hk]
  · rw [World.cell?_setCell_other _ _ _ _ (by simp <;> omega), h.2.2.2.1 k hk]
    simp [eb, List.getD, List.getElem?_set, e, Ne.symm e]
theorem bad_set (bs : List Bool) (y n : Nat) (b : Bool) : bad (KL (bs.set y b)) n ≤ bad (KL bs) n + 1 ∧ (n ≤ y → bad (KL (bs.set y b)) n = bad (KL bs) n) := by
  have e : ∀ k, k ≠ y → el (KL (bs.set y b)) k = el (KL bs) k := fun k hk => by
    have q : eb (bs.set y b) k = eb bs k := by simp [eb, List.getD, List.getElem?_set, Ne.symm hk]
    rw [Wl.kl_el, Wl.kl_el, q]
  induction n with
  | zero => exact ⟨Nat.zero_le _, fun _ => rfl⟩
  | succ n ih =>
    unfold bad
    by_cases h : n = y
    · have q := ih.2 (by omega)
      rw [q]
      refine ⟨?_, fun h2 => by omega⟩
      split <;> split <;> omega
    · rw [e n h]
      have q := ih.1
      exact ⟨by omega, fun h2 => by rw [ih.2 (by omega)]⟩
theorem bad_none (n k : Nat) : bad (KL (List.replicate n false)) k = 0 := by
  induction k with
  | zero => rfl
  | succ k ih =>
    unfold bad
    rw [ih, Wl.kl_el]
    have : eb (List.replicate n false) k = false := by
      unfold eb List.getD
      rw [List.getElem?_replicate]
      split <;> rfl
    rw [this]
    rfl

set_option maxHeartbeats 2000000 in
theorem l5DrawLies (w0 : World) (B p : Nat) (a : Option Addr) (len cap : Nat) (n : Nat) (most : Int) (hn : 0 < n) (hn2 : n ≤ 1000) (h0 : 0 ≤ most) (h1 : most ≤ 1000) (w : World) (st : St w0 B p a len cap w) :
    Calls Try.prog 75 #[.pointer (some ⟨p, 0, none⟩), .int .i64 n, .int .i64 most] w fun e w' => (∃ g, e = .returned (.slice (some ⟨g, 0, none⟩) n n) ∧ ∃ bs, HasB w' w.heap.size g 0 n bs ∧ (bad (KL bs) n : Int) ≤ most) ∧ St w0 B p a len cap w' ∧ Step p w w' := by
  have hmk := run_make_row' (P := Try.prog) 35 4 (.bool false) 1 Try.underlying35 Bo.info rfl .i64 .i64 n (by omega) (by omega)
  have hp := st.lt
  have hB := st.le
  have hst := st.step
  go_enter Try.func75, Try.ntmps75
  go_wp2_with fail
  have stA := st.here.obj (.cells (madeCells #[.bool false] n) 4)
  have HA : HasB (w.alloc (.cells (madeCells #[.bool false] n) 4)) w.heap.size w.heap.size 0 n (List.replicate n false) :=
    Bo.has_new (by simp) (Nat.le_refl _) ((World.rowIs_made w _ n _).congr (fun i hi => by unfold Bo.part eb List.getD; rw [List.getElem?_replicate, if_pos hi]; split <;> rfl))
  refine (l1Below' w B p a len cap (most + 1) (by omega) (by omega) _ stA).mono ?_
  rintro e w1 ⟨⟨x, rfl, x0, x1⟩, st1, s1⟩
  have H1 : Hid (HasB w1 w.heap.size w.heap.size 0 n (List.replicate n false)) := hasb_step HA s1 (by omega)
  clear HA stA s1
  obtain ⟨K, rfl⟩ : ∃ K : Nat, x = K := ⟨x.toNat, by omega⟩
  go_wp2_with fail
  go_loopw [8] (fun q wr => ∃ (j : Nat) (bs : List Bool), q = .int .i64 (j : Int) ∧ Hid ((bad (KL bs) n : Int) + j ≤ most) ∧ Hid (HasB wr w.heap.size w.heap.size 0 n bs) ∧ j ≤ 1000 ∧ St w B p a len cap wr) (fun q _ => (intOf q).toNat)
  case atStart => exact ⟨K, _, rfl, (by unfold Hid; rw [bad_none]; omega), H1, by omega, st1⟩
  case round =>
    obtain ⟨j, bs, rfl, HC, HB, hj, sr⟩ := hrel
    have hsz := sr.step.size
    by_cases hlt : 0 < j
    · have hi : (0 : Int) < j := by omega
      go_wp2_with fail
      refine (l1Below' w B p a len cap n (by omega) (by omega) _ sr).mono ?_
      rintro e w2 ⟨⟨y, rfl, y0, y1⟩, st2, s2⟩
      obtain ⟨Y, rfl⟩ : ∃ Y : Nat, y = Y := ⟨y.toNat, by omega⟩
      have HB2 := hasb_step HB.out s2 (by omega)
      have hc := HB2.2.2.2.1 Y (by omega)
      have hf := HB2.2.2.2.2 Y (by omega)
      rw [Nat.zero_add] at hc hf
      have HB3 : Hid (HasB (w2.setCell ⟨w.heap.size, Y, none⟩ (.bool true)) w.heap.size w.heap.size 0 n (bs.set Y true)) := by
        have q := hasb_set HB2 (y := Y) (by omega) true
        rw [Nat.zero_add] at q
        exact q
      have HC3 : Hid ((bad (KL (bs.set Y true)) n : Int) + (j - 1 : Nat) ≤ most) := by
        have q := (bad_set bs Y n true).1
        have q2 := HC.out
        unfold Hid
        omega
      have st3 := st2.setNew (q := w.heap.size) Y (Nat.le_refl _) (by omega) (by omega) (.bool true)
      clear HB2 HB HC s2
      go_wp2_with fail
      go_roundw
      case rel => exact ⟨j - 1, _, by rw [Int.ofNat_sub hlt]; go_num, HC3, HB3, by omega, st3⟩
      case measure => simp [intOf]; omega
    · have hi : ¬ (0 : Int) < j := by omega
      go_wp2
      go_ret
      exact ⟨⟨_, rfl, bs, HB.out, by have := HC.out; omega⟩, ⟨sr.cur, hst.trans sr.step⟩, sr.step⟩

end Go.Proofs.Ytloicicgcdfgnaa.Dr
