/-
  Who lies, drawn (spec.l5DrawLies), once more: a slice of its own, which can be appended to.
-/
import Derived.Test.YtloicicgcdfgnaaDA5
namespace Go.Proofs.Ytloicicgcdfgnaa.Dr
open Go.ChangeShapes Go.WideShapes Go.ChangeAt Go.RowKit
open Bo (eb HasB)
open Wl (KL bad)
set_option linter.unusedVariables false
set_option linter.unusedSimpArgs false

def bools (bs : List Bool) : List Value := bs.map Value.bool
theorem bools_len (bs : List Bool) : (bools bs).length = bs.length := by simp [bools]
/-- The slice at block g, which is no older than B, holds bs. -/
abbrev OwnB (w : World) (B g n cap : Nat) (bs : List Bool) : Prop := w.ownsRow B 4 1 (.slice (some ⟨g, 0, none⟩) n cap) n (bools bs)
theorem OwnB.data {w : World} {B g n cap : Nat} {zs : List Bool} (h : OwnB w B g n cap zs) :
    zs.length = n ∧ B ≤ g ∧ n ≤ cap ∧ cap ≤ maxLen ∧ ∃ cur, w.heap[g]? = some (.cells cur 4 (0, 0)) ∧ cur.size = cap ∧ cur.toList.take n = bools zs := by
  obtain ⟨h1, h2⟩ := h
  rw [bools_len, Nat.mul_one] at h1
  rcases h2 with ⟨h2, _⟩ | ⟨g', cap', cur, e, hB, hb, h3, h4, h5, h6⟩
  · cases h2
  · cases e
    exact ⟨h1, hB, h3, h4, cur, hb, by omega, by rw [Nat.mul_one] at h6; exact h6⟩
theorem OwnB.lt {w : World} {B g n cap : Nat} {zs : List Bool} (h : OwnB w B g n cap zs) : g < w.heap.size := by
  obtain ⟨_, _, _, _, cur, hb, _⟩ := h.data
  exact (Array.getElem?_eq_some_iff.1 hb).1
theorem OwnB.cell {w : World} {B g n cap : Nat} {zs : List Bool} (h : OwnB w B g n cap zs) (k : Nat) (hk : k < n) :
    w.cell? ⟨g, k, none⟩ = some (.bool (eb zs k)) ∧ w.frozen? ⟨g, k, none⟩ = false := by
  obtain ⟨h1, _, _, _, cur, hb, h3, h4⟩ := h.data
  have hk' : k < zs.length := by omega
  refine ⟨?_, by simp [World.frozen?, hb]⟩
  have h5 : (cur.toList.take n)[k]? = (bools zs)[k]? := by rw [h4]
  rw [List.getElem?_take_of_lt hk] at h5
  simp only [World.cell?, hb]
  simp only [Option.isSome_none, Bool.false_eq_true, if_false]
  rw [← Array.getElem?_toList, h5]
  simp [bools, eb, List.getD, hk']
theorem OwnB.has {w : World} {B g n cap : Nat} {zs : List Bool} (h : OwnB w B g n cap zs) : HasB w B g 0 n zs :=
  ⟨h.data.1, h.data.2.1, h.lt, fun k hk => by rw [Nat.zero_add]; exact (h.cell k hk).1, fun k hk => by rw [Nat.zero_add]; exact (h.cell k hk).2⟩
theorem ownb_step {w w' : World} {p B g n c : Nat} {zs : List Bool} (h : OwnB w B g n c zs) (s : Step p w w') (hne : g ≠ p) : OwnB w' B g n c zs := by
  obtain ⟨h1, h2⟩ := h
  refine ⟨h1, ?_⟩
  rcases h2 with h2 | ⟨g', cap', cur, e, hB, hb', rest⟩
  · exact .inl h2
  · cases e
    exact .inr ⟨g, c, cur, rfl, hB, by rw [s.block g (Array.getElem?_eq_some_iff.1 hb').1 hne]; exact hb', rest⟩
theorem ownb_put {w : World} {B g n c j : Nat} {zs : List Bool} (h : OwnB w B g n c zs) (hj : j < n) (x : Bool) : OwnB (w.setCell ⟨g, j, none⟩ (.bool x)) B g n c (zs.set j x) := by
  obtain ⟨h1, hB, h2, h2', cur, hb, h3, h4⟩ := h.data
  refine ⟨by simp [bools]; omega, .inr ⟨g, c, cur.setIfInBounds j (.bool x), rfl, hB, ?_, h2, h2', by simp; omega, ?_⟩⟩
  · simp [World.setCell, Array.getElem?_modify, hb]
  · rw [Nat.mul_one, Array.toList_setIfInBounds, List.take_set, h4, bools, bools, List.map_set]
theorem ownb_of {w : World} {B n : Nat} {v : Value} {xs : List Value} {zs : List Bool} (h : w.ownsRow B 4 1 v n xs) (hx : xs = bools zs) (hv : v ≠ .slice none 0 0) : ∃ g cap, v = .slice (some ⟨g, 0, none⟩) n cap ∧ OwnB w B g n cap zs := by
  subst hx
  rcases h.2 with ⟨h2, _⟩ | ⟨g', cap', cur, e, rest⟩
  · exact absurd h2 hv
  · exact ⟨g', cap', e, by rw [e] at h; exact h⟩

set_option maxHeartbeats 2000000 in
theorem l5DrawLiesO (w0 : World) (B p : Nat) (a : Option Addr) (len cap : Nat) (n : Nat) (most : Int) (hn : 0 < n) (hn2 : n ≤ 1000) (h0 : 0 ≤ most) (h1 : most ≤ 1000) (w : World) (st : St w0 B p a len cap w) :
    Calls Try.prog 75 #[.pointer (some ⟨p, 0, none⟩), .int .i64 n, .int .i64 most] w fun e w' => (∃ g, e = .returned (.slice (some ⟨g, 0, none⟩) n n) ∧ ∃ bs, OwnB w' w.heap.size g n n bs) ∧ St w0 B p a len cap w' ∧ Step p w w' := by
  have hmk := run_make_row' (P := Try.prog) 35 4 (.bool false) 1 Try.underlying35 Bo.info rfl .i64 .i64 n (by omega) (by omega)
  have hp := st.lt
  have hB := st.le
  have hst := st.step
  go_enter Try.func75, Try.ntmps75
  go_wp2_with fail
  have stA := st.here.obj (.cells (madeCells #[.bool false] n) 4)
  have HA : OwnB (w.alloc (.cells (madeCells #[.bool false] n) 4)) w.heap.size w.heap.size n n (List.replicate n false) := by
    refine ⟨by simp [bools], .inr ⟨_, n, madeCells #[.bool false] n, rfl, Nat.le_refl _, heap_alloc_new w _, Nat.le_refl _, by unfold maxLen; omega, by simp [madeCells], ?_⟩⟩
    simp [madeCells, bools]
    rw [List.take_of_length_le (by simp)]
    apply List.ext_getElem (by simp)
    intro i h1 h2
    simp [Nat.mod_one]
  refine (l1Below' w B p a len cap (most + 1) (by omega) (by omega) _ stA).mono ?_
  rintro e w1 ⟨⟨x, rfl, x0, x1⟩, st1, s1⟩
  have H1 : Hid (OwnB w1 w.heap.size w.heap.size n n (List.replicate n false)) := ownb_step HA s1 (by omega)
  clear HA stA s1
  obtain ⟨K, rfl⟩ : ∃ K : Nat, x = K := ⟨x.toNat, by omega⟩
  go_wp2_with fail
  go_loopw [8] (fun q wr => ∃ (j : Nat), q = .int .i64 (j : Int) ∧ (∃ bs, Hid (OwnB wr w.heap.size w.heap.size n n bs)) ∧ j ≤ 1000 ∧ St w B p a len cap wr) (fun q _ => (intOf q).toNat)
  case atStart => exact ⟨K, rfl, ⟨_, H1⟩, by omega, st1⟩
  case round =>
    obtain ⟨j, rfl, ⟨bs, HB⟩, hj, sr⟩ := hrel
    have hsz := sr.step.size
    by_cases hlt : 0 < j
    · have hi : (0 : Int) < j := by omega
      go_wp2_with fail
      refine (l1Below' w B p a len cap n (by omega) (by omega) _ sr).mono ?_
      rintro e w2 ⟨⟨y, rfl, y0, y1⟩, st2, s2⟩
      obtain ⟨Y, rfl⟩ : ∃ Y : Nat, y = Y := ⟨y.toNat, by omega⟩
      have HB2 := ownb_step HB.out s2 (by omega)
      have hc := (HB2.cell Y (by omega)).1
      have hf := (HB2.cell Y (by omega)).2
      have HB3 : Hid (OwnB (w2.setCell ⟨w.heap.size, Y, none⟩ (.bool true)) w.heap.size w.heap.size n n (bs.set Y true)) := ownb_put HB2 (j := Y) (by omega) true
      have st3 := st2.setNew (q := w.heap.size) Y (Nat.le_refl _) (by omega) (by omega) (.bool true)
      clear HB2 HB s2
      go_wp2_with fail
      go_roundw
      case rel => exact ⟨j - 1, by rw [Int.ofNat_sub hlt]; go_num, ⟨_, HB3⟩, by omega, st3⟩
      case measure => simp [intOf]; omega
    · have hi : ¬ (0 : Int) < j := by omega
      go_wp2
      go_ret
      exact ⟨⟨_, rfl, bs, HB.out⟩, ⟨sr.cur, hst.trans sr.step⟩, sr.step⟩

end Go.Proofs.Ytloicicgcdfgnaa.Dr
