/-
  spec.l6Fallen: the kinds behind the falls, in new memory.
-/
import Derived.Test.YtcgcmceobmpdiaaGreatSp6
import Derived.Test.YtcgcmceobmpdiaaGreatNew
import Derived.Test.YtcgcmceobmpdiaaGreatTu
namespace Go.Proofs.YtcgcmceobmpdiaaGreat.Tu
open Go.ChangeShapes Go.WideShapes Go.ChangeAt Go.RowKit
open Ls (el Row)
open Ow (Has Own ints)
open Rd (Flags)
open Bo (eb HasB)
open Rm (Room)
open Wl (wld c9)
set_option linter.unusedVariables false
set_option linter.unusedSimpArgs false

theorem own_put {w : World} {B g n c j : Nat} {zs : List Int} (h : Own w B g n c zs) (hj : j < n) (x : Int) : Own (w.setCell ⟨g, j, none⟩ (.int .i64 x)) B g n c (zs.set j x) := by
  obtain ⟨h1, hB, h2, h2', cur, hb, h3, h4⟩ := h.data
  refine ⟨by simp [ints]; omega, .inr ⟨g, c, cur.setIfInBounds j (.int .i64 x), rfl, hB, ?_, h2, h2', by simp; omega, ?_⟩⟩
  · simp [World.setCell, Array.getElem?_modify, hb]
  · rw [Nat.mul_one, Array.toList_setIfInBounds, List.take_set, h4, ints, ints, List.map_set]

/-- The kinds when the first j that fall have fallen. -/
def FKj (ks : List Int) (fs : List Bool) : Nat → List Int
  | 0 => ks
  | j + 1 => if eb fs j then (FKj ks fs j).set j 1 else FKj ks fs j
/-- The kinds behind the falls. -/
def FK (ks : List Int) (fs : List Bool) : List Int := FKj ks fs ks.length
theorem fk_len (ks : List Int) (fs : List Bool) (j : Nat) : (FKj ks fs j).length = ks.length := by
  induction j with
  | zero => rfl
  | succ j ih => unfold FKj; split <;> simp [ih]
theorem fk_el (ks : List Int) (fs : List Bool) (j i : Nat) (hi : i < ks.length) : el (FKj ks fs j) i = if i < j ∧ eb fs i = true then 1 else el ks i := by
  induction j with
  | zero => rw [if_neg (by omega)]; rfl
  | succ j ih =>
    unfold FKj
    by_cases e : i = j
    · subst e
      cases h : eb fs i with
      | true =>
        rw [if_pos rfl, if_pos ⟨by omega, rfl⟩]
        simp [el, List.getD, fk_len, hi]
      | false =>
        rw [if_neg (by simp), ih, if_neg (by omega), if_neg (by simp)]
    · have q : (if eb fs j = true then (FKj ks fs j).set j 1 else FKj ks fs j).getD i 0 = (FKj ks fs j).getD i 0 := by
        split
        · simp [List.getD, List.getElem?_set, Ne.symm e]
        · rfl
      unfold el at ih ⊢
      rw [q, ih]
      by_cases h2 : i < j
      · by_cases h3 : eb fs i = true
        · rw [if_pos ⟨h2, h3⟩, if_pos ⟨by omega, h3⟩]
        · rw [if_neg (fun h => h3 h.2), if_neg (fun h => h3 h.2)]
      · rw [if_neg (by omega), if_neg (by omega)]

set_option maxHeartbeats 4000000 in
theorem l6Fallen (n l d r p s t : Int) (b off k cK : Nat) (O D E L R : Value) (aF : Option Addr) (cF : Nat) (ks : List Int) (fs : List Bool) (w : World) (hz : ks.length = k) (hc : ∀ j, j < k → w.cell? ⟨b, off + j, none⟩ = some (.int .i64 (el ks j))) (hb : b < w.heap.size) (rF : Flags w w.heap.size aF k fs) (hk : k ≤ 1048576) :
    Calls Tryz.prog 41 #[wld n l d r p s (.slice (some ⟨b, off, none⟩) k cK) O t, trn D E L (.slice aF k cF) R] w fun e w' => (∃ g c, e = .returned (.slice (some ⟨g, 0, none⟩) k c) ∧ Own w' w.heap.size g k c (FK ks fs)) ∧ Below w.heap.size w w' := by
  have R0 := (Room.new w (c9 n l d r p s (.slice (some ⟨b, off, none⟩) k cK) O t) 32).alloc (.cells #[D, E, L, .slice aF k cF, R] 53)
  have R1 : Room ((w.alloc (.cells (c9 n l d r p s (.slice (some ⟨b, off, none⟩) k cK) O t).toArray 32)).alloc (.cells #[D, E, L, .slice aF k cF, R] 53)) (w.heap.size + 1) [D, E, L, .slice aF k cF, R] := Room.at _ [D, E, L, .slice aF k cF, R] 53 _ (by simp)
  have BB := ((Below.refl w.heap.size w).alloc (Nat.le_refl _) (.cells (c9 n l d r p s (.slice (some ⟨b, off, none⟩) k cK) O t).toArray 32)).alloc (by simp) (.cells #[D, E, L, .slice aF k cF, R] 53)
  have key := Wl.l1Copy b off k cK ks _ hz (fun j hj => by rw [BB.cell (p := ⟨b, off + j, none⟩) hb]; exact hc j hj) hk (Nat.lt_of_lt_of_le hb BB.size)
  clear hc
  obtain ⟨hzf, hrow⟩ := rF
  go_enter Tryz.func41, Tryz.ntmps41
  go_wp2_with fail
  refine key.mono ?_
  rintro e w2 ⟨⟨g, c, rfl, ho⟩, b2⟩
  have z2 := b2.size
  simp at z2
  have lo := ho.data.2.1
  simp at lo
  replace R1 := R1.below b2
  replace BB := BB.trans (b2.mono BB.size)
  have HO : Hid (Own w2 w.heap.size g k c ks) := ho.mono (by simp; omega)
  clear ho key R0 b2
  go_wp2_with fail
  go_loopw [6] (fun i wr => ∃ j : Nat, j ≤ k ∧ i = .int .i64 (j : Int) ∧ Hid (Own wr w.heap.size g k c (FKj ks fs j) ∧ Room wr (w.heap.size + 1) [D, E, L, .slice aF k cF, R] ∧ Below w.heap.size w wr)) (fun i _ => k - (intOf i).toNat)
  case atStart => exact ⟨0, Nat.zero_le _, rfl, HO.out, R1, BB⟩
  case round =>
    obtain ⟨j, hj, rfl, H⟩ := hrel
    obtain ⟨ho, RX, hB⟩ := H.out
    clear H
    by_cases hlt : j < k
    · have hi : (j : Int) < k := by omega
      rcases hrow with hrow | ⟨bf, of, rfl, hBf, hcf⟩
      · omega
      have c3 := RX.cell 3 rfl
      have hc1 : w.cell? ⟨bf, of + j, none⟩ = some (.bool (eb fs j)) := hcf j hlt
      rw [← hB.cell (p := ⟨bf, of + j, none⟩) hBf] at hc1
      have hcj := (ho.cell j hlt).1
      have hfj := (ho.cell j hlt).2
      cases hx : eb fs j with
      | true =>
        rw [hx] at hc1
        have HN : Hid (Own (wr.setCell ⟨g, j, none⟩ (.int .i64 1)) w.heap.size g k c (FKj ks fs (j + 1)) ∧ Room (wr.setCell ⟨g, j, none⟩ (.int .i64 1)) (w.heap.size + 1) [D, E, L, .slice (some ⟨bf, of, none⟩) k cF, R] ∧ Below w.heap.size w (wr.setCell ⟨g, j, none⟩ (.int .i64 1))) := by
          refine ⟨?_, RX.setOther (by omega) j _, hB.setCell (p := ⟨g, j, none⟩) (by simp; omega) _⟩
          have q := own_put ho hlt 1
          unfold FKj
          rw [if_pos hx]
          exact q
        clear ho RX hB
        go_wp2_with fail
        go_roundw
        case rel => exact ⟨j + 1, by omega, by go_num, HN⟩
        case measure => simp [intOf]; omega
      | false =>
        rw [hx] at hc1
        have HN : Hid (Own wr w.heap.size g k c (FKj ks fs (j + 1)) ∧ Room wr (w.heap.size + 1) [D, E, L, .slice (some ⟨bf, of, none⟩) k cF, R] ∧ Below w.heap.size w wr) := by
          refine ⟨?_, RX, hB⟩
          unfold FKj
          rw [if_neg (by rw [hx]; simp)]
          exact ho
        clear ho RX hB
        go_wp2_with fail
        go_roundw
        case rel => exact ⟨j + 1, by omega, by go_num, HN⟩
        case measure => simp [intOf]; omega
    · have hi : ¬ (j : Int) < k := by omega
      have e : j = k := by omega
      subst e
      have HF : Hid (Own wr w.heap.size g j c (FK ks fs)) := by unfold Hid FK; rw [hz]; exact ho
      go_wp2
      go_ret
      exact ⟨⟨g, c, rfl, HF.out⟩, hB⟩

end Go.Proofs.YtcgcmceobmpdiaaGreat.Tu
