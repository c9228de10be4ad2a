/-
  spec.GuessesOf by its answer.
-/
import Derived.Test.YtcgcmceobmpdiaaGreatG1
import Derived.Maps.AppendAt
import Derived.Deep.RegionLaw
namespace Go.Proofs.YtcgcmceobmpdiaaGreat.Tu
open Go.ChangeShapes Go.WideShapes Go.ChangeAt Go.RowKit
open Ls (el Row)
open Ow (Has Own ints)
open Rd (Flags)
open Bo (eb HasB)
open Rm (Room)
open Sp (span LK)
open Wl (wld c9 WO bad allIn)
open Ss (RowsAt ln rw_ tot)
set_option linter.unusedVariables false
set_option linter.unusedSimpArgs false

set_option maxHeartbeats 16000000 in
set_option maxRecDepth 100000 in
theorem sg_no (l d r p s t : Int) (b off k cK bo oo cO bd od cD be oe cE bl ol cL bf of cF br or cR bx ox cx bz oz cz i : Nat) (ks os ds : List Int) (es ls : List (List Int)) (fs rs : List Bool) (w : World)
    (rK : Hid (Row w w.heap.size (some ⟨b, off, none⟩) k ks)) (rO : Hid (Row w w.heap.size (some ⟨bo, oo, none⟩) k os)) (rD : Hid (Row w w.heap.size (some ⟨bd, od, none⟩) k ds)) (rE : Hid (RowsAt w w.heap.size (some ⟨be, oe, none⟩) k es)) (rL : Hid (RowsAt w w.heap.size (some ⟨bl, ol, none⟩) k ls)) (rF : Hid (Flags w w.heap.size (some ⟨bf, of, none⟩) k fs)) (rR : Hid (Flags w w.heap.size (some ⟨br, or, none⟩) k rs))
    (hcK : Hid (b < w.heap.size ∧ ∀ j, j < k → w.cell? ⟨b, off + j, none⟩ = some (.int .i64 (el ks j)))) (hcO : Hid (bo < w.heap.size ∧ ∀ j, j < k → w.cell? ⟨bo, oo + j, none⟩ = some (.int .i64 (el os j)))) (hcD : Hid (bd < w.heap.size ∧ ∀ j, j < k → w.cell? ⟨bd, od + j, none⟩ = some (.int .i64 (el ds j)))) (hcR : Hid (br < w.heap.size ∧ w.cell? ⟨br, or + i, none⟩ = some (.bool (eb rs i))))
    (hE0 : Hid (be < w.heap.size ∧ w.cell? ⟨be, oe + i, none⟩ = some (.slice (some ⟨bx, ox, none⟩) k cx))) (hE1 : Hid (bx < w.heap.size ∧ ∀ j, j < k → w.cell? ⟨bx, ox + j, none⟩ = some (.int .i64 (el (rw_ es i) j)))) (hL0 : Hid (bl < w.heap.size ∧ w.cell? ⟨bl, ol + i, none⟩ = some (.slice (some ⟨bz, oz, none⟩) k cz))) (hL1 : Hid (bz < w.heap.size ∧ ∀ j, j < k → w.cell? ⟨bz, oz + j, none⟩ = some (.int .i64 (el (rw_ ls i) j))))
    (hk : k ≤ 1048576) (hik : i < k) (hT : Hid (TO (k : Int) l d r p s ks k os k t ds es ls fs rs k k = true)) (hO : Hid (∀ j, j < k → -1000000000000000 ≤ el os j ∧ el os j ≤ 1000000000000000)) (hD : Hid (∀ j, j < k → -1000000 ≤ el ds j ∧ el ds j ≤ 1000000)) (hE : Hid (∀ j, j < k → -1000000 ≤ el (rw_ es i) j ∧ el (rw_ es i) j ≤ 1000000)) (hq : Hid (¬ el (FK ks fs) i = 0 ∧ eb rs i = false)) :
    Calls Tryz.prog 59 #[.agg #[.int .i64 (k : Int), .int .i64 l, .int .i64 d, .int .i64 r, .int .i64 p, .int .i64 s, .slice (some ⟨b, off, none⟩) k cK, .slice (some ⟨bo, oo, none⟩) k cO, .int .i64 t], .agg #[.slice (some ⟨bd, od, none⟩) k cD, .slice (some ⟨be, oe, none⟩) k cE, .slice (some ⟨bl, ol, none⟩) k cL, .slice (some ⟨bf, of, none⟩) k cF, .slice (some ⟨br, or, none⟩) k cR], .int .i64 (i : Int)] w fun e w' => (∃ g c, e = .returned (.slice (some ⟨g, 0, none⟩) 0 c) ∧ Own w' w.heap.size g 0 c []) ∧ Below w.heap.size w w' := by
  have R0 := ((Room.new w [.int .i64 (k : Int), .int .i64 l, .int .i64 d, .int .i64 r, .int .i64 p, .int .i64 s, .slice (some ⟨b, off, none⟩) k cK, .slice (some ⟨bo, oo, none⟩) k cO, .int .i64 t] 32).alloc (.cells #[.slice (some ⟨bd, od, none⟩) k cD, .slice (some ⟨be, oe, none⟩) k cE, .slice (some ⟨bl, ol, none⟩) k cL, .slice (some ⟨bf, of, none⟩) k cF, .slice (some ⟨br, or, none⟩) k cR] 53)).alloc (.cells #[] 2)
  have RT : Room ((w.alloc (.cells #[.int .i64 (k : Int), .int .i64 l, .int .i64 d, .int .i64 r, .int .i64 p, .int .i64 s, .slice (some ⟨b, off, none⟩) k cK, .slice (some ⟨bo, oo, none⟩) k cO, .int .i64 t] 32)).alloc (.cells #[.slice (some ⟨bd, od, none⟩) k cD, .slice (some ⟨be, oe, none⟩) k cE, .slice (some ⟨bl, ol, none⟩) k cL, .slice (some ⟨bf, of, none⟩) k cF, .slice (some ⟨br, or, none⟩) k cR] 53)) (w.heap.size + 1) [.slice (some ⟨bd, od, none⟩) k cD, .slice (some ⟨be, oe, none⟩) k cE, .slice (some ⟨bl, ol, none⟩) k cL, .slice (some ⟨bf, of, none⟩) k cF, .slice (some ⟨br, or, none⟩) k cR] := Room.at _ [.slice (some ⟨bd, od, none⟩) k cD, .slice (some ⟨be, oe, none⟩) k cE, .slice (some ⟨bl, ol, none⟩) k cL, .slice (some ⟨bf, of, none⟩) k cF, .slice (some ⟨br, or, none⟩) k cR] 53 _ (by simp)
  replace RT := RT.alloc (.cells #[] 2)
  have BB := (((Below.refl w.heap.size w).alloc (Nat.le_refl _) (.cells #[.int .i64 (k : Int), .int .i64 l, .int .i64 d, .int .i64 r, .int .i64 p, .int .i64 s, .slice (some ⟨b, off, none⟩) k cK, .slice (some ⟨bo, oo, none⟩) k cO, .int .i64 t] 32)).alloc (by simp) (.cells #[.slice (some ⟨bd, od, none⟩) k cD, .slice (some ⟨be, oe, none⟩) k cE, .slice (some ⟨bl, ol, none⟩) k cL, .slice (some ⟨bf, of, none⟩) k cF, .slice (some ⟨br, or, none⟩) k cR] 53)).alloc (by simp; omega) (.cells #[] 2)
  have O1 : Hid (Own (((w.alloc (.cells #[.int .i64 (k : Int), .int .i64 l, .int .i64 d, .int .i64 r, .int .i64 p, .int .i64 s, .slice (some ⟨b, off, none⟩) k cK, .slice (some ⟨bo, oo, none⟩) k cO, .int .i64 t] 32)).alloc (.cells #[.slice (some ⟨bd, od, none⟩) k cD, .slice (some ⟨be, oe, none⟩) k cE, .slice (some ⟨bl, ol, none⟩) k cL, .slice (some ⟨bf, of, none⟩) k cF, .slice (some ⟨br, or, none⟩) k cR] 53)).alloc (.cells #[] 2)) (w.heap.size + 2) (w.heap.size + 2) 0 0 []) := Ow.own_made _ _ _ (by simp) (by simp)
  have hw0 : IntKind.i64.wrap ((k : Int) - 1) = (k : Int) - 1 := by rw [IntKind.wrap_i64]; omega
  have hlk : LK 0 ((k : Int) - 1) (i : Int) = false := by unfold LK; simp; omega
  go_enter Tryz.func59, Tryz.ntmps59
  go_wp2_with fail
  refine (s_TurnOk (k : Int) l d r p s t b off k cK _ k cO _ _ _ _ _ k cD k cE k cL k cF k cR ks os ds es ls fs rs _ rK.out.1 (fun j hj => by rw [BB.cell (p := ⟨b, off + j, none⟩) hcK.out.1]; exact hcK.out.2 j hj) (Nat.lt_of_lt_of_le hcK.out.1 BB.size) ((rO.out.later BB (Nat.le_refl _)).more BB.size) ((rD.out.later BB (Nat.le_refl _)).more BB.size) ((rE.out.later BB (Nat.le_refl _)).more BB.size) ((rL.out.later BB (Nat.le_refl _)).more BB.size) ((rF.out.later BB (Nat.le_refl _)).more BB.size) ((rR.out.later BB (Nat.le_refl _)).more BB.size) hk hk hk hk).mono ?_
  rintro e w2 ⟨rfl, b2⟩
  rw [hT.out]
  have z_b2 := b2.size
  (try simp at z_b2)
  replace R0 := R0.below b2
  replace RT := RT.below b2
  replace O1 : Hid (Own w2 (w.heap.size + 2) (w.heap.size + 2) 0 0 []) := O1.out.later b2 (by simp)
  replace BB := BB.trans (b2.mono BB.size)
  have c6 := R0.cell 6 rfl
  go_wp2_with fail
  refine (Sp.s_l1In 0 ((k : Int) - 1) (i : Int) _).mono ?_
  rintro e w2 ⟨rfl, rfl⟩
  rw [hlk]
  have c0 := R0.cell 0 rfl
  have c1 := R0.cell 1 rfl
  have c2 := R0.cell 2 rfl
  have c3 := R0.cell 3 rfl
  have c4 := R0.cell 4 rfl
  have c5 := R0.cell 5 rfl
  have c7 := R0.cell 7 rfl
  have c8 := R0.cell 8 rfl
  have y0 := RT.cell 0 rfl
  have y1 := RT.cell 1 rfl
  have y2 := RT.cell 2 rfl
  have y3 := RT.cell 3 rfl
  have y4 := RT.cell 4 rfl
  go_wp2_with fail
  refine (l6Fallen (k : Int) l d r p s t b off k cK _ _ _ _ _ _ cF ks fs _ rK.out.1 (fun j hj => by rw [BB.cell (p := ⟨b, off + j, none⟩) hcK.out.1]; exact hcK.out.2 j hj) (Nat.lt_of_lt_of_le hcK.out.1 BB.size) ((rF.out.later BB (Nat.le_refl _)).more BB.size) hk).mono ?_
  rintro e w3 ⟨⟨gF, cF2, rfl, oF0⟩, b3⟩
  clear c0 c1 c2 c3 c4 c5 c6 c7 c8 y0 y1 y2 y3 y4
  have z_b3 := b3.size
  (try simp at z_b3)
  replace R0 := R0.below b3
  replace RT := RT.below b3
  replace O1 : Hid (Own w3 (w.heap.size + 2) (w.heap.size + 2) 0 0 []) := O1.out.later b3 (by have := O1.out.lt; omega)
  replace BB := BB.trans (b3.mono BB.size)
  have oF : Hid (Own w3 (w.heap.size + 3) gF k cF2 (FK ks fs)) := oF0.mono (by omega)
  clear oF0 b3 b2
  have c0 := R0.cell 0 rfl
  have c1 := R0.cell 1 rfl
  have c2 := R0.cell 2 rfl
  have c3 := R0.cell 3 rfl
  have c4 := R0.cell 4 rfl
  have c5 := R0.cell 5 rfl
  have c6 := R0.cell 6 rfl
  have c7 := R0.cell 7 rfl
  have c8 := R0.cell 8 rfl
  have y0 := RT.cell 0 rfl
  have y1 := RT.cell 1 rfl
  have y2 := RT.cell 2 rfl
  have y3 := RT.cell 3 rfl
  have y4 := RT.cell 4 rfl
  go_wp2_with fail
  refine (l6Offs (k : Int) l d r p s t _ bo oo k cO bd od cD _ _ _ _ os ds _ (fun j hj => by rw [BB.cell (p := ⟨bo, oo + j, none⟩) hcO.out.1]; exact hcO.out.2 j hj) (Nat.lt_of_lt_of_le hcO.out.1 BB.size) (fun j hj => by rw [BB.cell (p := ⟨bd, od + j, none⟩) hcD.out.1]; exact hcD.out.2 j hj) (Nat.lt_of_lt_of_le hcD.out.1 BB.size) hk hO hD).mono ?_
  rintro e w4 ⟨⟨gP, cP, rfl, oP0⟩, b4⟩
  clear c0 c1 c2 c3 c4 c5 c6 c7 c8 y0 y1 y2 y3 y4
  have lF := oF.out.lt
  have gF3 := oF.out.data.2.1
  have z_b4 := b4.size
  (try simp at z_b4)
  replace R0 := R0.below b4
  replace RT := RT.below b4
  replace O1 : Hid (Own w4 (w.heap.size + 2) (w.heap.size + 2) 0 0 []) := O1.out.later b4 (by have := O1.out.lt; omega)
  replace oF : Hid (Own w4 (w.heap.size + 3) gF k cF2 (FK ks fs)) := oF.out.later b4 (by omega)
  replace BB := BB.trans (b4.mono BB.size)
  have oP : Hid (Own w4 (w.heap.size + 3) gP k cP (OP os ds k)) := oP0.mono (by omega)
  have gPF : gF < gP := by have := oP0.data.2.1; omega
  clear oP0 b4
  have lP := oP.out.lt
  have gP3 := oP.out.data.2.1
  have hcR2 : w4.cell? ⟨br, or + i, none⟩ = some (.bool (eb rs i)) := by rw [BB.cell (p := ⟨br, or + i, none⟩) hcR.out.1]; exact hcR.out.2
  have hcF2 := (oF.out.cell i hik).1
  have y4 := RT.cell 4 rfl
  have hii : (i : Int) < (k : Int) := by omega
  have h5 : (el (FK ks fs) i != 0) = true := by simp [hq.out.1]
  rw [hq.out.2] at hcR2
  go_wp2
  go_ret
  exact ⟨⟨_, _, rfl, O1.out.mono (by omega)⟩, BB⟩

end Go.Proofs.YtcgcmceobmpdiaaGreat.Tu
