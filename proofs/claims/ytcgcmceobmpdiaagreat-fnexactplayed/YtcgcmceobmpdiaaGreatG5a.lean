/-
  impl.GuessesOf by its answer.
-/
import Derived.Test.YtcgcmceobmpdiaaGreatG34
import Derived.Test.YtcgcmceobmpdiaaGreatTOkI
import Derived.Maps.AppendAt
import Derived.Deep.RegionLaw
namespace Go.Proofs.YtcgcmceobmpdiaaGreat.Tu
open Go.ChangeShapes Go.WideShapes Go.ChangeAt Go.RowKit Go.Shelf
open Ls (el Row)
open Ow (Has Own ints)
open Rd (Flags)
open Bo (eb HasB)
open Rm (Room)
open Sp (span LK)
open Wl (wld c9 WO bad allIn)
open Ss (RowsAt ln rw_ tot)
attribute [local go_sem] Oper.semAt_some
set_option linter.unusedVariables false
set_option linter.unusedSimpArgs false

set_option maxHeartbeats 16000000 in
set_option maxRecDepth 100000 in
theorem ig_no (l d r p s t : Int) (b off k cK bo oo cO bd od cD be oe cE bl ol cL bf of cF br or cR bx ox cx bz oz cz i : Nat) (ks os ds : List Int) (es ls : List (List Int)) (fs rs : List Bool) (w : World)
    (rK : Hid (Row w w.heap.size (some ⟨b, off, none⟩) k ks)) (rO : Hid (Row w w.heap.size (some ⟨bo, oo, none⟩) k os)) (rD : Hid (Row w w.heap.size (some ⟨bd, od, none⟩) k ds)) (rE : Hid (RowsAt w w.heap.size (some ⟨be, oe, none⟩) k es)) (rL : Hid (RowsAt w w.heap.size (some ⟨bl, ol, none⟩) k ls)) (rF : Hid (Flags w w.heap.size (some ⟨bf, of, none⟩) k fs)) (rR : Hid (Flags w w.heap.size (some ⟨br, or, none⟩) k rs))
    (hcK : Hid (b < w.heap.size ∧ ∀ j, j < k → w.cell? ⟨b, off + j, none⟩ = some (.int .i64 (el ks j)))) (hcO : Hid (bo < w.heap.size ∧ ∀ j, j < k → w.cell? ⟨bo, oo + j, none⟩ = some (.int .i64 (el os j)))) (hcD : Hid (bd < w.heap.size ∧ ∀ j, j < k → w.cell? ⟨bd, od + j, none⟩ = some (.int .i64 (el ds j)))) (hcR : Hid (br < w.heap.size ∧ w.cell? ⟨br, or + i, none⟩ = some (.bool (eb rs i))))
    (hE0 : Hid (be < w.heap.size ∧ w.cell? ⟨be, oe + i, none⟩ = some (.slice (some ⟨bx, ox, none⟩) k cx))) (hE1 : Hid (bx < w.heap.size ∧ ∀ j, j < k → w.cell? ⟨bx, ox + j, none⟩ = some (.int .i64 (el (rw_ es i) j)))) (hL0 : Hid (bl < w.heap.size ∧ w.cell? ⟨bl, ol + i, none⟩ = some (.slice (some ⟨bz, oz, none⟩) k cz))) (hL1 : Hid (bz < w.heap.size ∧ ∀ j, j < k → w.cell? ⟨bz, oz + j, none⟩ = some (.int .i64 (el (rw_ ls i) j))))
    (hk : k ≤ 1048576) (hik : i < k) (hT : Hid (TO (k : Int) l d r p s ks k os k t ds es ls fs rs k k = true)) (hO : Hid (∀ j, j < k → -1000000000000000 ≤ el os j ∧ el os j ≤ 1000000000000000)) (hD : Hid (∀ j, j < k → -1000000 ≤ el ds j ∧ el ds j ≤ 1000000)) (hE : Hid (∀ j, j < k → -1000000 ≤ el (rw_ es i) j ∧ el (rw_ es i) j ≤ 1000000)) (htE : tot es k ≤ 1048576) (htL : tot ls k ≤ 1048576) (hq : Hid (¬ el (FK ks fs) i = 0 ∧ eb rs i = false)) :
    Calls Tryz.prog 68 #[.agg #[.int .i64 (k : Int), .int .i64 l, .int .i64 d, .int .i64 r, .int .i64 p, .int .i64 s, .slice (some ⟨b, off, none⟩) k cK, .slice (some ⟨bo, oo, none⟩) k cO, .int .i64 t], .agg #[.slice (some ⟨bd, od, none⟩) k cD, .slice (some ⟨be, oe, none⟩) k cE, .slice (some ⟨bl, ol, none⟩) k cL, .slice (some ⟨bf, of, none⟩) k cF, .slice (some ⟨br, or, none⟩) k cR], .int .i64 (i : Int)] w fun e w' => (∃ g c, e = .returned (.slice (some ⟨g, 0, none⟩) 0 c) ∧ Ow.Own w' w.heap.size g 0 c []) ∧ Below w.heap.size w w' := by
  have R0 : Room ((((w.alloc (.cells #[.int .i64 (k : Int), .int .i64 l, .int .i64 d, .int .i64 r, .int .i64 p, .int .i64 s, .slice (some ⟨b, off, none⟩) k cK, .slice (some ⟨bo, oo, none⟩) k cO, .int .i64 t] 32)).alloc (.cells #[.slice (some ⟨bd, od, none⟩) k cD, .slice (some ⟨be, oe, none⟩) k cE, .slice (some ⟨bl, ol, none⟩) k cL, .slice (some ⟨bf, of, none⟩) k cF, .slice (some ⟨br, or, none⟩) k cR] 53)).alloc (.cells #[] 2)).alloc (.cells #[.slice (some ⟨w.heap.size + 1 + 1, 0, none⟩) 0 0] 24)) w.heap.size [.int .i64 (k : Int), .int .i64 l, .int .i64 d, .int .i64 r, .int .i64 p, .int .i64 s, .slice (some ⟨b, off, none⟩) k cK, .slice (some ⟨bo, oo, none⟩) k cO, .int .i64 t] := (((Room.new w [.int .i64 (k : Int), .int .i64 l, .int .i64 d, .int .i64 r, .int .i64 p, .int .i64 s, .slice (some ⟨b, off, none⟩) k cK, .slice (some ⟨bo, oo, none⟩) k cO, .int .i64 t] 32).alloc _).alloc _).alloc _
  have RT : Room ((((w.alloc (.cells #[.int .i64 (k : Int), .int .i64 l, .int .i64 d, .int .i64 r, .int .i64 p, .int .i64 s, .slice (some ⟨b, off, none⟩) k cK, .slice (some ⟨bo, oo, none⟩) k cO, .int .i64 t] 32)).alloc (.cells #[.slice (some ⟨bd, od, none⟩) k cD, .slice (some ⟨be, oe, none⟩) k cE, .slice (some ⟨bl, ol, none⟩) k cL, .slice (some ⟨bf, of, none⟩) k cF, .slice (some ⟨br, or, none⟩) k cR] 53)).alloc (.cells #[] 2)).alloc (.cells #[.slice (some ⟨w.heap.size + 1 + 1, 0, none⟩) 0 0] 24)) (w.heap.size + 1) [.slice (some ⟨bd, od, none⟩) k cD, .slice (some ⟨be, oe, none⟩) k cE, .slice (some ⟨bl, ol, none⟩) k cL, .slice (some ⟨bf, of, none⟩) k cF, .slice (some ⟨br, or, none⟩) k cR] := ((Room.at (w.alloc (.cells #[.int .i64 (k : Int), .int .i64 l, .int .i64 d, .int .i64 r, .int .i64 p, .int .i64 s, .slice (some ⟨b, off, none⟩) k cK, .slice (some ⟨bo, oo, none⟩) k cO, .int .i64 t] 32)) [.slice (some ⟨bd, od, none⟩) k cD, .slice (some ⟨be, oe, none⟩) k cE, .slice (some ⟨bl, ol, none⟩) k cL, .slice (some ⟨bf, of, none⟩) k cF, .slice (some ⟨br, or, none⟩) k cR] 53 _ (by simp)).alloc _).alloc _
  have BX : Boxed ((((w.alloc (.cells #[.int .i64 (k : Int), .int .i64 l, .int .i64 d, .int .i64 r, .int .i64 p, .int .i64 s, .slice (some ⟨b, off, none⟩) k cK, .slice (some ⟨bo, oo, none⟩) k cO, .int .i64 t] 32)).alloc (.cells #[.slice (some ⟨bd, od, none⟩) k cD, .slice (some ⟨be, oe, none⟩) k cE, .slice (some ⟨bl, ol, none⟩) k cL, .slice (some ⟨bf, of, none⟩) k cF, .slice (some ⟨br, or, none⟩) k cR] 53)).alloc (.cells #[] 2)).alloc (.cells #[.slice (some ⟨w.heap.size + 1 + 1, 0, none⟩) 0 0] 24)) (w.heap.size + 1 + 1 + 1) 24 (.slice (some ⟨w.heap.size + 1 + 1, 0, none⟩) 0 0) := by have h := Boxed.new (((w.alloc (.cells #[.int .i64 (k : Int), .int .i64 l, .int .i64 d, .int .i64 r, .int .i64 p, .int .i64 s, .slice (some ⟨b, off, none⟩) k cK, .slice (some ⟨bo, oo, none⟩) k cO, .int .i64 t] 32)).alloc (.cells #[.slice (some ⟨bd, od, none⟩) k cD, .slice (some ⟨be, oe, none⟩) k cE, .slice (some ⟨bl, ol, none⟩) k cL, .slice (some ⟨bf, of, none⟩) k cF, .slice (some ⟨br, or, none⟩) k cR] 53)).alloc (.cells #[] 2)) 24 (.slice (some ⟨w.heap.size + 1 + 1, 0, none⟩) 0 0); simp only [World.size_alloc] at h; exact h
  have O1 : Hid (Ow.Own ((((w.alloc (.cells #[.int .i64 (k : Int), .int .i64 l, .int .i64 d, .int .i64 r, .int .i64 p, .int .i64 s, .slice (some ⟨b, off, none⟩) k cK, .slice (some ⟨bo, oo, none⟩) k cO, .int .i64 t] 32)).alloc (.cells #[.slice (some ⟨bd, od, none⟩) k cD, .slice (some ⟨be, oe, none⟩) k cE, .slice (some ⟨bl, ol, none⟩) k cL, .slice (some ⟨bf, of, none⟩) k cF, .slice (some ⟨br, or, none⟩) k cR] 53)).alloc (.cells #[] 2)).alloc (.cells #[.slice (some ⟨w.heap.size + 1 + 1, 0, none⟩) 0 0] 24)) (w.heap.size + 2) (w.heap.size + 1 + 1) 0 0 []) := World.ownsRow.alloc (Ow.own_made ((w.alloc (.cells #[.int .i64 (k : Int), .int .i64 l, .int .i64 d, .int .i64 r, .int .i64 p, .int .i64 s, .slice (some ⟨b, off, none⟩) k cK, .slice (some ⟨bo, oo, none⟩) k cO, .int .i64 t] 32)).alloc (.cells #[.slice (some ⟨bd, od, none⟩) k cD, .slice (some ⟨be, oe, none⟩) k cE, .slice (some ⟨bl, ol, none⟩) k cL, .slice (some ⟨bf, of, none⟩) k cF, .slice (some ⟨br, or, none⟩) k cR] 53)) _ _ (by simp) (by simp)) _
  have BB := ((((Below.refl w.heap.size w).alloc (Nat.le_refl _) (.cells #[.int .i64 (k : Int), .int .i64 l, .int .i64 d, .int .i64 r, .int .i64 p, .int .i64 s, .slice (some ⟨b, off, none⟩) k cK, .slice (some ⟨bo, oo, none⟩) k cO, .int .i64 t] 32)).alloc (by simp) (.cells #[.slice (some ⟨bd, od, none⟩) k cD, .slice (some ⟨be, oe, none⟩) k cE, .slice (some ⟨bl, ol, none⟩) k cL, .slice (some ⟨bf, of, none⟩) k cF, .slice (some ⟨br, or, none⟩) k cR] 53)).alloc (by simp; omega) (.cells #[] 2)).alloc (by simp; omega) (.cells #[.slice (some ⟨w.heap.size + 1 + 1, 0, none⟩) 0 0] 24)
  have hw0 : IntKind.i64.wrap ((k : Int) - 1) = (k : Int) - 1 := by rw [IntKind.wrap_i64]; omega
  have hin : Sp.IN 0 ((k : Int) - 1) (i : Int) = true := by unfold Sp.IN Sp.OK Sp.LK; simp; omega
  have hii : (i : Int) < (k : Int) := by omega
  go_enter Tryz.func68, Tryz.ntmps68
  go_wp2_with fail
  refine (i_TurnOk (k : Int) l d r p s t b off k cK _ k cO _ _ _ _ _ k cD k cE k cL k cF k cR ks os ds es ls fs rs _ rK.out.1 (fun j hj => by rw [BB.cell (p := ⟨b, off + j, none⟩) hcK.out.1]; exact hcK.out.2 j hj) (Nat.lt_of_lt_of_le hcK.out.1 BB.size) ((rO.out.later BB (Nat.le_refl _)).more BB.size) ((rD.out.later BB (Nat.le_refl _)).more BB.size) ((rE.out.later BB (Nat.le_refl _)).more BB.size) ((rL.out.later BB (Nat.le_refl _)).more BB.size) ((rF.out.later BB (Nat.le_refl _)).more BB.size) ((rR.out.later BB (Nat.le_refl _)).more BB.size) hk hk hk hk hk htE htL hk hk).mono ?_
  rintro e w2 ⟨rfl, b2⟩
  rw [hT.out]
  have z_b2 := b2.size
  (try simp at z_b2)
  replace R0 := R0.below b2
  replace RT := RT.below b2
  replace BX : Boxed w2 (w.heap.size + 1 + 1 + 1) 24 (.slice (some ⟨w.heap.size + 1 + 1, 0, none⟩) 0 0) := (b2.block _ BX.lt).trans BX
  replace O1 : Hid (Ow.Own w2 (w.heap.size + 2) (w.heap.size + 1 + 1) 0 0 []) := O1.out.later b2 (by simp)
  replace BB := BB.trans (b2.mono BB.size)
  have c0 := R0.cell 0 rfl
  go_wp2_with fail
  refine (Sp.i_InSpan 0 ((k : Int) - 1) (i : Int) _).mono ?_
  rintro e w3 ⟨rfl, b3⟩
  rw [hin]
  clear c0
  have z_b3 := b3.size
  (try simp at z_b3)
  replace R0 := R0.below b3
  replace RT := RT.below b3
  replace BX : Boxed w3 (w.heap.size + 1 + 1 + 1) 24 (.slice (some ⟨w.heap.size + 1 + 1, 0, none⟩) 0 0) := (b3.block _ BX.lt).trans BX
  replace O1 : Hid (Ow.Own w3 (w.heap.size + 2) (w.heap.size + 1 + 1) 0 0 []) := O1.out.later b3 (by have := O1.out.lt; omega)
  replace BB := BB.trans (b3.mono BB.size)
  have c0 := R0.cell 0 rfl
  have c1 := R0.cell 1 rfl
  have c2 := R0.cell 2 rfl
  have c3 := R0.cell 3 rfl
  have c4 := R0.cell 4 rfl
  have c5 := R0.cell 5 rfl
  have c6 := R0.cell 6 rfl
  have c7 := R0.cell 7 rfl
  have c8 := R0.cell 8 rfl
  have y0 := RT.cell 0 rfl
  have y1 := RT.cell 1 rfl
  have y2 := RT.cell 2 rfl
  have y3 := RT.cell 3 rfl
  have y4 := RT.cell 4 rfl
  go_wp2_with fail
  refine (middleWorld (k : Int) l d r p s t b off k cK bo oo cO _ _ cD cF _ _ _ ks os ds fs _ rK.out.1 (fun j hj => by rw [BB.cell (p := ⟨b, off + j, none⟩) hcK.out.1]; exact hcK.out.2 j hj) (Nat.lt_of_lt_of_le hcK.out.1 BB.size) rO.out.1 (fun j hj => by rw [BB.cell (p := ⟨bo, oo + j, none⟩) hcO.out.1]; exact hcO.out.2 j hj) (Nat.lt_of_lt_of_le hcO.out.1 BB.size) ((rD.out.later BB (Nat.le_refl _)).more BB.size) ((rF.out.later BB (Nat.le_refl _)).more BB.size) hk hO.out hD.out).mono ?_
  rintro e w4 ⟨⟨gK, cK2, gO, cO2, rfl, oK0, oO0, gKO⟩, b4⟩
  clear c0 c1 c2 c3 c4 c5 c6 c7 c8 y0 y1 y2 y3 y4
  have lB := BX.lt
  have z_b4 := b4.size
  (try simp at z_b4)
  replace R0 := R0.below b4
  replace RT := RT.below b4
  replace BX : Boxed w4 (w.heap.size + 1 + 1 + 1) 24 (.slice (some ⟨w.heap.size + 1 + 1, 0, none⟩) 0 0) := (b4.block _ BX.lt).trans BX
  replace O1 : Hid (Ow.Own w4 (w.heap.size + 2) (w.heap.size + 1 + 1) 0 0 []) := O1.out.later b4 (by have := O1.out.lt; omega)
  replace BB := BB.trans (b4.mono BB.size)
  have gK0 := oK0.data.2.1
  have oK : Hid (Ow.Own w4 (w.heap.size + 3) gK k cK2 (FK ks fs)) := oK0.mono (by omega)
  have oO : Hid (Ow.Own w4 (w.heap.size + 3) gO k cO2 (MO os ds)) := oO0.mono (by omega)
  clear oK0 oO0 b2 b3 b4
  have lK := oK.out.lt
  have lO := oO.out.lt
  have hcK2 := (oK.out.cell i hik).1
  have hcR2 : w4.cell? ⟨br, or + i, none⟩ = some (.bool (eb rs i)) := by rw [BB.cell (p := ⟨br, or + i, none⟩) hcR.out.1]; exact hcR.out.2
  have lR := Nat.lt_of_lt_of_le hcR.out.1 BB.size
  have y4 := RT.cell 4 rfl
  have lT := RT.lt (by simp)
  have h5 : (el (FK ks fs) i != 0) = true := by simp [hq.out.1]
  rw [hq.out.2] at hcR2
  have bX := BX.cell
  have lX := BX.lt
  go_wp2
  go_ret
  exact ⟨⟨_, _, rfl, World.ownsRow.alloc (O1.out.mono (by omega)) _⟩, BB.alloc BB.size _⟩

end Go.Proofs.YtcgcmceobmpdiaaGreat.Tu
