/-
  impl.GuessesOf by its answer.
-/
import Derived.Test.YtcgcmceobmpdiaaGreatG34
import Derived.Test.YtcgcmceobmpdiaaGreatTOkI
import Derived.Maps.AppendAt
import Derived.Deep.RegionLaw
namespace Go.Proofs.YtcgcmceobmpdiaaGreat.Tu
open Go.ChangeShapes Go.WideShapes Go.ChangeAt Go.RowKit Go.Shelf
open Ls (el Row)
open Ow (Has Own ints)
open Rd (Flags)
open Bo (eb HasB)
open Rm (Room)
open Sp (span LK)
open Wl (wld c9 WO bad allIn)
open Ss (RowsAt ln rw_ tot)
attribute [local go_sem] Oper.semAt_some
set_option linter.unusedVariables false
set_option linter.unusedSimpArgs false

set_option maxHeartbeats 16000000 in
set_option maxRecDepth 100000 in
theorem ig_ri (l d r p s t : Int) (b off k cK bo oo cO bd od cD be oe cE bl ol cL bf of cF br or cR bx ox cx bz oz cz i : Nat) (ks os ds : List Int) (es ls : List (List Int)) (fs rs : List Bool) (w : World)
    (rK : Hid (Row w w.heap.size (some ⟨b, off, none⟩) k ks)) (rO : Hid (Row w w.heap.size (some ⟨bo, oo, none⟩) k os)) (rD : Hid (Row w w.heap.size (some ⟨bd, od, none⟩) k ds)) (rE : Hid (RowsAt w w.heap.size (some ⟨be, oe, none⟩) k es)) (rL : Hid (RowsAt w w.heap.size (some ⟨bl, ol, none⟩) k ls)) (rF : Hid (Flags w w.heap.size (some ⟨bf, of, none⟩) k fs)) (rR : Hid (Flags w w.heap.size (some ⟨br, or, none⟩) k rs))
    (hcK : Hid (b < w.heap.size ∧ ∀ j, j < k → w.cell? ⟨b, off + j, none⟩ = some (.int .i64 (el ks j)))) (hcO : Hid (bo < w.heap.size ∧ ∀ j, j < k → w.cell? ⟨bo, oo + j, none⟩ = some (.int .i64 (el os j)))) (hcD : Hid (bd < w.heap.size ∧ ∀ j, j < k → w.cell? ⟨bd, od + j, none⟩ = some (.int .i64 (el ds j)))) (hcR : Hid (br < w.heap.size ∧ w.cell? ⟨br, or + i, none⟩ = some (.bool (eb rs i))))
    (hE0 : Hid (be < w.heap.size ∧ w.cell? ⟨be, oe + i, none⟩ = some (.slice (some ⟨bx, ox, none⟩) k cx))) (hE1 : Hid (bx < w.heap.size ∧ ∀ j, j < k → w.cell? ⟨bx, ox + j, none⟩ = some (.int .i64 (el (rw_ es i) j)))) (hL0 : Hid (bl < w.heap.size ∧ w.cell? ⟨bl, ol + i, none⟩ = some (.slice (some ⟨bz, oz, none⟩) k cz))) (hL1 : Hid (bz < w.heap.size ∧ ∀ j, j < k → w.cell? ⟨bz, oz + j, none⟩ = some (.int .i64 (el (rw_ ls i) j))))
    (hk : k ≤ 1048576) (hik : i < k) (hT : Hid (TO (k : Int) l d r p s ks k os k t ds es ls fs rs k k = true)) (hO : Hid (∀ j, j < k → -1000000000000000 ≤ el os j ∧ el os j ≤ 1000000000000000)) (hD : Hid (∀ j, j < k → -1000000 ≤ el ds j ∧ el ds j ≤ 1000000)) (hE : Hid (∀ j, j < k → -1000000 ≤ el (rw_ es i) j ∧ el (rw_ es i) j ≤ 1000000)) (htE : tot es k ≤ 1048576) (htL : tot ls k ≤ 1048576) (hq : Hid (¬ el (FK ks fs) i = 0 ∧ eb rs i = true)) :
    Calls Tryz.prog 68 #[.agg #[.int .i64 (k : Int), .int .i64 l, .int .i64 d, .int .i64 r, .int .i64 p, .int .i64 s, .slice (some ⟨b, off, none⟩) k cK, .slice (some ⟨bo, oo, none⟩) k cO, .int .i64 t], .agg #[.slice (some ⟨bd, od, none⟩) k cD, .slice (some ⟨be, oe, none⟩) k cE, .slice (some ⟨bl, ol, none⟩) k cL, .slice (some ⟨bf, of, none⟩) k cF, .slice (some ⟨br, or, none⟩) k cR], .int .i64 (i : Int)] w fun e w' => (∃ g c, e = .returned (.slice (some ⟨g, 0, none⟩) k c) ∧ Ow.Own w' w.heap.size g k c (GL (FK ks fs) os ds es ls i k)) ∧ Below w.heap.size w w' := by
  have R0 : Room ((((w.alloc (.cells #[.int .i64 (k : Int), .int .i64 l, .int .i64 d, .int .i64 r, .int .i64 p, .int .i64 s, .slice (some ⟨b, off, none⟩) k cK, .slice (some ⟨bo, oo, none⟩) k cO, .int .i64 t] 32)).alloc (.cells #[.slice (some ⟨bd, od, none⟩) k cD, .slice (some ⟨be, oe, none⟩) k cE, .slice (some ⟨bl, ol, none⟩) k cL, .slice (some ⟨bf, of, none⟩) k cF, .slice (some ⟨br, or, none⟩) k cR] 53)).alloc (.cells #[] 2)).alloc (.cells #[.slice (some ⟨w.heap.size + 1 + 1, 0, none⟩) 0 0] 24)) w.heap.size [.int .i64 (k : Int), .int .i64 l, .int .i64 d, .int .i64 r, .int .i64 p, .int .i64 s, .slice (some ⟨b, off, none⟩) k cK, .slice (some ⟨bo, oo, none⟩) k cO, .int .i64 t] := (((Room.new w [.int .i64 (k : Int), .int .i64 l, .int .i64 d, .int .i64 r, .int .i64 p, .int .i64 s, .slice (some ⟨b, off, none⟩) k cK, .slice (some ⟨bo, oo, none⟩) k cO, .int .i64 t] 32).alloc _).alloc _).alloc _
  have RT : Room ((((w.alloc (.cells #[.int .i64 (k : Int), .int .i64 l, .int .i64 d, .int .i64 r, .int .i64 p, .int .i64 s, .slice (some ⟨b, off, none⟩) k cK, .slice (some ⟨bo, oo, none⟩) k cO, .int .i64 t] 32)).alloc (.cells #[.slice (some ⟨bd, od, none⟩) k cD, .slice (some ⟨be, oe, none⟩) k cE, .slice (some ⟨bl, ol, none⟩) k cL, .slice (some ⟨bf, of, none⟩) k cF, .slice (some ⟨br, or, none⟩) k cR] 53)).alloc (.cells #[] 2)).alloc (.cells #[.slice (some ⟨w.heap.size + 1 + 1, 0, none⟩) 0 0] 24)) (w.heap.size + 1) [.slice (some ⟨bd, od, none⟩) k cD, .slice (some ⟨be, oe, none⟩) k cE, .slice (some ⟨bl, ol, none⟩) k cL, .slice (some ⟨bf, of, none⟩) k cF, .slice (some ⟨br, or, none⟩) k cR] := ((Room.at (w.alloc (.cells #[.int .i64 (k : Int), .int .i64 l, .int .i64 d, .int .i64 r, .int .i64 p, .int .i64 s, .slice (some ⟨b, off, none⟩) k cK, .slice (some ⟨bo, oo, none⟩) k cO, .int .i64 t] 32)) [.slice (some ⟨bd, od, none⟩) k cD, .slice (some ⟨be, oe, none⟩) k cE, .slice (some ⟨bl, ol, none⟩) k cL, .slice (some ⟨bf, of, none⟩) k cF, .slice (some ⟨br, or, none⟩) k cR] 53 _ (by simp)).alloc _).alloc _
  have BX : Boxed ((((w.alloc (.cells #[.int .i64 (k : Int), .int .i64 l, .int .i64 d, .int .i64 r, .int .i64 p, .int .i64 s, .slice (some ⟨b, off, none⟩) k cK, .slice (some ⟨bo, oo, none⟩) k cO, .int .i64 t] 32)).alloc (.cells #[.slice (some ⟨bd, od, none⟩) k cD, .slice (some ⟨be, oe, none⟩) k cE, .slice (some ⟨bl, ol, none⟩) k cL, .slice (some ⟨bf, of, none⟩) k cF, .slice (some ⟨br, or, none⟩) k cR] 53)).alloc (.cells #[] 2)).alloc (.cells #[.slice (some ⟨w.heap.size + 1 + 1, 0, none⟩) 0 0] 24)) (w.heap.size + 1 + 1 + 1) 24 (.slice (some ⟨w.heap.size + 1 + 1, 0, none⟩) 0 0) := by have h := Boxed.new (((w.alloc (.cells #[.int .i64 (k : Int), .int .i64 l, .int .i64 d, .int .i64 r, .int .i64 p, .int .i64 s, .slice (some ⟨b, off, none⟩) k cK, .slice (some ⟨bo, oo, none⟩) k cO, .int .i64 t] 32)).alloc (.cells #[.slice (some ⟨bd, od, none⟩) k cD, .slice (some ⟨be, oe, none⟩) k cE, .slice (some ⟨bl, ol, none⟩) k cL, .slice (some ⟨bf, of, none⟩) k cF, .slice (some ⟨br, or, none⟩) k cR] 53)).alloc (.cells #[] 2)) 24 (.slice (some ⟨w.heap.size + 1 + 1, 0, none⟩) 0 0); simp only [World.size_alloc] at h; exact h
  have O1 : Hid (Ow.Own ((((w.alloc (.cells #[.int .i64 (k : Int), .int .i64 l, .int .i64 d, .int .i64 r, .int .i64 p, .int .i64 s, .slice (some ⟨b, off, none⟩) k cK, .slice (some ⟨bo, oo, none⟩) k cO, .int .i64 t] 32)).alloc (.cells #[.slice (some ⟨bd, od, none⟩) k cD, .slice (some ⟨be, oe, none⟩) k cE, .slice (some ⟨bl, ol, none⟩) k cL, .slice (some ⟨bf, of, none⟩) k cF, .slice (some ⟨br, or, none⟩) k cR] 53)).alloc (.cells #[] 2)).alloc (.cells #[.slice (some ⟨w.heap.size + 1 + 1, 0, none⟩) 0 0] 24)) (w.heap.size + 2) (w.heap.size + 1 + 1) 0 0 []) := World.ownsRow.alloc (Ow.own_made ((w.alloc (.cells #[.int .i64 (k : Int), .int .i64 l, .int .i64 d, .int .i64 r, .int .i64 p, .int .i64 s, .slice (some ⟨b, off, none⟩) k cK, .slice (some ⟨bo, oo, none⟩) k cO, .int .i64 t] 32)).alloc (.cells #[.slice (some ⟨bd, od, none⟩) k cD, .slice (some ⟨be, oe, none⟩) k cE, .slice (some ⟨bl, ol, none⟩) k cL, .slice (some ⟨bf, of, none⟩) k cF, .slice (some ⟨br, or, none⟩) k cR] 53)) _ _ (by simp) (by simp)) _
  have BB := ((((Below.refl w.heap.size w).alloc (Nat.le_refl _) (.cells #[.int .i64 (k : Int), .int .i64 l, .int .i64 d, .int .i64 r, .int .i64 p, .int .i64 s, .slice (some ⟨b, off, none⟩) k cK, .slice (some ⟨bo, oo, none⟩) k cO, .int .i64 t] 32)).alloc (by simp) (.cells #[.slice (some ⟨bd, od, none⟩) k cD, .slice (some ⟨be, oe, none⟩) k cE, .slice (some ⟨bl, ol, none⟩) k cL, .slice (some ⟨bf, of, none⟩) k cF, .slice (some ⟨br, or, none⟩) k cR] 53)).alloc (by simp; omega) (.cells #[] 2)).alloc (by simp; omega) (.cells #[.slice (some ⟨w.heap.size + 1 + 1, 0, none⟩) 0 0] 24)
  have hw0 : IntKind.i64.wrap ((k : Int) - 1) = (k : Int) - 1 := by rw [IntKind.wrap_i64]; omega
  have hin : Sp.IN 0 ((k : Int) - 1) (i : Int) = true := by unfold Sp.IN Sp.OK Sp.LK; simp; omega
  have hii : (i : Int) < (k : Int) := by omega
  refine (callsIn_wide (n := 6)).1 ?_
  refine callsIn_of_wp_marks Tryz.func68 rfl trivial ?_ rfl
  simp only [Tryz.ntmps68, List.size_toArray, List.length_cons, List.length_nil, Nat.reduceAdd, Nat.reduceSub, Array.replicate_succ, Array.replicate_zero, List.push_toArray, List.append_toArray, List.nil_append, List.cons_append]
  gi_wp2_with fail
  refine ⟨trivial, (callsIn_wide.2 (i_TurnOk (k : Int) l d r p s t b off k cK _ k cO _ _ _ _ _ k cD k cE k cL k cF k cR ks os ds es ls fs rs _ rK.out.1 (fun j hj => by rw [BB.cell (p := ⟨b, off + j, none⟩) hcK.out.1]; exact hcK.out.2 j hj) (Nat.lt_of_lt_of_le hcK.out.1 BB.size) ((rO.out.later BB (Nat.le_refl _)).more BB.size) ((rD.out.later BB (Nat.le_refl _)).more BB.size) ((rE.out.later BB (Nat.le_refl _)).more BB.size) ((rL.out.later BB (Nat.le_refl _)).more BB.size) ((rF.out.later BB (Nat.le_refl _)).more BB.size) ((rR.out.later BB (Nat.le_refl _)).more BB.size) hk hk hk hk hk htE htL hk hk)).mono ?_⟩
  rintro e w2 ⟨rfl, b2⟩
  rw [hT.out]
  have z_b2 := b2.size
  (try simp at z_b2)
  replace R0 := R0.below b2
  replace RT := RT.below b2
  replace BX : Boxed w2 (w.heap.size + 1 + 1 + 1) 24 (.slice (some ⟨w.heap.size + 1 + 1, 0, none⟩) 0 0) := (b2.block _ BX.lt).trans BX
  replace O1 : Hid (Ow.Own w2 (w.heap.size + 2) (w.heap.size + 1 + 1) 0 0 []) := O1.out.later b2 (by simp)
  replace BB := BB.trans (b2.mono BB.size)
  have c0 := R0.cell 0 rfl
  gi_wp2_with fail
  refine ⟨trivial, (callsIn_wide.2 (Sp.i_InSpan 0 ((k : Int) - 1) (i : Int) _)).mono ?_⟩
  rintro e w3 ⟨rfl, b3⟩
  rw [hin]
  clear c0
  have z_b3 := b3.size
  (try simp at z_b3)
  replace R0 := R0.below b3
  replace RT := RT.below b3
  replace BX : Boxed w3 (w.heap.size + 1 + 1 + 1) 24 (.slice (some ⟨w.heap.size + 1 + 1, 0, none⟩) 0 0) := (b3.block _ BX.lt).trans BX
  replace O1 : Hid (Ow.Own w3 (w.heap.size + 2) (w.heap.size + 1 + 1) 0 0 []) := O1.out.later b3 (by have := O1.out.lt; omega)
  replace BB := BB.trans (b3.mono BB.size)
  have c0 := R0.cell 0 rfl
  have c1 := R0.cell 1 rfl
  have c2 := R0.cell 2 rfl
  have c3 := R0.cell 3 rfl
  have c4 := R0.cell 4 rfl
  have c5 := R0.cell 5 rfl
  have c6 := R0.cell 6 rfl
  have c7 := R0.cell 7 rfl
  have c8 := R0.cell 8 rfl
  have y0 := RT.cell 0 rfl
  have y1 := RT.cell 1 rfl
  have y2 := RT.cell 2 rfl
  have y3 := RT.cell 3 rfl
  have y4 := RT.cell 4 rfl
  gi_wp2_with fail
  refine ⟨trivial, (callsIn_wide.2 (middleWorld (k : Int) l d r p s t b off k cK bo oo cO _ _ cD cF _ _ _ ks os ds fs _ rK.out.1 (fun j hj => by rw [BB.cell (p := ⟨b, off + j, none⟩) hcK.out.1]; exact hcK.out.2 j hj) (Nat.lt_of_lt_of_le hcK.out.1 BB.size) rO.out.1 (fun j hj => by rw [BB.cell (p := ⟨bo, oo + j, none⟩) hcO.out.1]; exact hcO.out.2 j hj) (Nat.lt_of_lt_of_le hcO.out.1 BB.size) ((rD.out.later BB (Nat.le_refl _)).more BB.size) ((rF.out.later BB (Nat.le_refl _)).more BB.size) hk hO.out hD.out)).mono ?_⟩
  rintro e w4 ⟨⟨gK, cK2, gO, cO2, rfl, oK0, oO0, gKO⟩, b4⟩
  clear c0 c1 c2 c3 c4 c5 c6 c7 c8 y0 y1 y2 y3 y4
  have lB := BX.lt
  have z_b4 := b4.size
  (try simp at z_b4)
  replace R0 := R0.below b4
  replace RT := RT.below b4
  replace BX : Boxed w4 (w.heap.size + 1 + 1 + 1) 24 (.slice (some ⟨w.heap.size + 1 + 1, 0, none⟩) 0 0) := (b4.block _ BX.lt).trans BX
  replace O1 : Hid (Ow.Own w4 (w.heap.size + 2) (w.heap.size + 1 + 1) 0 0 []) := O1.out.later b4 (by have := O1.out.lt; omega)
  replace BB := BB.trans (b4.mono BB.size)
  have gK0 := oK0.data.2.1
  have oK : Hid (Ow.Own w4 (w.heap.size + 3) gK k cK2 (FK ks fs)) := oK0.mono (by omega)
  have oO : Hid (Ow.Own w4 (w.heap.size + 3) gO k cO2 (MO os ds)) := oO0.mono (by omega)
  clear oK0 oO0 b2 b3 b4
  have lK := oK.out.lt
  have lO := oO.out.lt
  have hcK2 := (oK.out.cell i hik).1
  have hcR2 : w4.cell? ⟨br, or + i, none⟩ = some (.bool (eb rs i)) := by rw [BB.cell (p := ⟨br, or + i, none⟩) hcR.out.1]; exact hcR.out.2
  have lR := Nat.lt_of_lt_of_le hcR.out.1 BB.size
  have y4 := RT.cell 4 rfl
  have lT := RT.lt (by simp)
  have h5 : (el (FK ks fs) i != 0) = true := by simp [hq.out.1]
  rw [hq.out.2] at hcR2
  have bw : Below w4.heap.size w4 (w4.alloc (.cells #[.int .i64 (k : Int), .int .i64 l, .int .i64 d, .int .i64 r, .int .i64 p, .int .i64 s, .slice (some ⟨gK, 0, none⟩) k cK2, .slice (some ⟨gO, 0, none⟩) k cO2, .int .i64 t] 32)) := (Below.refl _ w4).alloc (Nat.le_refl _) _
  have RM : Room (w4.alloc (.cells #[.int .i64 (k : Int), .int .i64 l, .int .i64 d, .int .i64 r, .int .i64 p, .int .i64 s, .slice (some ⟨gK, 0, none⟩) k cK2, .slice (some ⟨gO, 0, none⟩) k cO2, .int .i64 t] 32)) w4.heap.size [.int .i64 (k : Int), .int .i64 l, .int .i64 d, .int .i64 r, .int .i64 p, .int .i64 s, .slice (some ⟨gK, 0, none⟩) k cK2, .slice (some ⟨gO, 0, none⟩) k cO2, .int .i64 t] := Room.new w4 [.int .i64 (k : Int), .int .i64 l, .int .i64 d, .int .i64 r, .int .i64 p, .int .i64 s, .slice (some ⟨gK, 0, none⟩) k cK2, .slice (some ⟨gO, 0, none⟩) k cO2, .int .i64 t] 32
  have m0 := RM.cell 0 rfl
  have m1 := RM.cell 1 rfl
  have m2 := RM.cell 2 rfl
  have m3 := RM.cell 3 rfl
  have m4 := RM.cell 4 rfl
  have m5 := RM.cell 5 rfl
  have m6 := RM.cell 6 rfl
  have m7 := RM.cell 7 rfl
  have m8 := RM.cell 8 rfl
  have RT4 := RT.below bw
  clear y4
  have y0 := RT.cell 0 rfl
  have y1 := RT.cell 1 rfl
  have y2 := RT.cell 2 rfl
  have y3 := RT.cell 3 rfl
  have y4 := RT.cell 4 rfl
  gi_wp2_with fail
  refine ⟨trivial, (callsIn_wide.2 (guessesIn _ _ _ _ _ _ _ _ _ _ _ _ _ _ _ _)).mono ?_⟩
  rintro e w5 ⟨rfl, e5⟩
  clear hcK2 hcR2
  have E5 : Hid (w5 = _) := e5
  clear e5
  gi_wp2_with fail
  have e5 := E5.out
  clear E5
  clear m0 m1 m2 m3 m4 m5 m6 m7 m8 y0 y1 y2 y3 y4
  have b5 : Below w4.heap.size w4 w5 := by rw [e5]; exact ((bw.alloc (by simp) (.cells #[.int .i64 (k : Int), .int .i64 l, .int .i64 d, .int .i64 r, .int .i64 p, .int .i64 s, .slice (some ⟨gK, 0, none⟩) k cK2, .slice (some ⟨gO, 0, none⟩) k cO2, .int .i64 t] 32)).alloc (by simp; omega) (.cells #[.slice (some ⟨bd, od, none⟩) k cD, .slice (some ⟨be, oe, none⟩) k cE, .slice (some ⟨bl, ol, none⟩) k cL, .slice (some ⟨bf, of, none⟩) k cF, .slice (some ⟨br, or, none⟩) k cR] 53)).alloc (by simp; omega) (.cells #[.int .i64 (i : Int)] 2)
  have s5 : w5.heap.size = w4.heap.size + 4 := by rw [e5]; simp
  have r0 : Room w5 (w4.heap.size + 1) [.int .i64 (k : Int), .int .i64 l, .int .i64 d, .int .i64 r, .int .i64 p, .int .i64 s, .slice (some ⟨gK, 0, none⟩) k cK2, .slice (some ⟨gO, 0, none⟩) k cO2, .int .i64 t] := by rw [e5]; exact ((Room.at (w4.alloc (.cells #[.int .i64 (k : Int), .int .i64 l, .int .i64 d, .int .i64 r, .int .i64 p, .int .i64 s, .slice (some ⟨gK, 0, none⟩) k cK2, .slice (some ⟨gO, 0, none⟩) k cO2, .int .i64 t] 32)) [.int .i64 (k : Int), .int .i64 l, .int .i64 d, .int .i64 r, .int .i64 p, .int .i64 s, .slice (some ⟨gK, 0, none⟩) k cK2, .slice (some ⟨gO, 0, none⟩) k cO2, .int .i64 t] 32 _ (by simp)).alloc _).alloc _
  have r1 : Room w5 (w4.heap.size + 1 + 1) [.slice (some ⟨bd, od, none⟩) k cD, .slice (some ⟨be, oe, none⟩) k cE, .slice (some ⟨bl, ol, none⟩) k cL, .slice (some ⟨bf, of, none⟩) k cF, .slice (some ⟨br, or, none⟩) k cR] := by rw [e5]; exact (Room.at ((w4.alloc (.cells #[.int .i64 (k : Int), .int .i64 l, .int .i64 d, .int .i64 r, .int .i64 p, .int .i64 s, .slice (some ⟨gK, 0, none⟩) k cK2, .slice (some ⟨gO, 0, none⟩) k cO2, .int .i64 t] 32)).alloc (.cells #[.int .i64 (k : Int), .int .i64 l, .int .i64 d, .int .i64 r, .int .i64 p, .int .i64 s, .slice (some ⟨gK, 0, none⟩) k cK2, .slice (some ⟨gO, 0, none⟩) k cO2, .int .i64 t] 32)) [.slice (some ⟨bd, od, none⟩) k cD, .slice (some ⟨be, oe, none⟩) k cE, .slice (some ⟨bl, ol, none⟩) k cL, .slice (some ⟨bf, of, none⟩) k cF, .slice (some ⟨br, or, none⟩) k cR] 53 _ (by simp)).alloc _
  have r2 : w5.cell? ⟨w4.heap.size + 1 + 1 + 1, 0, none⟩ = some (.int .i64 (i : Int)) := by rw [e5]; exact (Room.at (((w4.alloc (.cells #[.int .i64 (k : Int), .int .i64 l, .int .i64 d, .int .i64 r, .int .i64 p, .int .i64 s, .slice (some ⟨gK, 0, none⟩) k cK2, .slice (some ⟨gO, 0, none⟩) k cO2, .int .i64 t] 32)).alloc (.cells #[.int .i64 (k : Int), .int .i64 l, .int .i64 d, .int .i64 r, .int .i64 p, .int .i64 s, .slice (some ⟨gK, 0, none⟩) k cK2, .slice (some ⟨gO, 0, none⟩) k cO2, .int .i64 t] 32)).alloc (.cells #[.slice (some ⟨bd, od, none⟩) k cD, .slice (some ⟨be, oe, none⟩) k cE, .slice (some ⟨bl, ol, none⟩) k cL, .slice (some ⟨bf, of, none⟩) k cF, .slice (some ⟨br, or, none⟩) k cR] 53)) [.int .i64 (i : Int)] 2 _ (by simp)).cell 0 rfl
  have b5w := BB.trans (b5.mono BB.size)
  have HGF : Hid (GF (k : Int) l d r p s t gK k cK2 gO cO2 be oe cE bl ol cL bx ox cx bz oz cz i (.slice (some ⟨bd, od, none⟩) k cD) (.slice (some ⟨bf, of, none⟩) k cF) (.slice (some ⟨br, or, none⟩) k cR) (FK ks fs) os ds es ls (w4.heap.size + 1) (w4.heap.size + 1 + 1) (w4.heap.size + 1 + 1 + 1) w5) := ⟨r0, r1, r2, fun j hj => by rw [b5.cell (p := ⟨gK, j, none⟩) lK]; exact (oK.out.cell j hj).1, fun j hj => by rw [b5.cell (p := ⟨gO, j, none⟩) lO, (oO.out.cell j hj).1, mo_el os ds (by rw [rO.out.1]; exact hj)], by rw [b5w.cell (p := ⟨be, oe + i, none⟩) hE0.out.1]; exact hE0.out.2, fun j hj => by rw [b5w.cell (p := ⟨bx, ox + j, none⟩) hE1.out.1]; exact hE1.out.2 j hj, by rw [b5w.cell (p := ⟨bl, ol + i, none⟩) hL0.out.1]; exact hL0.out.2, fun j hj => by rw [b5w.cell (p := ⟨bz, oz + j, none⟩) hL1.out.1]; exact hL1.out.2 j hj⟩
  replace BX : Boxed w5 (w.heap.size + 1 + 1 + 1) 24 (.slice (some ⟨w.heap.size + 1 + 1, 0, none⟩) 0 0) := (b5.block _ BX.lt).trans BX
  replace O1 : Hid (Ow.Own w5 (w.heap.size + 2) (w.heap.size + 1 + 1) 0 0 []) := O1.out.later b5 (by have := O1.out.lt; omega)
  have gKx : gK < gO := gKO
  clear r0 r1 r2 R0 RT RM bw e5 oK oO
  obtain ⟨Q, hQd⟩ : ∃ Q : Nat → Prop, Q = fun x => x < w5.heap.size ∧ x ≠ w.heap.size + 1 + 1 ∧ x ≠ w.heap.size + 1 + 1 + 1 := ⟨_, rfl⟩
  have hq0 : ∀ x, Q x → x < w5.heap.size := by intro x hx; rw [hQd] at hx; exact hx.1
  have hq1 : ¬ Q (w.heap.size + 1 + 1) := by rw [hQd]; intro hx; exact hx.2.1 rfl
  have hq2 : ¬ Q (w.heap.size + 1 + 1 + 1) := by rw [hQd]; intro hx; exact hx.2.2 rfl
  have zBe := hE0.out.1
  have zBx := hE1.out.1
  have zBl := hL0.out.1
  have zBz := hL1.out.1
  have zz := BB.size
  have HQ : Hid (Q (w4.heap.size + 1) ∧ Q (w4.heap.size + 1 + 1) ∧ Q (w4.heap.size + 1 + 1 + 1) ∧ Q gK ∧ Q gO ∧ Q be ∧ Q bx ∧ Q bl ∧ Q bz) := by unfold Hid; rw [hQd]; dsimp only; omega
  obtain ⟨i0, hi0, hz0, hz1, hz2⟩ := info_parts Ls.info
  have qO : Hid (∀ j, j < k → -2000000000000000 ≤ el os j + el ds j ∧ el os j + el ds j ≤ 2000000000000000) := fun j hj => by have := hO.out j hj; have := hD.out j hj; omega
  clear hQd
  refine wpIn_rangeFunc_ownG rfl (show 1 ≤ 6 by omega) (gf := 86) (lb := #[.pointer (some ⟨w4.heap.size + 1, 0, none⟩), .pointer (some ⟨w4.heap.size + 1 + 1, 0, none⟩), .pointer (some ⟨w4.heap.size + 1 + 1 + 1, 0, none⟩)]) rfl trivial (enters_of Tryz.func86 (by kernel_rfl) rfl)
    (gi_stops (k : Int) l d r p s t gK k cK2 gO cO2 be oe cE bl ol cL bx ox cx bz oz cz i _ _ _ (FK ks fs) os ds es ls Q _ _ _ hik hk qO hE HQ _ (by omega) _ HGF.out) Kq.trans (Kq.put hq0) (Below.refl _ _) (fun _ => rfl)
    (fun pre W => (∃ v, Boxed W (w.heap.size + 1 + 1 + 1) 24 v ∧ W.ownsRow (w.heap.size + 2) 2 1 v pre.length (ints pre) ∧ (∃ g c, v = .slice (some ⟨g, 0, none⟩) pre.length c ∧ ¬ Q g)) ∧ Below w.heap.size w W ∧ w5.heap.size ≤ W.heap.size)
    (fun _ _ _ => False)
    (OwnFrom.and (Own.from (holdsRow_own (w.heap.size + 2) (w.heap.size + 1 + 1 + 1) 24 2 1 (fun pre => pre.length) (fun pre => ints pre) (fun pre v => ∃ g c, v = .slice (some ⟨g, 0, none⟩) pre.length c ∧ ¬ Q g)) _) (OwnFrom.and (ownFrom_below (Nat.le_refl _) (by omega)) (fun _ _ _ _ hs hg _ => Nat.le_trans hs hg.size)))
    (fun _ _ _ _ _ hs _ _ => hs)
    ⟨⟨_, BX, O1.out, ⟨_, _, rfl, hq1⟩⟩, b5w, Nat.le_refl _⟩
    (fun x => { tmps := #[Value.agg #[Value.int IntKind.i64 (k : Int), Value.int IntKind.i64 l, Value.int IntKind.i64 d, Value.int IntKind.i64 r, Value.int IntKind.i64 p, Value.int IntKind.i64 s, Value.slice (some { block := b, off := off }) k cK, Value.slice (some { block := bo, off := oo }) k cO, Value.int IntKind.i64 t], Value.agg #[Value.slice (some { block := bd, off := od }) k cD, Value.slice (some { block := be, off := oe }) k cE, Value.slice (some { block := bl, off := ol }) k cL, Value.slice (some { block := bf, off := of }) k cF, Value.slice (some { block := br, off := or }) k cR], Value.int IntKind.i64 (i : Int), Value.pointer (some { block := w.heap.size, off := 0 }), Value.pointer (some { block := w.heap.size + 1, off := 0 }), undef, Value.slice none 0 0, Value.pointer (some { block := w.heap.size + 1 + 1 + 1, off := 0 }), Value.pointer (some { block := w4.heap.size, off := 0 }), .int .i64 x, Value.slice (some { block := w.heap.size + 1 + 1, off := 0 }) 0 0, Value.agg #[Value.int IntKind.i64 (k : Int), Value.int IntKind.i64 l, Value.int IntKind.i64 d, Value.int IntKind.i64 r, Value.int IntKind.i64 p, Value.int IntKind.i64 s, Value.slice (some { block := b, off := off }) k cK, Value.slice (some { block := bo, off := oo }) k cO, Value.int IntKind.i64 t], Value.agg #[Value.slice (some { block := bd, off := od }) k cD, Value.slice (some { block := be, off := oe }) k cE, Value.slice (some { block := bl, off := ol }) k cL, Value.slice (some { block := bf, off := of }) k cF, Value.slice (some { block := br, off := or }) k cR], Value.bool true, Value.bool false, Value.bool false, Value.pointer (some { block := w.heap.size, off := 0 }), Value.pointer (some { block := w.heap.size, off := 0 }), Value.int IntKind.i64 (k : Int), Value.int IntKind.i64 ((k : Int) - 1), Value.agg #[Value.int IntKind.i64 0, Value.int IntKind.i64 ((k : Int) - 1)], Value.int IntKind.i64 (i : Int), Value.bool true, Value.bool false, Value.bool false, undef, Value.agg #[Value.int IntKind.i64 (k : Int), Value.int IntKind.i64 l, Value.int IntKind.i64 d, Value.int IntKind.i64 r, Value.int IntKind.i64 p, Value.int IntKind.i64 s, Value.slice (some { block := b, off := off }) k cK, Value.slice (some { block := bo, off := oo }) k cO, Value.int IntKind.i64 t], Value.agg #[Value.slice (some { block := bd, off := od }) k cD, Value.slice (some { block := be, off := oe }) k cE, Value.slice (some { block := bl, off := ol }) k cL, Value.slice (some { block := bf, off := of }) k cF, Value.slice (some { block := br, off := or }) k cR], wld ((k : Int)) l d r p s (Value.slice (some { block := gK, off := 0 }) k cK2) (Value.slice (some { block := gO, off := 0 }) k cO2) t, Value.pointer (some { block := w4.heap.size, off := 6 }), Value.slice (some { block := gK, off := 0 }) k cK2, Value.int IntKind.i64 (i : Int), Value.pointer (some { block := gK, off := i }), Value.int IntKind.i64 (el (FK ks fs) i), Value.bool true, Value.bool true, Value.pointer (some { block := w.heap.size + 1, off := 4 }), Value.slice (some { block := br, off := or }) k cR, Value.int IntKind.i64 (i : Int), Value.pointer (some { block := br, off := or + i }), Value.bool true, Value.bool false, Value.bool false, undef, Value.agg #[Value.int IntKind.i64 (k : Int), Value.int IntKind.i64 l, Value.int IntKind.i64 d, Value.int IntKind.i64 r, Value.int IntKind.i64 p, Value.int IntKind.i64 s, Value.slice (some { block := gK, off := 0 }) k cK2, Value.slice (some { block := gO, off := 0 }) k cO2, Value.int IntKind.i64 t], Value.agg #[Value.slice (some { block := bd, off := od }) k cD, Value.slice (some { block := be, off := oe }) k cE, Value.slice (some { block := bl, off := ol }) k cL, Value.slice (some { block := bf, off := of }) k cF, Value.slice (some { block := br, off := or }) k cR], Value.int IntKind.i64 (i : Int), Value.func (Fn.func 86) #[] #[Value.pointer (some { block := w4.heap.size + 1, off := 0 }), Value.pointer (some { block := w4.heap.size + 1 + 1, off := 0 }), Value.pointer (some { block := w4.heap.size + 1 + 1 + 1, off := 0 })], .int .i64 x, undef, undef, undef, undef, undef], defers := [] }) ?assign ?body ?done ?stop
  case assign =>
    intro l x W K hK
    gi_wp2
    exact hK
  case body =>
    rintro l0 pre x W ⟨⟨v, hv, hrow, g, c, rfl, hg⟩, hB, hsz⟩ hlt
    have hc := hv.cell
    have hgb : g < W.heap.size := Ow.Own.lt (zs := pre) hrow
    gi_wp2_with (gi_at_builtin; refine wpListIn_append_own_at _ rfl _ _ 24 rfl (w.heap.size + 2) 2 i0 (.int .i64 0) 1 8 Tryz.underlying24 hi0 hz0 hz1 hz2 rfl (by decide) (.slice (some ⟨g, 0, none⟩) pre.length c) pre.length (ints pre) rfl (hrow.alloc _) ⟨W.heap.size, 0, none⟩ 1 1 (ints [x]) rfl rfl (Ow.one_new W x _ _ rfl) (Ow.one _) (by unfold maxLen; omega) (by omega) (by have := hB.size; simp; omega) ?_; intro v2 w6 hown2 hgrow hn2 ha2; obtain ⟨g2, c2, rfl⟩ := ownsRow_succ hown2; obtain ⟨hv1, hv2, hr2, hk2, hb2⟩ := hv.appended (by decide) hrow (by omega) (by omega) hown2 hgrow; have hc1 := hv1.cell; have hf1 := hv1.frozen)
    replace hgrow : World.grownBy _ w6 (some g) := hgrow
    have hg2 : ¬ Q g2 := by
      rcases ha2 with e | e
      · have e2 : g2 = g := Option.some.inj e
        rw [e2]; exact hg
      · have e2 : g2 = (W.alloc _).heap.size := Option.some.inj e
        intro hx; have := hq0 _ hx; simp at e2; omega
    refine ⟨hk2.from _, ⟨?_, ?_⟩, ⟨⟨_, hv2, ?_, ⟨g2, c2, ?_, hg2⟩⟩, hB.trans (hb2.mono (by omega)), ?_⟩⟩
    · have := hgrow.size; simp at this ⊢; omega
    · intro y hy; rw [Below.heap_setCell _ _ _ _ (by intro e; exact hq2 (by simp at e; rw [← e]; exact hy)), hgrow.block y (by have := hq0 y hy; simp; omega) (by intro e; have e2 : y = g := Option.some.inj e; exact hg (by rw [← e2]; exact hy)), Below.heap_alloc _ _ _ (by have := hq0 y hy; omega)]
    · simpa [ints] using hr2
    · simp
    · have := hgrow.size; simp at this ⊢; omega
  case done =>
    rintro D ys W hD rfl ⟨⟨v, hv, hrow, g, c, rfl, hg⟩, hB, hsz⟩ hK
    have hc := hv.cell
    rw [gl_len] at hc
    gi_wp2
    refine ⟨by simp, .inl ⟨_, _, rfl, run_takeDeferred hK, ?_⟩⟩
    refine ⟨_, results_tmp rfl _ _ _, ⟨⟨g, c, rfl, ?_⟩, hB.trans (belowK_b (w := w) (Nat.le_refl _) W D _ _ (by omega) hK rfl rfl)⟩⟩
    rw [gl_len] at hrow
    exact Ow.Own.mono (ownsRow_putObj hrow _ hK rfl) (by omega)
  case stop =>
    rintro D c pre W _ _ h _
    exact h.elim

end Go.Proofs.YtcgcmceobmpdiaaGreat.Tu
