/-
  spec.GuessesOf by its answer.
-/
import Derived.Test.YtcgcmceobmpdiaaGreatG1
import Derived.Maps.AppendAt
import Derived.Deep.RegionLaw
namespace Go.Proofs.YtcgcmceobmpdiaaGreat.Tu
open Go.ChangeShapes Go.WideShapes Go.ChangeAt Go.RowKit
open Ls (el Row)
open Ow (Has Own ints)
open Rd (Flags)
open Bo (eb HasB)
open Rm (Room)
open Sp (span LK)
open Wl (wld c9 WO bad allIn)
open Ss (RowsAt ln rw_ tot)
set_option linter.unusedVariables false
set_option linter.unusedSimpArgs false

set_option maxHeartbeats 16000000 in
set_option maxRecDepth 100000 in
theorem sg_up (l d r p s t : Int) (b off k cK bo oo cO bd od cD be oe cE bl ol cL bf of cF br or cR bx ox cx bz oz cz i : Nat) (ks os ds : List Int) (es ls : List (List Int)) (fs rs : List Bool) (w : World)
    (rK : Hid (Row w w.heap.size (some ⟨b, off, none⟩) k ks)) (rO : Hid (Row w w.heap.size (some ⟨bo, oo, none⟩) k os)) (rD : Hid (Row w w.heap.size (some ⟨bd, od, none⟩) k ds)) (rE : Hid (RowsAt w w.heap.size (some ⟨be, oe, none⟩) k es)) (rL : Hid (RowsAt w w.heap.size (some ⟨bl, ol, none⟩) k ls)) (rF : Hid (Flags w w.heap.size (some ⟨bf, of, none⟩) k fs)) (rR : Hid (Flags w w.heap.size (some ⟨br, or, none⟩) k rs))
    (hcK : Hid (b < w.heap.size ∧ ∀ j, j < k → w.cell? ⟨b, off + j, none⟩ = some (.int .i64 (el ks j)))) (hcO : Hid (bo < w.heap.size ∧ ∀ j, j < k → w.cell? ⟨bo, oo + j, none⟩ = some (.int .i64 (el os j)))) (hcD : Hid (bd < w.heap.size ∧ ∀ j, j < k → w.cell? ⟨bd, od + j, none⟩ = some (.int .i64 (el ds j)))) (hcR : Hid (br < w.heap.size ∧ w.cell? ⟨br, or + i, none⟩ = some (.bool (eb rs i))))
    (hE0 : Hid (be < w.heap.size ∧ w.cell? ⟨be, oe + i, none⟩ = some (.slice (some ⟨bx, ox, none⟩) k cx))) (hE1 : Hid (bx < w.heap.size ∧ ∀ j, j < k → w.cell? ⟨bx, ox + j, none⟩ = some (.int .i64 (el (rw_ es i) j)))) (hL0 : Hid (bl < w.heap.size ∧ w.cell? ⟨bl, ol + i, none⟩ = some (.slice (some ⟨bz, oz, none⟩) k cz))) (hL1 : Hid (bz < w.heap.size ∧ ∀ j, j < k → w.cell? ⟨bz, oz + j, none⟩ = some (.int .i64 (el (rw_ ls i) j))))
    (hk : k ≤ 1048576) (hik : i < k) (hT : Hid (TO (k : Int) l d r p s ks k os k t ds es ls fs rs k k = true)) (hO : Hid (∀ j, j < k → -1000000000000000 ≤ el os j ∧ el os j ≤ 1000000000000000)) (hD : Hid (∀ j, j < k → -1000000 ≤ el ds j ∧ el ds j ≤ 1000000)) (hE : Hid (∀ j, j < k → -1000000 ≤ el (rw_ es i) j ∧ el (rw_ es i) j ≤ 1000000)) (hq : Hid (el (FK ks fs) i = 0)) :
    Calls Tryz.prog 59 #[.agg #[.int .i64 (k : Int), .int .i64 l, .int .i64 d, .int .i64 r, .int .i64 p, .int .i64 s, .slice (some ⟨b, off, none⟩) k cK, .slice (some ⟨bo, oo, none⟩) k cO, .int .i64 t], .agg #[.slice (some ⟨bd, od, none⟩) k cD, .slice (some ⟨be, oe, none⟩) k cE, .slice (some ⟨bl, ol, none⟩) k cL, .slice (some ⟨bf, of, none⟩) k cF, .slice (some ⟨br, or, none⟩) k cR], .int .i64 (i : Int)] w fun e w' => (∃ g c, e = .returned (.slice (some ⟨g, 0, none⟩) k c) ∧ Own w' w.heap.size g k c (GL (FK ks fs) os ds es ls i k)) ∧ Below w.heap.size w w' := by
  have R0 := ((Room.new w [.int .i64 (k : Int), .int .i64 l, .int .i64 d, .int .i64 r, .int .i64 p, .int .i64 s, .slice (some ⟨b, off, none⟩) k cK, .slice (some ⟨bo, oo, none⟩) k cO, .int .i64 t] 32).alloc (.cells #[.slice (some ⟨bd, od, none⟩) k cD, .slice (some ⟨be, oe, none⟩) k cE, .slice (some ⟨bl, ol, none⟩) k cL, .slice (some ⟨bf, of, none⟩) k cF, .slice (some ⟨br, or, none⟩) k cR] 53)).alloc (.cells #[] 2)
  have RT : Room ((w.alloc (.cells #[.int .i64 (k : Int), .int .i64 l, .int .i64 d, .int .i64 r, .int .i64 p, .int .i64 s, .slice (some ⟨b, off, none⟩) k cK, .slice (some ⟨bo, oo, none⟩) k cO, .int .i64 t] 32)).alloc (.cells #[.slice (some ⟨bd, od, none⟩) k cD, .slice (some ⟨be, oe, none⟩) k cE, .slice (some ⟨bl, ol, none⟩) k cL, .slice (some ⟨bf, of, none⟩) k cF, .slice (some ⟨br, or, none⟩) k cR] 53)) (w.heap.size + 1) [.slice (some ⟨bd, od, none⟩) k cD, .slice (some ⟨be, oe, none⟩) k cE, .slice (some ⟨bl, ol, none⟩) k cL, .slice (some ⟨bf, of, none⟩) k cF, .slice (some ⟨br, or, none⟩) k cR] := Room.at _ [.slice (some ⟨bd, od, none⟩) k cD, .slice (some ⟨be, oe, none⟩) k cE, .slice (some ⟨bl, ol, none⟩) k cL, .slice (some ⟨bf, of, none⟩) k cF, .slice (some ⟨br, or, none⟩) k cR] 53 _ (by simp)
  replace RT := RT.alloc (.cells #[] 2)
  have BB := (((Below.refl w.heap.size w).alloc (Nat.le_refl _) (.cells #[.int .i64 (k : Int), .int .i64 l, .int .i64 d, .int .i64 r, .int .i64 p, .int .i64 s, .slice (some ⟨b, off, none⟩) k cK, .slice (some ⟨bo, oo, none⟩) k cO, .int .i64 t] 32)).alloc (by simp) (.cells #[.slice (some ⟨bd, od, none⟩) k cD, .slice (some ⟨be, oe, none⟩) k cE, .slice (some ⟨bl, ol, none⟩) k cL, .slice (some ⟨bf, of, none⟩) k cF, .slice (some ⟨br, or, none⟩) k cR] 53)).alloc (by simp; omega) (.cells #[] 2)
  have O1 : Hid (Own (((w.alloc (.cells #[.int .i64 (k : Int), .int .i64 l, .int .i64 d, .int .i64 r, .int .i64 p, .int .i64 s, .slice (some ⟨b, off, none⟩) k cK, .slice (some ⟨bo, oo, none⟩) k cO, .int .i64 t] 32)).alloc (.cells #[.slice (some ⟨bd, od, none⟩) k cD, .slice (some ⟨be, oe, none⟩) k cE, .slice (some ⟨bl, ol, none⟩) k cL, .slice (some ⟨bf, of, none⟩) k cF, .slice (some ⟨br, or, none⟩) k cR] 53)).alloc (.cells #[] 2)) (w.heap.size + 2) (w.heap.size + 2) 0 0 []) := Ow.own_made _ _ _ (by simp) (by simp)
  have hw0 : IntKind.i64.wrap ((k : Int) - 1) = (k : Int) - 1 := by rw [IntKind.wrap_i64]; omega
  have hlk : LK 0 ((k : Int) - 1) (i : Int) = false := by unfold LK; simp; omega
  go_enter Tryz.func59, Tryz.ntmps59
  go_wp2_with fail
  refine (s_TurnOk (k : Int) l d r p s t b off k cK _ k cO _ _ _ _ _ k cD k cE k cL k cF k cR ks os ds es ls fs rs _ rK.out.1 (fun j hj => by rw [BB.cell (p := ⟨b, off + j, none⟩) hcK.out.1]; exact hcK.out.2 j hj) (Nat.lt_of_lt_of_le hcK.out.1 BB.size) ((rO.out.later BB (Nat.le_refl _)).more BB.size) ((rD.out.later BB (Nat.le_refl _)).more BB.size) ((rE.out.later BB (Nat.le_refl _)).more BB.size) ((rL.out.later BB (Nat.le_refl _)).more BB.size) ((rF.out.later BB (Nat.le_refl _)).more BB.size) ((rR.out.later BB (Nat.le_refl _)).more BB.size) hk hk hk hk).mono ?_
  rintro e w2 ⟨rfl, b2⟩
  rw [hT.out]
  have z_b2 := b2.size
  (try simp at z_b2)
  replace R0 := R0.below b2
  replace RT := RT.below b2
  replace O1 : Hid (Own w2 (w.heap.size + 2) (w.heap.size + 2) 0 0 []) := O1.out.later b2 (by simp)
  replace BB := BB.trans (b2.mono BB.size)
  have c6 := R0.cell 6 rfl
  go_wp2_with fail
  refine (Sp.s_l1In 0 ((k : Int) - 1) (i : Int) _).mono ?_
  rintro e w2 ⟨rfl, rfl⟩
  rw [hlk]
  have c0 := R0.cell 0 rfl
  have c1 := R0.cell 1 rfl
  have c2 := R0.cell 2 rfl
  have c3 := R0.cell 3 rfl
  have c4 := R0.cell 4 rfl
  have c5 := R0.cell 5 rfl
  have c7 := R0.cell 7 rfl
  have c8 := R0.cell 8 rfl
  have y0 := RT.cell 0 rfl
  have y1 := RT.cell 1 rfl
  have y2 := RT.cell 2 rfl
  have y3 := RT.cell 3 rfl
  have y4 := RT.cell 4 rfl
  go_wp2_with fail
  refine (l6Fallen (k : Int) l d r p s t b off k cK _ _ _ _ _ _ cF ks fs _ rK.out.1 (fun j hj => by rw [BB.cell (p := ⟨b, off + j, none⟩) hcK.out.1]; exact hcK.out.2 j hj) (Nat.lt_of_lt_of_le hcK.out.1 BB.size) ((rF.out.later BB (Nat.le_refl _)).more BB.size) hk).mono ?_
  rintro e w3 ⟨⟨gF, cF2, rfl, oF0⟩, b3⟩
  clear c0 c1 c2 c3 c4 c5 c6 c7 c8 y0 y1 y2 y3 y4
  have z_b3 := b3.size
  (try simp at z_b3)
  replace R0 := R0.below b3
  replace RT := RT.below b3
  replace O1 : Hid (Own w3 (w.heap.size + 2) (w.heap.size + 2) 0 0 []) := O1.out.later b3 (by have := O1.out.lt; omega)
  replace BB := BB.trans (b3.mono BB.size)
  have oF : Hid (Own w3 (w.heap.size + 3) gF k cF2 (FK ks fs)) := oF0.mono (by omega)
  clear oF0 b3 b2
  have c0 := R0.cell 0 rfl
  have c1 := R0.cell 1 rfl
  have c2 := R0.cell 2 rfl
  have c3 := R0.cell 3 rfl
  have c4 := R0.cell 4 rfl
  have c5 := R0.cell 5 rfl
  have c6 := R0.cell 6 rfl
  have c7 := R0.cell 7 rfl
  have c8 := R0.cell 8 rfl
  have y0 := RT.cell 0 rfl
  have y1 := RT.cell 1 rfl
  have y2 := RT.cell 2 rfl
  have y3 := RT.cell 3 rfl
  have y4 := RT.cell 4 rfl
  go_wp2_with fail
  refine (l6Offs (k : Int) l d r p s t _ bo oo k cO bd od cD _ _ _ _ os ds _ (fun j hj => by rw [BB.cell (p := ⟨bo, oo + j, none⟩) hcO.out.1]; exact hcO.out.2 j hj) (Nat.lt_of_lt_of_le hcO.out.1 BB.size) (fun j hj => by rw [BB.cell (p := ⟨bd, od + j, none⟩) hcD.out.1]; exact hcD.out.2 j hj) (Nat.lt_of_lt_of_le hcD.out.1 BB.size) hk hO hD).mono ?_
  rintro e w4 ⟨⟨gP, cP, rfl, oP0⟩, b4⟩
  clear c0 c1 c2 c3 c4 c5 c6 c7 c8 y0 y1 y2 y3 y4
  have lF := oF.out.lt
  have gF3 := oF.out.data.2.1
  have z_b4 := b4.size
  (try simp at z_b4)
  replace R0 := R0.below b4
  replace RT := RT.below b4
  replace O1 : Hid (Own w4 (w.heap.size + 2) (w.heap.size + 2) 0 0 []) := O1.out.later b4 (by have := O1.out.lt; omega)
  replace oF : Hid (Own w4 (w.heap.size + 3) gF k cF2 (FK ks fs)) := oF.out.later b4 (by omega)
  replace BB := BB.trans (b4.mono BB.size)
  have oP : Hid (Own w4 (w.heap.size + 3) gP k cP (OP os ds k)) := oP0.mono (by omega)
  have gPF : gF < gP := by have := oP0.data.2.1; omega
  clear oP0 b4
  have lP := oP.out.lt
  have gP3 := oP.out.data.2.1
  have hcR2 : w4.cell? ⟨br, or + i, none⟩ = some (.bool (eb rs i)) := by rw [BB.cell (p := ⟨br, or + i, none⟩) hcR.out.1]; exact hcR.out.2
  have hcF2 := (oF.out.cell i hik).1
  have y4 := RT.cell 4 rfl
  have hii : (i : Int) < (k : Int) := by omega
  have h5 : (el (FK ks fs) i != 0) = false := by simp [hq.out]
  obtain ⟨i0, hi0, hz0, hz1, hz2⟩ := info_parts Ls.info
  have HRR : Hid (Room w4 w.heap.size [.int .i64 (k : Int), .int .i64 l, .int .i64 d, .int .i64 r, .int .i64 p, .int .i64 s, .slice (some ⟨b, off, none⟩) k cK, .slice (some ⟨bo, oo, none⟩) k cO, .int .i64 t] ∧ Room w4 (w.heap.size + 1) [.slice (some ⟨bd, od, none⟩) k cD, .slice (some ⟨be, oe, none⟩) k cE, .slice (some ⟨bl, ol, none⟩) k cL, .slice (some ⟨bf, of, none⟩) k cF, .slice (some ⟨br, or, none⟩) k cR]) := ⟨R0, RT⟩
  clear R0 RT
  go_wp2_with fail
  clear hcF2 hcR2 y4
  go_loopw [7, 10] (fun v q wr => ∃ (j g c : Nat), j ≤ k ∧ q = .int .i64 (j : Int) ∧ v = .slice (some ⟨g, 0, none⟩) j c ∧ Hid (Own wr (w.heap.size + 2) g j c (GL (FK ks fs) os ds es ls i j)) ∧ Hid (Own wr (w.heap.size + 3) gF k cF2 (FK ks fs)) ∧ Hid (Own wr (w.heap.size + 3) gP k cP (OP os ds k)) ∧ Hid (Room wr w.heap.size [.int .i64 (k : Int), .int .i64 l, .int .i64 d, .int .i64 r, .int .i64 p, .int .i64 s, .slice (some ⟨b, off, none⟩) k cK, .slice (some ⟨bo, oo, none⟩) k cO, .int .i64 t] ∧ Room wr (w.heap.size + 1) [.slice (some ⟨bd, od, none⟩) k cD, .slice (some ⟨be, oe, none⟩) k cE, .slice (some ⟨bl, ol, none⟩) k cL, .slice (some ⟨bf, of, none⟩) k cF, .slice (some ⟨br, or, none⟩) k cR]) ∧ g ≠ gF ∧ g ≠ gP ∧ Below w.heap.size w wr) (fun _ q _ => k - (intOf q).toNat)
  case atStart => exact ⟨0, _, _, Nat.zero_le _, rfl, rfl, O1.out, oF.out, oP.out, HRR.out, by omega, by omega, BB⟩
  case round =>
    obtain ⟨j, g, c, hj, rfl, rfl, HO, HF, HP, HR, gnF, gnP, hb⟩ := hrel
    have hgl := HO.out.data.2.1
    have hsz := HO.out.lt
    clear O1 oF oP HRR BB
    by_cases hlt : j < k
    · have hi : (j : Int) < k := by omega
      have hcj := (HF.out.cell j hlt).1
      by_cases h0 : el (FK ks fs) j = 0
      · have h1 : (el (FK ks fs) j != 0) = false := by simp [h0]
        by_cases hji : j = i
        · subst hji
          have E1 : Hid (GS (FK ks fs) os ds es ls j j = 0) := by unfold Hid GS; rw [if_pos h0, if_pos rfl]
          clear h0
          go_wp2_with (at_builtin; refine wpList_append_own_at _ rfl (.tmp 94) (.tmp 95) 24 rfl (w.heap.size + 2) 2 i0 (.int .i64 0) 1 8 Tryz.underlying24 hi0 hz0 hz1 hz2 rfl (by decide) _ _ _ rfl (World.ownsRow.alloc (w := wr) HO.out _) ⟨wr.heap.size, 0, none⟩ 1 1 (ints [(0 : Int)]) rfl rfl (Ow.one_new wr (0 : Int) _ _ rfl) (Ow.one _) (by unfold maxLen; omega) (by omega) (by simp; omega) ?_; intro v2 w2 hx2 hg3 hn2 ha2)
          obtain ⟨g2, c2, rfl, ho2, hat⟩ := Ow.more_at (W := wr) (t := g) hx2 (Ow.no_nil hn2 rfl) ha2
          replace hg3 : World.grownBy _ w2 (some g) := hg3
          have HF2 : Hid (Own w2 (w.heap.size + 3) gF k cF2 (FK ks fs)) := Ow.Own.kept (W := wr) HF.out hg3 (by omega)
          have HP2 : Hid (Own w2 (w.heap.size + 3) gP k cP (OP os ds k)) := Ow.Own.kept (W := wr) HP.out hg3 (by omega)
          have HR2 : Hid (Room w2 w.heap.size [.int .i64 (k : Int), .int .i64 l, .int .i64 d, .int .i64 r, .int .i64 p, .int .i64 s, .slice (some ⟨b, off, none⟩) k cK, .slice (some ⟨bo, oo, none⟩) k cO, .int .i64 t] ∧ Room w2 (w.heap.size + 1) [.slice (some ⟨bd, od, none⟩) k cD, .slice (some ⟨be, oe, none⟩) k cE, .slice (some ⟨bl, ol, none⟩) k cL, .slice (some ⟨bf, of, none⟩) k cF, .slice (some ⟨br, or, none⟩) k cR]) := ⟨(HR.out.1.alloc _).other hg3 (by omega), (HR.out.2.alloc _).other hg3 (by omega)⟩
          have hb2 : Below w.heap.size w w2 := (hb.alloc hb.size _).grown hg3 (by simp; omega) (by intro j hj; cases hj; omega)
          have lF2 := HF.out.lt
          have lP2 := HP.out.lt
          have g5 : g2 ≠ gF ∧ g2 ≠ gP := by rcases hat with hat | hat <;> omega
          clear hx2 hg3 hn2 ha2 HO HR hat HF HP lF2 lP2
          go_wp2_with fail
          go_roundw
          case rel => exact ⟨j + 1, g2, c2, by omega, by go_num, rfl, by rw [gl_succ, E1.out]; exact ho2, HF2, HP2, HR2, g5.1, g5.2, hb2⟩
          case measure => simp [intOf]; omega
        · have h2 : ((j : Int) == (i : Int)) = false := by rw [beq_eq_false_iff_ne]; omega
          have E1 : Hid (GS (FK ks fs) os ds es ls i j = (el os j + el ds j) - (el os i + el ds i) + el (rw_ es i) j) := by unfold Hid GS; rw [if_pos h0, if_neg hji]
          clear h0
          have y1 := HR.out.2.cell 1 rfl
          have hcE0 := hE0.out.2
          rw [← hb.cell (p := ⟨be, oe + i, none⟩) hE0.out.1] at hcE0
          have hcE1 := hE1.out.2 j hlt
          rw [← hb.cell (p := ⟨bx, ox + j, none⟩) hE1.out.1] at hcE1
          have hcPj := (HP.out.cell j hlt).1
          rw [op_el os ds hlt] at hcPj
          have hcPi := (HP.out.cell i hik).1
          rw [op_el os ds hik] at hcPi
          have q1 := hO.out j hlt
          have q2 := hD.out j hlt
          have q3 := hO.out i hik
          have q4 := hD.out i hik
          have q5 := hE.out j hlt
          obtain ⟨A, hA⟩ : ∃ A, el os j + el ds j = A := ⟨_, rfl⟩
          obtain ⟨B, hB⟩ : ∃ B, el os i + el ds i = B := ⟨_, rfl⟩
          obtain ⟨C, hC⟩ : ∃ C, el (rw_ es i) j = C := ⟨_, rfl⟩
          rw [hA] at hcPj E1
          rw [hB] at hcPi E1
          rw [hC] at hcE1 E1 q5
          obtain ⟨X, hX⟩ : ∃ X, A - B + C = X := ⟨_, rfl⟩
          rw [hX] at E1
          have hw1 : IntKind.i64.wrap (A - B) = A - B := by rw [IntKind.wrap_i64]; omega
          have hw2 : IntKind.i64.wrap (A - B + C) = X := by rw [IntKind.wrap_i64]; omega
          clear hA hB hC hX q1 q2 q3 q4 q5
          go_wp2_with fail
          go_region_law (refine Ow.step_own_at rfl (.tmp 52) (.tmp 71) 24 rfl (w.heap.size + 2) 2 i0 (.int .i64 0) 1 8 Tryz.underlying24 hi0 hz0 hz1 hz2 rfl (by decide) _ _ _ rfl (World.ownsRow.alloc (w := wr.drew) HO.out _) ⟨wr.heap.size, 0, none⟩ 1 1 (ints [X]) rfl rfl (Ow.one_new wr.drew X _ _ rfl) (Ow.one _) (by unfold maxLen; omega) (by omega) (by simp; omega) ?_; intro v2 w2 hx2 hg3 hn2 ha2)
          all_goals
            obtain ⟨g2, c2, rfl, ho2, hat⟩ := Ow.more_at (W := wr.drew) (t := g) hx2 (Ow.no_nil hn2 rfl) ha2
            replace hg3 : World.grownBy _ w2 (some g) := hg3
            have HF2 : Hid (Own w2 (w.heap.size + 3) gF k cF2 (FK ks fs)) := Ow.Own.kept (W := wr.drew) HF.out hg3 (by omega)
            have HP2 : Hid (Own w2 (w.heap.size + 3) gP k cP (OP os ds k)) := Ow.Own.kept (W := wr.drew) HP.out hg3 (by omega)
            have HR2 : Hid (Room w2 w.heap.size [.int .i64 (k : Int), .int .i64 l, .int .i64 d, .int .i64 r, .int .i64 p, .int .i64 s, .slice (some ⟨b, off, none⟩) k cK, .slice (some ⟨bo, oo, none⟩) k cO, .int .i64 t] ∧ Room w2 (w.heap.size + 1) [.slice (some ⟨bd, od, none⟩) k cD, .slice (some ⟨be, oe, none⟩) k cE, .slice (some ⟨bl, ol, none⟩) k cL, .slice (some ⟨bf, of, none⟩) k cF, .slice (some ⟨br, or, none⟩) k cR]) := ⟨(HR.out.1.drew.alloc _).other hg3 (by omega), (HR.out.2.drew.alloc _).other hg3 (by omega)⟩
            have hb2 : Below w.heap.size w w2 := (hb.drew.alloc hb.size _).grown hg3 (by simp; omega) (by intro j hj; cases hj; omega)
            have hd : wr.drew.heap.size = wr.heap.size := rfl
            rw [hd] at hat
            have lF2 := HF.out.lt
            have lP2 := HP.out.lt
            have g5 : g2 ≠ gF ∧ g2 ≠ gP := by rcases hat with hat | hat <;> omega
            clear hx2 hg3 hn2 ha2 HO HR hat HF HP lF2 lP2
            go_wp2_with fail
            go_roundw
            case rel => exact ⟨j + 1, g2, c2, by omega, by go_num, rfl, by rw [gl_succ, E1.out]; exact ho2, HF2, HP2, HR2, g5.1, g5.2, hb2⟩
            case measure => simp [intOf]; omega
      · have h1 : (el (FK ks fs) j != 0) = true := by simp [h0]
        have E1 : Hid (GS (FK ks fs) os ds es ls i j = el (rw_ ls i) j) := by unfold Hid GS; rw [if_neg h0]
        clear h0
        have y2 := HR.out.2.cell 2 rfl
        have hcL0 := hL0.out.2
        rw [← hb.cell (p := ⟨bl, ol + i, none⟩) hL0.out.1] at hcL0
        have hcL1 := hL1.out.2 j hlt
        rw [← hb.cell (p := ⟨bz, oz + j, none⟩) hL1.out.1] at hcL1
        go_wp2_with (at_builtin; refine wpList_append_own_at _ rfl (.tmp 79) (.tmp 88) 24 rfl (w.heap.size + 2) 2 i0 (.int .i64 0) 1 8 Tryz.underlying24 hi0 hz0 hz1 hz2 rfl (by decide) _ _ _ rfl (World.ownsRow.alloc (w := wr) HO.out _) ⟨wr.heap.size, 0, none⟩ 1 1 (ints [(el (rw_ ls i) j)]) rfl rfl (Ow.one_new wr (el (rw_ ls i) j) _ _ rfl) (Ow.one _) (by unfold maxLen; omega) (by omega) (by simp; omega) ?_; intro v2 w2 hx2 hg3 hn2 ha2)
        obtain ⟨g2, c2, rfl, ho2, hat⟩ := Ow.more_at (W := wr) (t := g) hx2 (Ow.no_nil hn2 rfl) ha2
        replace hg3 : World.grownBy _ w2 (some g) := hg3
        have HF2 : Hid (Own w2 (w.heap.size + 3) gF k cF2 (FK ks fs)) := Ow.Own.kept (W := wr) HF.out hg3 (by omega)
        have HP2 : Hid (Own w2 (w.heap.size + 3) gP k cP (OP os ds k)) := Ow.Own.kept (W := wr) HP.out hg3 (by omega)
        have HR2 : Hid (Room w2 w.heap.size [.int .i64 (k : Int), .int .i64 l, .int .i64 d, .int .i64 r, .int .i64 p, .int .i64 s, .slice (some ⟨b, off, none⟩) k cK, .slice (some ⟨bo, oo, none⟩) k cO, .int .i64 t] ∧ Room w2 (w.heap.size + 1) [.slice (some ⟨bd, od, none⟩) k cD, .slice (some ⟨be, oe, none⟩) k cE, .slice (some ⟨bl, ol, none⟩) k cL, .slice (some ⟨bf, of, none⟩) k cF, .slice (some ⟨br, or, none⟩) k cR]) := ⟨(HR.out.1.alloc _).other hg3 (by omega), (HR.out.2.alloc _).other hg3 (by omega)⟩
        have hb2 : Below w.heap.size w w2 := (hb.alloc hb.size _).grown hg3 (by simp; omega) (by intro j hj; cases hj; omega)
        have lF2 := HF.out.lt
        have lP2 := HP.out.lt
        have g5 : g2 ≠ gF ∧ g2 ≠ gP := by rcases hat with hat | hat <;> omega
        clear hx2 hg3 hn2 ha2 HO HR hat HF HP lF2 lP2
        go_wp2_with fail
        go_roundw
        case rel => exact ⟨j + 1, g2, c2, by omega, by go_num, rfl, by rw [gl_succ, E1.out]; exact ho2, HF2, HP2, HR2, g5.1, g5.2, hb2⟩
        case measure => simp [intOf]; omega
    · have hi : ¬ (j : Int) < k := by omega
      have e : j = k := by omega
      subst e
      go_wp2
      go_ret
      exact ⟨⟨g, c, rfl, HO.out.mono (by omega)⟩, hb⟩

end Go.Proofs.YtcgcmceobmpdiaaGreat.Tu
