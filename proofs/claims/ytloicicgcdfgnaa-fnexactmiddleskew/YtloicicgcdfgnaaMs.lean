/-
  MiddleSkew of impl and of spec by one answer; each writes nothing that was there ahead of it.
-/
import Derived.Test.YtloicicgcdfgnaaIm6b
import Derived.Test.YtloicicgcdfgnaaG1
import Derived.Test.YtloicicgcdfgnaaTOkI
import Derived.Test.YtloicicgcdfgnaaOffs
import Derived.Test.YtloicicgcdfgnaaHullSp
namespace Go.Proofs.Ytloicicgcdfgnaa.Tu
open Go.ChangeShapes Go.WideShapes Go.ChangeAt Go.RowKit
open Ls (el Row)
open Ow (Has Own ints)
open Rd (Flags)
open Bo (eb HasB)
open Rm (Room)
open Wl (wld c9 WO bad allIn OB)
open Ss (RowsAt ln rw_ tot)
set_option linter.unusedVariables false
set_option linter.unusedSimpArgs false

/-- The answer of MiddleSkew. -/
def MS (n l d r p s : Int) (ks : List Int) (k : Nat) (os : List Int) (m : Nat) (t : Int) (ds : List Int) (es ls : List (List Int)) (fs rs : List Bool) (nF nR : Nat) : Int :=
  if TO n l d r p s ks k os m t ds es ls fs rs nF nR = true then Sr.SO (OB (FK ks fs) k (OP os ds k)) (OB (FK ks fs) k (OP os ds k)).length else -1

/-- The offs in the middle of a turn by either way. -/
theorem ob_mo {ks os ds : List Int} {fs : List Bool} {k : Nat} (h : os.length = k) : OB (FK ks fs) k (MO os ds) = OB (FK ks fs) k (OP os ds k) := by
  unfold OB
  refine List.map_congr_left (fun x hx => ?_)
  obtain ⟨j, rfl, hj, _⟩ := Wl.up_mem hx
  rw [Int.toNat_natCast, op_el os ds hj, mo_el os ds (by omega)]

set_option maxHeartbeats 8000000 in
set_option maxRecDepth 100000 in
theorem i_MiddleSkew (n l d r p s t : Int) (b off k cK : Nat) (aO : Option Addr) (m cO : Nat) (aD aE aL aF aR : Option Addr) (nD cD nE cE nL cL nF cF nR cR : Nat) (ks os ds : List Int) (es ls : List (List Int)) (fs rs : List Bool) (w : World) (hz : ks.length = k) (hc : ∀ j, j < k → w.cell? ⟨b, off + j, none⟩ = some (.int .i64 (el ks j))) (hb : b < w.heap.size) (rO : Row w w.heap.size aO m os) (rD : Row w w.heap.size aD nD ds) (rE : RowsAt w w.heap.size aE nE es) (rL : RowsAt w w.heap.size aL nL ls) (rF : Flags w w.heap.size aF nF fs) (rR : Flags w w.heap.size aR nR rs) (hk : k ≤ 1048576) (hm : m ≤ 1048576) (hnF : nF ≤ 1048576) (hnR : nR ≤ 1048576) (hnD : nD ≤ 1048576) (hnE : nE ≤ 1048576) (hnL : nL ≤ 1048576) (htE : tot es nE ≤ 1048576) (htL : tot ls nL ≤ 1048576) :
    Calls Try.prog 17 #[wld n l d r p s (.slice (some ⟨b, off, none⟩) k cK) (.slice aO m cO) t, trn (.slice aD nD cD) (.slice aE nE cE) (.slice aL nL cL) (.slice aF nF cF) (.slice aR nR cR)] w fun e w' => e = .returned (.int .i64 (MS n l d r p s ks k os m t ds es ls fs rs nF nR)) ∧ Below w.heap.size w w' := by
  cases h0 : TO n l d r p s ks k os m t ds es ls fs rs nF nR with
  | false =>
    have E : MS n l d r p s ks k os m t ds es ls fs rs nF nR = -1 := by unfold MS; rw [h0]; rfl
    rw [E]
    clear E
    have R0 := (Room.new w [.int .i64 n, .int .i64 l, .int .i64 d, .int .i64 r, .int .i64 p, .int .i64 s, .slice (some ⟨b, off, none⟩) k cK, .slice aO m cO, .int .i64 t] 31).alloc (.cells #[.slice aD nD cD, .slice aE nE cE, .slice aL nL cL, .slice aF nF cF, .slice aR nR cR] 37)
    have RT : Room ((w.alloc (.cells #[.int .i64 n, .int .i64 l, .int .i64 d, .int .i64 r, .int .i64 p, .int .i64 s, .slice (some ⟨b, off, none⟩) k cK, .slice aO m cO, .int .i64 t] 31)).alloc (.cells #[.slice aD nD cD, .slice aE nE cE, .slice aL nL cL, .slice aF nF cF, .slice aR nR cR] 37)) (w.heap.size + 1) [.slice aD nD cD, .slice aE nE cE, .slice aL nL cL, .slice aF nF cF, .slice aR nR cR] := Room.at _ [.slice aD nD cD, .slice aE nE cE, .slice aL nL cL, .slice aF nF cF, .slice aR nR cR] 37 _ (by simp)
    have BB := ((Below.refl w.heap.size w).alloc (Nat.le_refl _) (.cells #[.int .i64 n, .int .i64 l, .int .i64 d, .int .i64 r, .int .i64 p, .int .i64 s, .slice (some ⟨b, off, none⟩) k cK, .slice aO m cO, .int .i64 t] 31)).alloc (by simp) (.cells #[.slice aD nD cD, .slice aE nE cE, .slice aL nL cL, .slice aF nF cF, .slice aR nR cR] 37)
    go_enter Try.func17, Try.ntmps17
    go_wp2_with fail
    refine (i_TurnOk n l d r p s t b off k cK _ m cO _ _ _ _ _ nD cD nE cE nL cL nF cF nR cR ks os ds es ls fs rs _ hz (fun j hj => by rw [BB.cell (p := ⟨b, off + j, none⟩) hb]; exact hc j hj) (Nat.lt_of_lt_of_le hb BB.size) ((rO.later BB (Nat.le_refl _)).more BB.size) ((rD.later BB (Nat.le_refl _)).more BB.size) ((rE.later BB (Nat.le_refl _)).more BB.size) ((rL.later BB (Nat.le_refl _)).more BB.size) ((rF.later BB (Nat.le_refl _)).more BB.size) ((rR.later BB (Nat.le_refl _)).more BB.size) hk hm hnD hnE hnL htE htL hnF hnR).mono ?_
    rintro e w2 ⟨rfl, b2⟩
    rw [h0]
    go_wp2
    go_ret
    exact ⟨rfl, BB.trans (b2.mono BB.size)⟩
  | true =>
    have E : MS n l d r p s ks k os m t ds es ls fs rs nF nR = Sr.SO (OB (FK ks fs) k (OP os ds k)) (OB (FK ks fs) k (OP os ds k)).length := by unfold MS; rw [if_pos h0]
    rw [E]
    clear E
    have H0 : Hid (TO n l d r p s ks k os m t ds es ls fs rs nF nR = true) := h0
    have R0 := (Room.new w [.int .i64 n, .int .i64 l, .int .i64 d, .int .i64 r, .int .i64 p, .int .i64 s, .slice (some ⟨b, off, none⟩) k cK, .slice aO m cO, .int .i64 t] 31).alloc (.cells #[.slice aD nD cD, .slice aE nE cE, .slice aL nL cL, .slice aF nF cF, .slice aR nR cR] 37)
    have RT : Room ((w.alloc (.cells #[.int .i64 n, .int .i64 l, .int .i64 d, .int .i64 r, .int .i64 p, .int .i64 s, .slice (some ⟨b, off, none⟩) k cK, .slice aO m cO, .int .i64 t] 31)).alloc (.cells #[.slice aD nD cD, .slice aE nE cE, .slice aL nL cL, .slice aF nF cF, .slice aR nR cR] 37)) (w.heap.size + 1) [.slice aD nD cD, .slice aE nE cE, .slice aL nL cL, .slice aF nF cF, .slice aR nR cR] := Room.at _ [.slice aD nD cD, .slice aE nE cE, .slice aL nL cL, .slice aF nF cF, .slice aR nR cR] 37 _ (by simp)
    have BB := ((Below.refl w.heap.size w).alloc (Nat.le_refl _) (.cells #[.int .i64 n, .int .i64 l, .int .i64 d, .int .i64 r, .int .i64 p, .int .i64 s, .slice (some ⟨b, off, none⟩) k cK, .slice aO m cO, .int .i64 t] 31)).alloc (by simp) (.cells #[.slice aD nD cD, .slice aE nE cE, .slice aL nL cL, .slice aF nF cF, .slice aR nR cR] 37)
    go_enter Try.func17, Try.ntmps17
    go_wp2_with fail
    refine (i_TurnOk n l d r p s t b off k cK _ m cO _ _ _ _ _ nD cD nE cE nL cL nF cF nR cR ks os ds es ls fs rs _ hz (fun j hj => by rw [BB.cell (p := ⟨b, off + j, none⟩) hb]; exact hc j hj) (Nat.lt_of_lt_of_le hb BB.size) ((rO.later BB (Nat.le_refl _)).more BB.size) ((rD.later BB (Nat.le_refl _)).more BB.size) ((rE.later BB (Nat.le_refl _)).more BB.size) ((rL.later BB (Nat.le_refl _)).more BB.size) ((rF.later BB (Nat.le_refl _)).more BB.size) ((rR.later BB (Nat.le_refl _)).more BB.size) hk hm hnD hnE hnL htE htL hnF hnR).mono ?_
    rintro e w2 ⟨rfl, b2⟩
    rw [h0]
    obtain ⟨hW, eF, eR, h1, h2, h3⟩ := to_facts h0
    obtain ⟨en, em, k0, hO⟩ := wo_more hW
    obtain ⟨⟨d0, d1⟩, ⟨e0, e1⟩, k16⟩ := wo_bounds hW
    have ⟨zD, hD⟩ := r1_facts h1
    obtain rfl : k = nF := eF.symm
    obtain rfl : k = nR := eR.symm
    obtain rfl : k = m := em.symm
    obtain rfl : (k : Int) = n := en.symm
    obtain rfl : k = nD := by rw [← rD.1]; exact zD.symm
    rcases id rO with ⟨zO, rO2 | ⟨bo, oo, rfl, hBo, hco⟩⟩
    · omega
    have HO : Hid (∀ j, j < k → -1000000000000000 ≤ el os j ∧ el os j ≤ 1000000000000000) := hO
    have HD : Hid (∀ j, j < k → -1000000 ≤ el ds j ∧ el ds j ≤ 1000000) := fun j hj => by have := hD j hj; omega
    clear hO hD hW h1 h2 h3
    have hL : (Wl.up (FK ks fs) k).length ≤ 1048576 := by have := Wl.up_len (FK ks fs) k; omega
    replace R0 := R0.below b2
    replace RT := RT.below b2
    replace BB := BB.trans (b2.mono BB.size)
    clear b2 h0
    have c0 := R0.cell 0 rfl
    have c1 := R0.cell 1 rfl
    have c2 := R0.cell 2 rfl
    have c3 := R0.cell 3 rfl
    have c4 := R0.cell 4 rfl
    have c5 := R0.cell 5 rfl
    have c6 := R0.cell 6 rfl
    have c7 := R0.cell 7 rfl
    have c8 := R0.cell 8 rfl
    have y0 := RT.cell 0 rfl
    have y1 := RT.cell 1 rfl
    have y2 := RT.cell 2 rfl
    have y3 := RT.cell 3 rfl
    have y4 := RT.cell 4 rfl
    go_wp2_with fail
    refine (middleWorld (k : Int) l d r p s t b off k cK bo oo cO _ _ cD cF _ _ _ ks os ds fs _ hz (fun j hj => by rw [BB.cell (p := ⟨b, off + j, none⟩) hb]; exact hc j hj) (Nat.lt_of_lt_of_le hb BB.size) zO (fun j hj => by rw [BB.cell (p := ⟨bo, oo + j, none⟩) hBo]; exact hco j hj) (Nat.lt_of_lt_of_le hBo BB.size) ((rD.later BB (Nat.le_refl _)).more BB.size) ((rF.later BB (Nat.le_refl _)).more BB.size) hk HO.out HD.out).mono ?_
    rintro e w3 ⟨⟨gK, cK2, gO, cO2, rfl, oK, oO, hKO⟩, b3⟩
    replace BB := BB.trans (b3.mono BB.size)
    clear c0 c1 c2 c3 c4 c5 c6 c7 c8
    clear y0 y1 y2 y3 y4
    clear R0 RT b3
    go_wp2_with fail
    refine (Wl.bareOffs (k : Int) l d r p s t _ _ k cK2 k cO2 (FK ks fs) (MO os ds) _ oK.has.row oO.has.row hk (Nat.le_refl _)).mono ?_
    rintro e w4 ⟨⟨g, ⟨c, rfl⟩, ho⟩, b4⟩
    rw [ob_mo zO] at ho ⊢
    have hZ : (OB (FK ks fs) k (OP os ds k)).length ≤ 1048576 := by rw [Wl.ob_len]; exact hL
    replace BB := BB.trans (b4.mono BB.size)
    clear b4 oK oO
    obtain ⟨Z, EZ⟩ : ∃ Z, Hid (OB (FK ks fs) k (OP os ds k) = Z) := ⟨_, rfl⟩
    rw [EZ.out] at ho hZ ⊢
    go_wp2_with fail
    refine (Sr.i_SpreadOf _ Z.length c Z _ ho.row hZ).mono ?_
    rintro e w5 ⟨rfl, b5⟩
    go_wp2
    go_ret
    exact ⟨by first | (rw [EZ.out]; done) | (rw [EZ.out]; rfl), BB.trans (b5.mono BB.size)⟩

set_option maxHeartbeats 8000000 in
set_option maxRecDepth 100000 in
theorem s_MiddleSkew (n l d r p s t : Int) (b off k cK : Nat) (aO : Option Addr) (m cO : Nat) (aD aE aL aF aR : Option Addr) (nD cD nE cE nL cL nF cF nR cR : Nat) (ks os ds : List Int) (es ls : List (List Int)) (fs rs : List Bool) (w : World) (hz : ks.length = k) (hc : ∀ j, j < k → w.cell? ⟨b, off + j, none⟩ = some (.int .i64 (el ks j))) (hb : b < w.heap.size) (rO : Row w w.heap.size aO m os) (rD : Row w w.heap.size aD nD ds) (rE : RowsAt w w.heap.size aE nE es) (rL : RowsAt w w.heap.size aL nL ls) (rF : Flags w w.heap.size aF nF fs) (rR : Flags w w.heap.size aR nR rs) (hk : k ≤ 1048576) (hm : m ≤ 1048576) (hnF : nF ≤ 1048576) (hnR : nR ≤ 1048576) :
    Calls Try.prog 48 #[wld n l d r p s (.slice (some ⟨b, off, none⟩) k cK) (.slice aO m cO) t, trn (.slice aD nD cD) (.slice aE nE cE) (.slice aL nL cL) (.slice aF nF cF) (.slice aR nR cR)] w fun e w' => e = .returned (.int .i64 (MS n l d r p s ks k os m t ds es ls fs rs nF nR)) ∧ Below w.heap.size w w' := by
  cases h0 : TO n l d r p s ks k os m t ds es ls fs rs nF nR with
  | false =>
    have E : MS n l d r p s ks k os m t ds es ls fs rs nF nR = -1 := by unfold MS; rw [h0]; rfl
    rw [E]
    clear E
    have R0 := (Room.new w [.int .i64 n, .int .i64 l, .int .i64 d, .int .i64 r, .int .i64 p, .int .i64 s, .slice (some ⟨b, off, none⟩) k cK, .slice aO m cO, .int .i64 t] 31).alloc (.cells #[.slice aD nD cD, .slice aE nE cE, .slice aL nL cL, .slice aF nF cF, .slice aR nR cR] 37)
    have RT : Room ((w.alloc (.cells #[.int .i64 n, .int .i64 l, .int .i64 d, .int .i64 r, .int .i64 p, .int .i64 s, .slice (some ⟨b, off, none⟩) k cK, .slice aO m cO, .int .i64 t] 31)).alloc (.cells #[.slice aD nD cD, .slice aE nE cE, .slice aL nL cL, .slice aF nF cF, .slice aR nR cR] 37)) (w.heap.size + 1) [.slice aD nD cD, .slice aE nE cE, .slice aL nL cL, .slice aF nF cF, .slice aR nR cR] := Room.at _ [.slice aD nD cD, .slice aE nE cE, .slice aL nL cL, .slice aF nF cF, .slice aR nR cR] 37 _ (by simp)
    have BB := ((Below.refl w.heap.size w).alloc (Nat.le_refl _) (.cells #[.int .i64 n, .int .i64 l, .int .i64 d, .int .i64 r, .int .i64 p, .int .i64 s, .slice (some ⟨b, off, none⟩) k cK, .slice aO m cO, .int .i64 t] 31)).alloc (by simp) (.cells #[.slice aD nD cD, .slice aE nE cE, .slice aL nL cL, .slice aF nF cF, .slice aR nR cR] 37)
    go_enter Try.func48, Try.ntmps48
    go_wp2_with fail
    refine (s_TurnOk n l d r p s t b off k cK _ m cO _ _ _ _ _ nD cD nE cE nL cL nF cF nR cR ks os ds es ls fs rs _ hz (fun j hj => by rw [BB.cell (p := ⟨b, off + j, none⟩) hb]; exact hc j hj) (Nat.lt_of_lt_of_le hb BB.size) ((rO.later BB (Nat.le_refl _)).more BB.size) ((rD.later BB (Nat.le_refl _)).more BB.size) ((rE.later BB (Nat.le_refl _)).more BB.size) ((rL.later BB (Nat.le_refl _)).more BB.size) ((rF.later BB (Nat.le_refl _)).more BB.size) ((rR.later BB (Nat.le_refl _)).more BB.size) hk hm hnF hnR).mono ?_
    rintro e w2 ⟨rfl, b2⟩
    rw [h0]
    go_wp2
    go_ret
    exact ⟨rfl, BB.trans (b2.mono BB.size)⟩
  | true =>
    have E : MS n l d r p s ks k os m t ds es ls fs rs nF nR = Sr.SO (OB (FK ks fs) k (OP os ds k)) (OB (FK ks fs) k (OP os ds k)).length := by unfold MS; rw [if_pos h0]
    rw [E]
    clear E
    have H0 : Hid (TO n l d r p s ks k os m t ds es ls fs rs nF nR = true) := h0
    have R0 := (Room.new w [.int .i64 n, .int .i64 l, .int .i64 d, .int .i64 r, .int .i64 p, .int .i64 s, .slice (some ⟨b, off, none⟩) k cK, .slice aO m cO, .int .i64 t] 31).alloc (.cells #[.slice aD nD cD, .slice aE nE cE, .slice aL nL cL, .slice aF nF cF, .slice aR nR cR] 37)
    have RT : Room ((w.alloc (.cells #[.int .i64 n, .int .i64 l, .int .i64 d, .int .i64 r, .int .i64 p, .int .i64 s, .slice (some ⟨b, off, none⟩) k cK, .slice aO m cO, .int .i64 t] 31)).alloc (.cells #[.slice aD nD cD, .slice aE nE cE, .slice aL nL cL, .slice aF nF cF, .slice aR nR cR] 37)) (w.heap.size + 1) [.slice aD nD cD, .slice aE nE cE, .slice aL nL cL, .slice aF nF cF, .slice aR nR cR] := Room.at _ [.slice aD nD cD, .slice aE nE cE, .slice aL nL cL, .slice aF nF cF, .slice aR nR cR] 37 _ (by simp)
    have BB := ((Below.refl w.heap.size w).alloc (Nat.le_refl _) (.cells #[.int .i64 n, .int .i64 l, .int .i64 d, .int .i64 r, .int .i64 p, .int .i64 s, .slice (some ⟨b, off, none⟩) k cK, .slice aO m cO, .int .i64 t] 31)).alloc (by simp) (.cells #[.slice aD nD cD, .slice aE nE cE, .slice aL nL cL, .slice aF nF cF, .slice aR nR cR] 37)
    go_enter Try.func48, Try.ntmps48
    go_wp2_with fail
    refine (s_TurnOk n l d r p s t b off k cK _ m cO _ _ _ _ _ nD cD nE cE nL cL nF cF nR cR ks os ds es ls fs rs _ hz (fun j hj => by rw [BB.cell (p := ⟨b, off + j, none⟩) hb]; exact hc j hj) (Nat.lt_of_lt_of_le hb BB.size) ((rO.later BB (Nat.le_refl _)).more BB.size) ((rD.later BB (Nat.le_refl _)).more BB.size) ((rE.later BB (Nat.le_refl _)).more BB.size) ((rL.later BB (Nat.le_refl _)).more BB.size) ((rF.later BB (Nat.le_refl _)).more BB.size) ((rR.later BB (Nat.le_refl _)).more BB.size) hk hm hnF hnR).mono ?_
    rintro e w2 ⟨rfl, b2⟩
    rw [h0]
    obtain ⟨hW, eF, eR, h1, h2, h3⟩ := to_facts h0
    obtain ⟨en, em, k0, hO⟩ := wo_more hW
    obtain ⟨⟨d0, d1⟩, ⟨e0, e1⟩, k16⟩ := wo_bounds hW
    have ⟨zD, hD⟩ := r1_facts h1
    obtain rfl : k = nF := eF.symm
    obtain rfl : k = nR := eR.symm
    obtain rfl : k = m := em.symm
    obtain rfl : (k : Int) = n := en.symm
    obtain rfl : k = nD := by rw [← rD.1]; exact zD.symm
    rcases id rO with ⟨zO, rO2 | ⟨bo, oo, rfl, hBo, hco⟩⟩
    · omega
    have HO : Hid (∀ j, j < k → -1000000000000000 ≤ el os j ∧ el os j ≤ 1000000000000000) := hO
    have HD : Hid (∀ j, j < k → -1000000 ≤ el ds j ∧ el ds j ≤ 1000000) := fun j hj => by have := hD j hj; omega
    clear hO hD hW h1 h2 h3
    have hL : (Wl.up (FK ks fs) k).length ≤ 1048576 := by have := Wl.up_len (FK ks fs) k; omega
    replace R0 := R0.below b2
    replace RT := RT.below b2
    replace BB := BB.trans (b2.mono BB.size)
    clear b2 h0
    have c0 := R0.cell 0 rfl
    have c1 := R0.cell 1 rfl
    have c2 := R0.cell 2 rfl
    have c3 := R0.cell 3 rfl
    have c4 := R0.cell 4 rfl
    have c5 := R0.cell 5 rfl
    have c6 := R0.cell 6 rfl
    have c7 := R0.cell 7 rfl
    have c8 := R0.cell 8 rfl
    have y0 := RT.cell 0 rfl
    have y1 := RT.cell 1 rfl
    have y2 := RT.cell 2 rfl
    have y3 := RT.cell 3 rfl
    have y4 := RT.cell 4 rfl
    go_wp2_with fail
    refine (l6Fallen (k : Int) l d r p s t b off k cK _ _ _ _ _ _ cF ks fs _ hz (fun j hj => by rw [BB.cell (p := ⟨b, off + j, none⟩) hb]; exact hc j hj) (Nat.lt_of_lt_of_le hb BB.size) ((rF.later BB (Nat.le_refl _)).more BB.size) hk).mono ?_
    rintro e w3 ⟨⟨gK, cK2, rfl, oK⟩, b3⟩
    clear c0 c1 c2 c3 c4 c5 c6 c7 c8
    clear y0 y1 y2 y3 y4
    replace R0 := R0.below b3
    replace RT := RT.below b3
    replace BB := BB.trans (b3.mono BB.size)
    clear b3
    go_wp2_with fail
    refine (Wl.l5Up _ k cK2 (FK ks fs) _ oK.has.row hk).mono ?_
    rintro e w4 ⟨⟨gU, cU, rfl, oU⟩, b4⟩
    replace R0 := R0.below b4
    replace RT := RT.below b4
    replace BB := BB.trans (b4.mono BB.size)
    clear b4 oK
    have c0 := R0.cell 0 rfl
    have c1 := R0.cell 1 rfl
    have c2 := R0.cell 2 rfl
    have c3 := R0.cell 3 rfl
    have c4 := R0.cell 4 rfl
    have c5 := R0.cell 5 rfl
    have c6 := R0.cell 6 rfl
    have c7 := R0.cell 7 rfl
    have c8 := R0.cell 8 rfl
    have y0 := RT.cell 0 rfl
    have y1 := RT.cell 1 rfl
    have y2 := RT.cell 2 rfl
    have y3 := RT.cell 3 rfl
    have y4 := RT.cell 4 rfl
    go_wp2_with fail
    rcases id rD with ⟨zD2, rD2 | ⟨bd, od, rfl, hBd, hcd⟩⟩
    · omega
    refine (l6Offs (k : Int) l d r p s t _ bo oo k cO bd od cD _ _ _ _ os ds _ (fun j hj => by rw [BB.cell (p := ⟨bo, oo + j, none⟩) hBo]; exact hco j hj) (Nat.lt_of_lt_of_le hBo BB.size) (fun j hj => by rw [BB.cell (p := ⟨bd, od + j, none⟩) hBd]; exact hcd j hj) (Nat.lt_of_lt_of_le hBd BB.size) hk HO HD).mono ?_
    rintro e w5 ⟨⟨gP, cP, rfl, oP⟩, b5⟩
    clear c0 c1 c2 c3 c4 c5 c6 c7 c8
    clear y0 y1 y2 y3 y4
    replace oU := oU.later b5 oU.lt
    replace BB := BB.trans (b5.mono BB.size)
    clear R0 RT b5
    have uU := oU.lt
    have uP := oP.lt
    obtain ⟨i0, hi0, hz0, hz1, hz2⟩ := info_parts Ls.info
    have HA : Hid (∀ j, j < (Wl.up (FK ks fs) k).length → ∃ i : Nat, el (Wl.up (FK ks fs) k) j = i ∧ i < k ∧ el (OB (FK ks fs) k (OP os ds k)) j = el (OP os ds k) i) := fun j hj => Wl.ob_at hj
    have HL : Hid ((OB (FK ks fs) k (OP os ds k)).length = (Wl.up (FK ks fs) k).length) := Wl.ob_len _ _ _
    obtain ⟨O, EO⟩ : ∃ O, Hid (OB (FK ks fs) k (OP os ds k) = O) := ⟨_, rfl⟩
    rw [EO.out] at HA HL
    generalize Wl.up (FK ks fs) k = U at hL HA HL oU ⊢
    obtain ⟨P, EP⟩ : ∃ P, Hid (OP os ds k = P) := ⟨_, rfl⟩
    rw [EP.out] at HA oP
    generalize hLL : U.length = L at hL HA HL oU ⊢
    have HU : Hid (Own w5 _ gU L cU U) := oU
    have HP : Hid (Own w5 _ gP k cP P) := oP
    clear oU oP
    go_wp2_with fail
    go_loopw [7, 8] (fun v q wr => ∃ (j g c : Nat), j ≤ L ∧ q = .int .i64 (j : Int) ∧ v = .slice (some ⟨g, 0, none⟩) j c ∧ Hid (Own wr w5.heap.size g j c (O.take j)) ∧ Below w5.heap.size w5 wr) (fun _ q _ => L - (intOf q).toNat)
    case atStart => exact ⟨0, _, _, Nat.zero_le _, rfl, rfl, Ow.own_made w5 _ _ rfl (Nat.le_refl _), (Below.refl _ _).alloc (Nat.le_refl _) _⟩
    case round =>
      obtain ⟨j, g, c, hj, rfl, rfl, HO2, hb2⟩ := hrel
      have hsz := hb2.size
      have hgB := HO2.out.data.2.1
      by_cases hlt : j < L
      · have hi : (j : Int) < L := by omega
        obtain ⟨i, e1, e2, e3⟩ := HA.out j hlt
        have hcU := (HU.out.cell j hlt).1
        rw [e1, ← hb2.cell (p := ⟨gU, j, none⟩) uU] at hcU
        have hi2 : (i : Int) < k := by omega
        have hcP := (HP.out.cell i e2).1
        rw [← hb2.cell (p := ⟨gP, i, none⟩) uP] at hcP
        have E : Hid (O.take (j + 1) = O.take j ++ [el P i]) := by unfold Hid; rw [Ow.take_el O j (by have := HL.out; omega), e3]
        clear e1 e3
        go_wp2_with (at_builtin; refine wpList_append_own _ rfl (.tmp 27) (.tmp 35) 29 rfl w5.heap.size 2 i0 (.int .i64 0) 1 8 Try.underlying29 hi0 hz0 hz1 hz2 rfl (by decide) _ _ _ rfl (World.ownsRow.alloc (w := wr) HO2.out _) ⟨wr.heap.size, 0, none⟩ 1 1 (ints [el P i]) rfl rfl (Ow.one_new wr (el P i) _ _ rfl) (Ow.one _) (by unfold maxLen; omega) (by omega) (by simp; omega) ?_; intro v2 w6 hx2 hg2 hn2)
        obtain ⟨g2, c2, rfl, ho2⟩ := Ow.more hx2 (Ow.no_nil hn2 rfl)
        have hb3 : Below w5.heap.size w5 w6 := (hb2.alloc hsz _).grown hg2 (by simp; omega) (by intro x hx; cases hx; exact hgB)
        clear hx2 hg2 hn2 HO2
        go_wp2_with fail
        go_roundw
        case rel => exact ⟨j + 1, g2, c2, by omega, by go_num, rfl, by rw [E.out]; exact ho2, hb3⟩
        case measure => simp [intOf]; omega
      · have hi : ¬ (j : Int) < L := by omega
        have e : j = L := by omega
        subst e
        have HF : Hid (Has wr w5.heap.size g 0 j O) := by
          have q := HO2.out.has
          rw [List.take_of_length_le (by have := HL.out; omega)] at q
          exact q
        have HLL : Hid (O.length = j) := HL.out
        go_wp2_with fail
        refine (Sr.s_SpreadOf _ j c O _ HF.out.row (by omega)).mono ?_
        rintro e w7 ⟨rfl, b7⟩
        go_wp2
        go_ret
        exact ⟨by first | (rw [EO.out, HLL.out]; done) | (rw [EO.out, HLL.out]; rfl), BB.trans ((hb2.trans (b7.mono hsz)).mono BB.size)⟩

end Go.Proofs.Ytloicicgcdfgnaa.Tu
