/-
  spec.Turned, where the world or the turn is not right.
-/
import Derived.Test.YtnocmfhlmpgbmaaGreatTpc
import Derived.Deep.RegionHeld3
namespace Go.Proofs.YtnocmfhlmpgbmaaGreat.Tu
open Go.ChangeShapes Go.WideShapes Go.ChangeAt Go.RowKit
open Ls (el Row)
open Ow (Has ints)
open Rd (Flags)
open Bo (eb HasB)
open Rm (Room)
open Wl (wld c9 WO bad allIn)
open Ss (RowsAt ln rw_ tot)
open Tr (MV TT)
set_option linter.unusedVariables false
set_option linter.unusedSimpArgs false

set_option maxHeartbeats 8000000 in
set_option maxRecDepth 100000 in
theorem st_a (n l d r p s t : Int) (b off k cK : Nat) (aO : Option Addr) (m cO : Nat) (aD aE aL aF aR : Option Addr) (nD cD nE cE nL cL nF cF nR cR : Nat) (ks os ds : List Int) (es ls : List (List Int)) (fs rs : List Bool) (w : World) (hz : ks.length = k) (hc : ∀ j, j < k → w.cell? ⟨b, off + j, none⟩ = some (.int .i64 (el ks j))) (hb : b < w.heap.size) (rO : Row w w.heap.size aO m os) (rD : Row w w.heap.size aD nD ds) (rE : RowsAt w w.heap.size aE nE es) (rL : RowsAt w w.heap.size aL nL ls) (rF : Flags w w.heap.size aF nF fs) (rR : Flags w w.heap.size aR nR rs) (hk : k ≤ 1048576) (hm : m ≤ 1048576) (hnF : nF ≤ 1048576) (hnR : nR ≤ 1048576) (h0 : Hid (WO n l d r p s ks k os m t = false)) :
    Calls Tryz.prog 8 #[wld n l d r p s (.slice (some ⟨b, off, none⟩) k cK) (.slice aO m cO) t, trn (.slice aD nD cD) (.slice aE nE cE) (.slice aL nL cL) (.slice aF nF cF) (.slice aR nR cR)] w fun e w' => e = .returned (.tuple #[.agg #[.int .i64 0, .int .i64 0, .int .i64 0, .int .i64 0, .int .i64 0, .int .i64 0, .slice none 0 0, .slice none 0 0, .int .i64 0], .bool false]) ∧ Below w.heap.size w w' := by
  have R0 : Room (((w.alloc (.cells #[.int .i64 n, .int .i64 l, .int .i64 d, .int .i64 r, .int .i64 p, .int .i64 s, .slice (some ⟨b, off, none⟩) k cK, .slice aO m cO, .int .i64 t] 28)).alloc (.cells #[.slice aD nD cD, .slice aE nE cE, .slice aL nL cL, .slice aF nF cF, .slice aR nR cR] 32)).alloc (.cells #[.int .i64 0, .int .i64 0, .int .i64 0, .int .i64 0, .int .i64 0, .int .i64 0, .slice none 0 0, .slice none 0 0, .int .i64 0] 28)) w.heap.size [.int .i64 n, .int .i64 l, .int .i64 d, .int .i64 r, .int .i64 p, .int .i64 s, .slice (some ⟨b, off, none⟩) k cK, .slice aO m cO, .int .i64 t] := ((Room.new w [.int .i64 n, .int .i64 l, .int .i64 d, .int .i64 r, .int .i64 p, .int .i64 s, .slice (some ⟨b, off, none⟩) k cK, .slice aO m cO, .int .i64 t] 28).alloc _).alloc _
  have RT : Room (((w.alloc (.cells #[.int .i64 n, .int .i64 l, .int .i64 d, .int .i64 r, .int .i64 p, .int .i64 s, .slice (some ⟨b, off, none⟩) k cK, .slice aO m cO, .int .i64 t] 28)).alloc (.cells #[.slice aD nD cD, .slice aE nE cE, .slice aL nL cL, .slice aF nF cF, .slice aR nR cR] 32)).alloc (.cells #[.int .i64 0, .int .i64 0, .int .i64 0, .int .i64 0, .int .i64 0, .int .i64 0, .slice none 0 0, .slice none 0 0, .int .i64 0] 28)) (w.heap.size + 1) [.slice aD nD cD, .slice aE nE cE, .slice aL nL cL, .slice aF nF cF, .slice aR nR cR] := (Room.at (w.alloc (.cells #[.int .i64 n, .int .i64 l, .int .i64 d, .int .i64 r, .int .i64 p, .int .i64 s, .slice (some ⟨b, off, none⟩) k cK, .slice aO m cO, .int .i64 t] 28)) [.slice aD nD cD, .slice aE nE cE, .slice aL nL cL, .slice aF nF cF, .slice aR nR cR] 32 _ (by simp)).alloc _
  have RQ : Room (((w.alloc (.cells #[.int .i64 n, .int .i64 l, .int .i64 d, .int .i64 r, .int .i64 p, .int .i64 s, .slice (some ⟨b, off, none⟩) k cK, .slice aO m cO, .int .i64 t] 28)).alloc (.cells #[.slice aD nD cD, .slice aE nE cE, .slice aL nL cL, .slice aF nF cF, .slice aR nR cR] 32)).alloc (.cells #[.int .i64 0, .int .i64 0, .int .i64 0, .int .i64 0, .int .i64 0, .int .i64 0, .slice none 0 0, .slice none 0 0, .int .i64 0] 28)) (w.heap.size + 1 + 1) [.int .i64 0, .int .i64 0, .int .i64 0, .int .i64 0, .int .i64 0, .int .i64 0, .slice none 0 0, .slice none 0 0, .int .i64 0] := Room.at ((w.alloc (.cells #[.int .i64 n, .int .i64 l, .int .i64 d, .int .i64 r, .int .i64 p, .int .i64 s, .slice (some ⟨b, off, none⟩) k cK, .slice aO m cO, .int .i64 t] 28)).alloc (.cells #[.slice aD nD cD, .slice aE nE cE, .slice aL nL cL, .slice aF nF cF, .slice aR nR cR] 32)) [.int .i64 0, .int .i64 0, .int .i64 0, .int .i64 0, .int .i64 0, .int .i64 0, .slice none 0 0, .slice none 0 0, .int .i64 0] 28 _ (by simp)
  have BB := (((Below.refl w.heap.size w).alloc (Nat.le_refl _) (.cells #[.int .i64 n, .int .i64 l, .int .i64 d, .int .i64 r, .int .i64 p, .int .i64 s, .slice (some ⟨b, off, none⟩) k cK, .slice aO m cO, .int .i64 t] 28)).alloc (by simp) (.cells #[.slice aD nD cD, .slice aE nE cE, .slice aL nL cL, .slice aF nF cF, .slice aR nR cR] 32)).alloc (by simp; omega) (.cells #[.int .i64 0, .int .i64 0, .int .i64 0, .int .i64 0, .int .i64 0, .int .i64 0, .slice none 0 0, .slice none 0 0, .int .i64 0] 28)
  go_enter Tryz.func8, Tryz.ntmps8
  go_wp2_with fail
  refine (Wl.s_WorldOk n l d r p s t _ _ k cK m cO ks os _ ⟨hz, .inr ⟨b, off, rfl, (Nat.lt_of_lt_of_le hb BB.size), (fun j hj => by rw [BB.cell (p := ⟨b, off + j, none⟩) hb]; exact hc j hj)⟩⟩ ((rO.later BB (Nat.le_refl _)).more BB.size) hk hm).mono ?_
  rintro e w2 ⟨rfl, b2⟩
  rw [h0.out]
  have z_b2 := b2.size
  (try simp at z_b2)
  replace R0 := R0.below b2
  replace RT := RT.below b2
  replace RQ := RQ.below b2
  replace BB := BB.trans (b2.mono BB.size)
  have d0 := RQ.cell 0 rfl
  have d1 := RQ.cell 1 rfl
  have d2 := RQ.cell 2 rfl
  have d3 := RQ.cell 3 rfl
  have d4 := RQ.cell 4 rfl
  have d5 := RQ.cell 5 rfl
  have d6 := RQ.cell 6 rfl
  have d7 := RQ.cell 7 rfl
  have d8 := RQ.cell 8 rfl
  have g0 := RQ.froz 0 rfl
  have g1 := RQ.froz 1 rfl
  have g2 := RQ.froz 2 rfl
  have g3 := RQ.froz 3 rfl
  have g4 := RQ.froz 4 rfl
  have g5 := RQ.froz 5 rfl
  have g6 := RQ.froz 6 rfl
  have g7 := RQ.froz 7 rfl
  have g8 := RQ.froz 8 rfl
  go_wp2
  replace RQ := Rm.over9 RQ (.int .i64 0) (.int .i64 0) (.int .i64 0) (.int .i64 0) (.int .i64 0) (.int .i64 0) (.slice none 0 0) (.slice none 0 0) (.int .i64 0)
  replace BB := below_over9 BB (g := w.heap.size + 1 + 1) (by omega) (.int .i64 0) (.int .i64 0) (.int .i64 0) (.int .i64 0) (.int .i64 0) (.int .i64 0) (.slice none 0 0) (.slice none 0 0) (.int .i64 0)
  refine bodyPost_ret (v := .tuple #[.agg #[.int .i64 0, .int .i64 0, .int .i64 0, .int .i64 0, .int .i64 0, .int .i64 0, .slice none 0 0, .slice none 0 0, .int .i64 0], .bool false]) (retWB Tryz.results8 rfl rfl RQ) rfl ⟨rfl, BB⟩

set_option maxHeartbeats 8000000 in
set_option maxRecDepth 100000 in
theorem st_b (l d r p s t : Int) (b off k cK bo oo cO : Nat) (aD aE aL aF aR : Option Addr) (nD cD nE cE nL cL nF cF nR cR : Nat) (ks os ds : List Int) (es ls : List (List Int)) (fs rs : List Bool) (w : World) (hz : ks.length = k) (hc : ∀ j, j < k → w.cell? ⟨b, off + j, none⟩ = some (.int .i64 (el ks j))) (hb : b < w.heap.size) (hzo : os.length = k) (hco : ∀ j, j < k → w.cell? ⟨bo, oo + j, none⟩ = some (.int .i64 (el os j))) (hbo : bo < w.heap.size) (rD : Row w w.heap.size aD nD ds) (rE : RowsAt w w.heap.size aE nE es) (rL : RowsAt w w.heap.size aL nL ls) (rF : Flags w w.heap.size aF nF fs) (rR : Flags w w.heap.size aR nR rs) (hk : k ≤ 1048576) (hnF : nF ≤ 1048576) (hnR : nR ≤ 1048576) (h0 : Hid (WO (k : Int) l d r p s ks k os k t = true)) (h1 : Hid (TO (k : Int) l d r p s ks k os k t ds es ls fs rs nF nR = false)) :
    Calls Tryz.prog 8 #[.agg #[.int .i64 (k : Int), .int .i64 l, .int .i64 d, .int .i64 r, .int .i64 p, .int .i64 s, .slice (some ⟨b, off, none⟩) k cK, .slice (some ⟨bo, oo, none⟩) k cO, .int .i64 t], .agg #[.slice aD nD cD, .slice aE nE cE, .slice aL nL cL, .slice aF nF cF, .slice aR nR cR]] w fun e w' => (∃ gK cK2 gO cO2, e = .returned (.tuple #[wld (k : Int) l d r p s (.slice (some ⟨gK, 0, none⟩) k cK2) (.slice (some ⟨gO, 0, none⟩) k cO2) t, .bool false]) ∧ Ow.Own w' w.heap.size gK k cK2 ks ∧ Ow.Own w' w.heap.size gO k cO2 os ∧ gK ≠ gO) ∧ Below w.heap.size w w' := by
  have R0 : Room (((w.alloc (.cells #[.int .i64 (k : Int), .int .i64 l, .int .i64 d, .int .i64 r, .int .i64 p, .int .i64 s, .slice (some ⟨b, off, none⟩) k cK, .slice (some ⟨bo, oo, none⟩) k cO, .int .i64 t] 28)).alloc (.cells #[.slice aD nD cD, .slice aE nE cE, .slice aL nL cL, .slice aF nF cF, .slice aR nR cR] 32)).alloc (.cells #[.int .i64 0, .int .i64 0, .int .i64 0, .int .i64 0, .int .i64 0, .int .i64 0, .slice none 0 0, .slice none 0 0, .int .i64 0] 28)) w.heap.size [.int .i64 (k : Int), .int .i64 l, .int .i64 d, .int .i64 r, .int .i64 p, .int .i64 s, .slice (some ⟨b, off, none⟩) k cK, .slice (some ⟨bo, oo, none⟩) k cO, .int .i64 t] := ((Room.new w [.int .i64 (k : Int), .int .i64 l, .int .i64 d, .int .i64 r, .int .i64 p, .int .i64 s, .slice (some ⟨b, off, none⟩) k cK, .slice (some ⟨bo, oo, none⟩) k cO, .int .i64 t] 28).alloc _).alloc _
  have RT : Room (((w.alloc (.cells #[.int .i64 (k : Int), .int .i64 l, .int .i64 d, .int .i64 r, .int .i64 p, .int .i64 s, .slice (some ⟨b, off, none⟩) k cK, .slice (some ⟨bo, oo, none⟩) k cO, .int .i64 t] 28)).alloc (.cells #[.slice aD nD cD, .slice aE nE cE, .slice aL nL cL, .slice aF nF cF, .slice aR nR cR] 32)).alloc (.cells #[.int .i64 0, .int .i64 0, .int .i64 0, .int .i64 0, .int .i64 0, .int .i64 0, .slice none 0 0, .slice none 0 0, .int .i64 0] 28)) (w.heap.size + 1) [.slice aD nD cD, .slice aE nE cE, .slice aL nL cL, .slice aF nF cF, .slice aR nR cR] := (Room.at (w.alloc (.cells #[.int .i64 (k : Int), .int .i64 l, .int .i64 d, .int .i64 r, .int .i64 p, .int .i64 s, .slice (some ⟨b, off, none⟩) k cK, .slice (some ⟨bo, oo, none⟩) k cO, .int .i64 t] 28)) [.slice aD nD cD, .slice aE nE cE, .slice aL nL cL, .slice aF nF cF, .slice aR nR cR] 32 _ (by simp)).alloc _
  have RQ : Room (((w.alloc (.cells #[.int .i64 (k : Int), .int .i64 l, .int .i64 d, .int .i64 r, .int .i64 p, .int .i64 s, .slice (some ⟨b, off, none⟩) k cK, .slice (some ⟨bo, oo, none⟩) k cO, .int .i64 t] 28)).alloc (.cells #[.slice aD nD cD, .slice aE nE cE, .slice aL nL cL, .slice aF nF cF, .slice aR nR cR] 32)).alloc (.cells #[.int .i64 0, .int .i64 0, .int .i64 0, .int .i64 0, .int .i64 0, .int .i64 0, .slice none 0 0, .slice none 0 0, .int .i64 0] 28)) (w.heap.size + 1 + 1) [.int .i64 0, .int .i64 0, .int .i64 0, .int .i64 0, .int .i64 0, .int .i64 0, .slice none 0 0, .slice none 0 0, .int .i64 0] := Room.at ((w.alloc (.cells #[.int .i64 (k : Int), .int .i64 l, .int .i64 d, .int .i64 r, .int .i64 p, .int .i64 s, .slice (some ⟨b, off, none⟩) k cK, .slice (some ⟨bo, oo, none⟩) k cO, .int .i64 t] 28)).alloc (.cells #[.slice aD nD cD, .slice aE nE cE, .slice aL nL cL, .slice aF nF cF, .slice aR nR cR] 32)) [.int .i64 0, .int .i64 0, .int .i64 0, .int .i64 0, .int .i64 0, .int .i64 0, .slice none 0 0, .slice none 0 0, .int .i64 0] 28 _ (by simp)
  have BB := (((Below.refl w.heap.size w).alloc (Nat.le_refl _) (.cells #[.int .i64 (k : Int), .int .i64 l, .int .i64 d, .int .i64 r, .int .i64 p, .int .i64 s, .slice (some ⟨b, off, none⟩) k cK, .slice (some ⟨bo, oo, none⟩) k cO, .int .i64 t] 28)).alloc (by simp) (.cells #[.slice aD nD cD, .slice aE nE cE, .slice aL nL cL, .slice aF nF cF, .slice aR nR cR] 32)).alloc (by simp; omega) (.cells #[.int .i64 0, .int .i64 0, .int .i64 0, .int .i64 0, .int .i64 0, .int .i64 0, .slice none 0 0, .slice none 0 0, .int .i64 0] 28)
  go_enter Tryz.func8, Tryz.ntmps8
  go_wp2_with fail
  refine (Wl.s_WorldOk (k : Int) l d r p s t _ _ k cK k cO ks os _ ⟨hz, .inr ⟨b, off, rfl, (Nat.lt_of_lt_of_le hb BB.size), (fun j hj => by rw [BB.cell (p := ⟨b, off + j, none⟩) hb]; exact hc j hj)⟩⟩ ⟨hzo, .inr ⟨bo, oo, rfl, (Nat.lt_of_lt_of_le hbo BB.size), (fun j hj => by rw [BB.cell (p := ⟨bo, oo + j, none⟩) hbo]; exact hco j hj)⟩⟩ hk hk).mono ?_
  rintro e w2 ⟨rfl, b2⟩
  rw [h0.out]
  have z_b2 := b2.size
  (try simp at z_b2)
  replace R0 := R0.below b2
  replace RT := RT.below b2
  replace RQ := RQ.below b2
  replace BB := BB.trans (b2.mono BB.size)
  have c0 := R0.cell 0 rfl
  have c1 := R0.cell 1 rfl
  have c2 := R0.cell 2 rfl
  have c3 := R0.cell 3 rfl
  have c4 := R0.cell 4 rfl
  have c5 := R0.cell 5 rfl
  have c6 := R0.cell 6 rfl
  have c7 := R0.cell 7 rfl
  have c8 := R0.cell 8 rfl
  have y0 := RT.cell 0 rfl
  have y1 := RT.cell 1 rfl
  have y2 := RT.cell 2 rfl
  have y3 := RT.cell 3 rfl
  have y4 := RT.cell 4 rfl
  go_wp2_with fail
  refine (s_TurnOk (k : Int) l d r p s t b off k cK _ k cO _ _ _ _ _ nD cD nE cE nL cL nF cF nR cR ks os ds es ls fs rs _ hz (fun j hj => by rw [BB.cell (p := ⟨b, off + j, none⟩) hb]; exact hc j hj) (Nat.lt_of_lt_of_le hb BB.size) ⟨hzo, .inr ⟨bo, oo, rfl, (Nat.lt_of_lt_of_le hbo BB.size), (fun j hj => by rw [BB.cell (p := ⟨bo, oo + j, none⟩) hbo]; exact hco j hj)⟩⟩ ((rD.later BB (Nat.le_refl _)).more BB.size) ((rE.later BB (Nat.le_refl _)).more BB.size) ((rL.later BB (Nat.le_refl _)).more BB.size) ((rF.later BB (Nat.le_refl _)).more BB.size) ((rR.later BB (Nat.le_refl _)).more BB.size) hk hk hnF hnR).mono ?_
  rintro e w3 ⟨rfl, b3⟩
  rw [h1.out]
  clear c0 c1 c2 c3 c4 c5 c6 c7 c8
  clear y0 y1 y2 y3 y4
  have z_b3 := b3.size
  (try simp at z_b3)
  replace R0 := R0.below b3
  replace RT := RT.below b3
  replace RQ := RQ.below b3
  replace BB := BB.trans (b3.mono BB.size)
  have c0 := R0.cell 0 rfl
  have c1 := R0.cell 1 rfl
  have c2 := R0.cell 2 rfl
  have c3 := R0.cell 3 rfl
  have c4 := R0.cell 4 rfl
  have c5 := R0.cell 5 rfl
  have c6 := R0.cell 6 rfl
  have c7 := R0.cell 7 rfl
  have c8 := R0.cell 8 rfl
  go_wp2_with fail
  refine (l5Copy (k : Int) l d r p s t b off k cK bo oo k cO ks os _ hz (fun j hj => by rw [BB.cell (p := ⟨b, off + j, none⟩) hb]; exact hc j hj) (Nat.lt_of_lt_of_le hb BB.size) hzo (fun j hj => by rw [BB.cell (p := ⟨bo, oo + j, none⟩) hbo]; exact hco j hj) (Nat.lt_of_lt_of_le hbo BB.size) hk hk).mono ?_
  rintro e w4 ⟨⟨gP, cP, gQ, cQ, rfl, oP, oQ, gPQ⟩, bP⟩
  clear c0 c1 c2 c3 c4 c5 c6 c7 c8
  have lQ0 := RQ.lt (by simp)
  have loP := oP.data.2.1
  have loQ := oQ.data.2.1
  (try simp at loP)
  (try simp at loQ)
  have z_bP := bP.size
  (try simp at z_bP)
  replace R0 := R0.below bP
  replace RT := RT.below bP
  replace RQ := RQ.below bP
  replace BB := BB.trans (bP.mono BB.size)
  replace oP := oP.mono (B' := w.heap.size) (by omega)
  replace oQ := oQ.mono (B' := w.heap.size) (by omega)
  have d0 := RQ.cell 0 rfl
  have d1 := RQ.cell 1 rfl
  have d2 := RQ.cell 2 rfl
  have d3 := RQ.cell 3 rfl
  have d4 := RQ.cell 4 rfl
  have d5 := RQ.cell 5 rfl
  have d6 := RQ.cell 6 rfl
  have d7 := RQ.cell 7 rfl
  have d8 := RQ.cell 8 rfl
  have g0 := RQ.froz 0 rfl
  have g1 := RQ.froz 1 rfl
  have g2 := RQ.froz 2 rfl
  have g3 := RQ.froz 3 rfl
  have g4 := RQ.froz 4 rfl
  have g5 := RQ.froz 5 rfl
  have g6 := RQ.froz 6 rfl
  have g7 := RQ.froz 7 rfl
  have g8 := RQ.froz 8 rfl
  go_wp2
  replace oP := own_over9 oP (g := w.heap.size + 1 + 1) (by omega) (.int .i64 (k : Int)) (.int .i64 l) (.int .i64 d) (.int .i64 r) (.int .i64 p) (.int .i64 s) (.slice (some ⟨gP, 0, none⟩) k cP) (.slice (some ⟨gQ, 0, none⟩) k cQ) (.int .i64 t)
  replace oQ := own_over9 oQ (g := w.heap.size + 1 + 1) (by omega) (.int .i64 (k : Int)) (.int .i64 l) (.int .i64 d) (.int .i64 r) (.int .i64 p) (.int .i64 s) (.slice (some ⟨gP, 0, none⟩) k cP) (.slice (some ⟨gQ, 0, none⟩) k cQ) (.int .i64 t)
  replace RQ := Rm.over9 RQ (.int .i64 (k : Int)) (.int .i64 l) (.int .i64 d) (.int .i64 r) (.int .i64 p) (.int .i64 s) (.slice (some ⟨gP, 0, none⟩) k cP) (.slice (some ⟨gQ, 0, none⟩) k cQ) (.int .i64 t)
  replace BB := below_over9 BB (g := w.heap.size + 1 + 1) (by omega) (.int .i64 (k : Int)) (.int .i64 l) (.int .i64 d) (.int .i64 r) (.int .i64 p) (.int .i64 s) (.slice (some ⟨gP, 0, none⟩) k cP) (.slice (some ⟨gQ, 0, none⟩) k cQ) (.int .i64 t)
  refine bodyPost_ret (v := .tuple #[wld (k : Int) l d r p s (.slice (some ⟨gP, 0, none⟩) k cP) (.slice (some ⟨gQ, 0, none⟩) k cQ) t, .bool false]) (retWB Tryz.results8 rfl rfl RQ) rfl ⟨⟨gP, cP, gQ, cQ, rfl, oP, oQ, by omega⟩, BB⟩

end Go.Proofs.YtnocmfhlmpgbmaaGreat.Tu
