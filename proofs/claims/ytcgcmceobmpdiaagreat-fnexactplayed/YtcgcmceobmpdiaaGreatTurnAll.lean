/-
  spec.l5Copy: a world in new memory; a world and a bool as results. · spec.Turned, where the world or the turn is not right. · spec.Turned at a right turn. · impl.Turned, where the world or the turn is not right. · impl.Turned at a right turn.
-/
import Derived.Test.YtcgcmceobmpdiaaGreatIm6b
import Derived.Test.YtcgcmceobmpdiaaGreatPlain
import Derived.Deep.RegionHeld3
import Derived.Deep.RegionLaw
namespace Go.Proofs.YtcgcmceobmpdiaaGreat.Tu
open Go.ChangeShapes Go.WideShapes Go.ChangeAt Go.RowKit
open Ls (el Row)
open Ow (Has ints)
open Rd (Flags)
open Bo (eb HasB)
open Rm (Room)
open Wl (wld c9 WO bad allIn)
open Ss (RowsAt ln rw_ tot)
open Tr (MV TT)
set_option linter.unusedVariables false
set_option linter.unusedSimpArgs false

set_option maxHeartbeats 4000000 in
theorem l5Copy (n l d r p s t : Int) (b off k cK bo oo m cO : Nat) (ks os : List Int) (w : World) (hzk : ks.length = k) (hck : ∀ j, j < k → w.cell? ⟨b, off + j, none⟩ = some (.int .i64 (el ks j))) (hb : b < w.heap.size) (hzo : os.length = m) (hco : ∀ j, j < m → w.cell? ⟨bo, oo + j, none⟩ = some (.int .i64 (el os j))) (hbo : bo < w.heap.size) (hk : k ≤ 1048576) (hm : m ≤ 1048576) :
    Calls Tryz.prog 18 #[wld n l d r p s (.slice (some ⟨b, off, none⟩) k cK) (.slice (some ⟨bo, oo, none⟩) m cO) t] w fun e w' => (∃ gK cK2 gO cO2, e = .returned (wld n l d r p s (.slice (some ⟨gK, 0, none⟩) k cK2) (.slice (some ⟨gO, 0, none⟩) m cO2) t) ∧ Ow.Own w' w.heap.size gK k cK2 ks ∧ Ow.Own w' w.heap.size gO m cO2 os ∧ gK < gO) ∧ Below w.heap.size w w' := by
  have R0 := (Room.new w (c9 n l d r p s (.slice (some ⟨b, off, none⟩) k cK) (.slice (some ⟨bo, oo, none⟩) m cO) t) 32).alloc (.cells [.int .i64 0, .int .i64 0, .int .i64 0, .int .i64 0, .int .i64 0, .int .i64 0, .slice none 0 0, .slice none 0 0, .int .i64 0].toArray 32)
  have RQ : Room ((w.alloc (.cells (c9 n l d r p s (.slice (some ⟨b, off, none⟩) k cK) (.slice (some ⟨bo, oo, none⟩) m cO) t).toArray 32)).alloc (.cells [.int .i64 0, .int .i64 0, .int .i64 0, .int .i64 0, .int .i64 0, .int .i64 0, .slice none 0 0, .slice none 0 0, .int .i64 0].toArray 32)) (w.heap.size + 1) [.int .i64 0, .int .i64 0, .int .i64 0, .int .i64 0, .int .i64 0, .int .i64 0, .slice none 0 0, .slice none 0 0, .int .i64 0] := Room.at _ [.int .i64 0, .int .i64 0, .int .i64 0, .int .i64 0, .int .i64 0, .int .i64 0, .slice none 0 0, .slice none 0 0, .int .i64 0] 32 _ (by simp)
  have BB := ((Below.refl w.heap.size w).alloc (Nat.le_refl _) (.cells (c9 n l d r p s (.slice (some ⟨b, off, none⟩) k cK) (.slice (some ⟨bo, oo, none⟩) m cO) t).toArray 32)).alloc (by simp) (.cells [.int .i64 0, .int .i64 0, .int .i64 0, .int .i64 0, .int .i64 0, .int .i64 0, .slice none 0 0, .slice none 0 0, .int .i64 0].toArray 32)
  have key := Wl.l1Copy b off k cK ks _ hzk (fun j hj => by rw [BB.cell (p := ⟨b, off + j, none⟩) hb]; exact hck j hj) hk (Nat.lt_of_lt_of_le hb BB.size)
  have HO : Hid (∀ j, j < m → w.cell? ⟨bo, oo + j, none⟩ = some (.int .i64 (el os j))) := hco
  clear hck hco
  go_enter Tryz.func18, Tryz.ntmps18
  go_wp2_with fail
  refine key.mono ?_
  rintro e w2 ⟨⟨gK, cK2, rfl, oK⟩, b2⟩
  clear key
  have z2 := b2.size
  simp at z2
  have lK := oK.data.2.1
  simp at lK
  have uK := oK.lt
  replace oK := oK.mono (B' := w.heap.size) (by simp; omega)
  replace R0 := R0.below b2
  replace RQ := RQ.below b2
  replace BB := BB.trans (b2.mono BB.size)
  have B3 := BB.setCell (p := ⟨w.heap.size, 6, none⟩) (by simp) (.slice (some ⟨gK, 0, none⟩) k cK2)
  have key2 := Wl.l1Copy bo oo m cO os _ hzo (fun j hj => by rw [B3.cell (p := ⟨bo, oo + j, none⟩) hbo]; exact HO.out j hj) hm (Nat.lt_of_lt_of_le hbo B3.size)
  have c7 := R0.cell 7 rfl
  have c6 := R0.cell 6 rfl
  have f6 := R0.froz 6 rfl
  clear b2
  go_wp2_with fail
  refine key2.mono ?_
  rintro e w3 ⟨⟨gO, cO2, rfl, oO⟩, b3⟩
  clear key2 c7 c6 f6
  have z3 := b3.size
  simp at z3
  have lO := oO.data.2.1
  simp at lO
  have uO := oO.lt
  replace oO := oO.mono (B' := w.heap.size) (by simp; omega)
  replace oK := (own_other oK (q := w.heap.size) (by omega) 6 (.slice (some ⟨gK, 0, none⟩) k cK2)).later b3 (by simp; omega)
  replace R0 := (R0.set 6 (.slice (some ⟨gK, 0, none⟩) k cK2)).below b3
  replace RQ := (RQ.setOther (q := w.heap.size) (by omega) 6 (.slice (some ⟨gK, 0, none⟩) k cK2)).below b3
  replace BB := B3.trans (b3.mono B3.size)
  clear B3 b3
  have c7 := R0.cell 7 rfl
  have f7 := R0.froz 7 rfl
  have c0 := R0.cell 0 rfl
  have c1 := R0.cell 1 rfl
  have c2 := R0.cell 2 rfl
  have c3 := R0.cell 3 rfl
  have c4 := R0.cell 4 rfl
  have c5 := R0.cell 5 rfl
  have c6 := R0.cell 6 rfl
  have c8 := R0.cell 8 rfl
  have d0 := RQ.cell 0 rfl
  have d1 := RQ.cell 1 rfl
  have d2 := RQ.cell 2 rfl
  have d3 := RQ.cell 3 rfl
  have d4 := RQ.cell 4 rfl
  have d5 := RQ.cell 5 rfl
  have d6 := RQ.cell 6 rfl
  have d7 := RQ.cell 7 rfl
  have d8 := RQ.cell 8 rfl
  have g0 := RQ.froz 0 rfl
  have g1 := RQ.froz 1 rfl
  have g2 := RQ.froz 2 rfl
  have g3 := RQ.froz 3 rfl
  have g4 := RQ.froz 4 rfl
  have g5 := RQ.froz 5 rfl
  have g6 := RQ.froz 6 rfl
  have g7 := RQ.froz 7 rfl
  have g8 := RQ.froz 8 rfl
  go_wp2
  replace oK := own_over9 (own_other oK (q := w.heap.size) (by omega) 7 (.slice (some ⟨gO, 0, none⟩) m cO2)) (g := w.heap.size + 1) (by omega) (.int .i64 n) (.int .i64 l) (.int .i64 d) (.int .i64 r) (.int .i64 p) (.int .i64 s) (.slice (some ⟨gK, 0, none⟩) k cK2) (.slice (some ⟨gO, 0, none⟩) m cO2) (.int .i64 t)
  replace oO := own_over9 (own_other oO (q := w.heap.size) (by omega) 7 (.slice (some ⟨gO, 0, none⟩) m cO2)) (g := w.heap.size + 1) (by omega) (.int .i64 n) (.int .i64 l) (.int .i64 d) (.int .i64 r) (.int .i64 p) (.int .i64 s) (.slice (some ⟨gK, 0, none⟩) k cK2) (.slice (some ⟨gO, 0, none⟩) m cO2) (.int .i64 t)
  replace RQ := Rm.over9 (RQ.setOther (q := w.heap.size) (by omega) 7 (.slice (some ⟨gO, 0, none⟩) m cO2)) (.int .i64 n) (.int .i64 l) (.int .i64 d) (.int .i64 r) (.int .i64 p) (.int .i64 s) (.slice (some ⟨gK, 0, none⟩) k cK2) (.slice (some ⟨gO, 0, none⟩) m cO2) (.int .i64 t)
  replace BB := below_over9 (BB.setCell (p := ⟨w.heap.size, 7, none⟩) (by simp) (.slice (some ⟨gO, 0, none⟩) m cO2)) (g := w.heap.size + 1) (by omega) (.int .i64 n) (.int .i64 l) (.int .i64 d) (.int .i64 r) (.int .i64 p) (.int .i64 s) (.slice (some ⟨gK, 0, none⟩) k cK2) (.slice (some ⟨gO, 0, none⟩) m cO2) (.int .i64 t)
  refine bodyPost_ret (v := wld n l d r p s (.slice (some ⟨gK, 0, none⟩) k cK2) (.slice (some ⟨gO, 0, none⟩) m cO2) t) (retW Tryz.results18 rfl RQ) rfl ⟨⟨gK, cK2, gO, cO2, rfl, oK, oO, by omega⟩, BB⟩

theorem retWB {fn : Func} {ts : Array Value} {W : World} {R i q : Nat} {n l d r u s t : Int} {aK aO : Option Addr} {k cK m cO : Nat} {v : Value} (hf : fn.results = #[.cell i 32, .tmp q]) (h2 : ts[i]? = some (.pointer (some ⟨R, 0, none⟩))) (h3 : ts[q]? = some v) (h : Room W R (c9 n l d r u s (.slice aK k cK) (.slice aO m cO) t)) :
    (results fn ts).run Tryz.prog W = .ok (.tuple #[wld n l d r u s (.slice aK k cK) (.slice aO m cO) t, v]) W := by
  have q0 := h.cell 0 rfl
  have q1 := h.cell 1 rfl
  have q2 := h.cell 2 rfl
  have q3 := h.cell 3 rfl
  have q4 := h.cell 4 rfl
  have q5 := h.cell 5 rfl
  have q6 := h.cell 6 rfl
  have q7 := h.cell 7 rfl
  have q8 := h.cell 8 rfl
  simp [results, hf, h2, h3, go_sem, q0, q1, q2, q3, q4, q5, q6, q7, q8]

end Go.Proofs.YtcgcmceobmpdiaaGreat.Tu

namespace Go.Proofs.YtcgcmceobmpdiaaGreat.Tu
open Go.ChangeShapes Go.WideShapes Go.ChangeAt Go.RowKit
open Ls (el Row)
open Ow (Has ints)
open Rd (Flags)
open Bo (eb HasB)
open Rm (Room)
open Wl (wld c9 WO bad allIn)
open Ss (RowsAt ln rw_ tot)
open Tr (MV TT)
set_option linter.unusedVariables false
set_option linter.unusedSimpArgs false

set_option maxHeartbeats 8000000 in
set_option maxRecDepth 100000 in
theorem st_a (n l d r p s t : Int) (b off k cK : Nat) (aO : Option Addr) (m cO : Nat) (aD aE aL aF aR : Option Addr) (nD cD nE cE nL cL nF cF nR cR : Nat) (ks os ds : List Int) (es ls : List (List Int)) (fs rs : List Bool) (w : World) (hz : ks.length = k) (hc : ∀ j, j < k → w.cell? ⟨b, off + j, none⟩ = some (.int .i64 (el ks j))) (hb : b < w.heap.size) (rO : Row w w.heap.size aO m os) (rD : Row w w.heap.size aD nD ds) (rE : RowsAt w w.heap.size aE nE es) (rL : RowsAt w w.heap.size aL nL ls) (rF : Flags w w.heap.size aF nF fs) (rR : Flags w w.heap.size aR nR rs) (hk : k ≤ 1048576) (hm : m ≤ 1048576) (hnF : nF ≤ 1048576) (hnR : nR ≤ 1048576) (h0 : Hid (WO n l d r p s ks k os m t = false)) :
    Calls Tryz.prog 19 #[wld n l d r p s (.slice (some ⟨b, off, none⟩) k cK) (.slice aO m cO) t, trn (.slice aD nD cD) (.slice aE nE cE) (.slice aL nL cL) (.slice aF nF cF) (.slice aR nR cR)] w fun e w' => e = .returned (.tuple #[.agg #[.int .i64 0, .int .i64 0, .int .i64 0, .int .i64 0, .int .i64 0, .int .i64 0, .slice none 0 0, .slice none 0 0, .int .i64 0], .bool false]) ∧ Below w.heap.size w w' := by
  have R0 : Room (((w.alloc (.cells #[.int .i64 n, .int .i64 l, .int .i64 d, .int .i64 r, .int .i64 p, .int .i64 s, .slice (some ⟨b, off, none⟩) k cK, .slice aO m cO, .int .i64 t] 32)).alloc (.cells #[.slice aD nD cD, .slice aE nE cE, .slice aL nL cL, .slice aF nF cF, .slice aR nR cR] 53)).alloc (.cells #[.int .i64 0, .int .i64 0, .int .i64 0, .int .i64 0, .int .i64 0, .int .i64 0, .slice none 0 0, .slice none 0 0, .int .i64 0] 32)) w.heap.size [.int .i64 n, .int .i64 l, .int .i64 d, .int .i64 r, .int .i64 p, .int .i64 s, .slice (some ⟨b, off, none⟩) k cK, .slice aO m cO, .int .i64 t] := ((Room.new w [.int .i64 n, .int .i64 l, .int .i64 d, .int .i64 r, .int .i64 p, .int .i64 s, .slice (some ⟨b, off, none⟩) k cK, .slice aO m cO, .int .i64 t] 32).alloc _).alloc _
  have RT : Room (((w.alloc (.cells #[.int .i64 n, .int .i64 l, .int .i64 d, .int .i64 r, .int .i64 p, .int .i64 s, .slice (some ⟨b, off, none⟩) k cK, .slice aO m cO, .int .i64 t] 32)).alloc (.cells #[.slice aD nD cD, .slice aE nE cE, .slice aL nL cL, .slice aF nF cF, .slice aR nR cR] 53)).alloc (.cells #[.int .i64 0, .int .i64 0, .int .i64 0, .int .i64 0, .int .i64 0, .int .i64 0, .slice none 0 0, .slice none 0 0, .int .i64 0] 32)) (w.heap.size + 1) [.slice aD nD cD, .slice aE nE cE, .slice aL nL cL, .slice aF nF cF, .slice aR nR cR] := (Room.at (w.alloc (.cells #[.int .i64 n, .int .i64 l, .int .i64 d, .int .i64 r, .int .i64 p, .int .i64 s, .slice (some ⟨b, off, none⟩) k cK, .slice aO m cO, .int .i64 t] 32)) [.slice aD nD cD, .slice aE nE cE, .slice aL nL cL, .slice aF nF cF, .slice aR nR cR] 53 _ (by simp)).alloc _
  have RQ : Room (((w.alloc (.cells #[.int .i64 n, .int .i64 l, .int .i64 d, .int .i64 r, .int .i64 p, .int .i64 s, .slice (some ⟨b, off, none⟩) k cK, .slice aO m cO, .int .i64 t] 32)).alloc (.cells #[.slice aD nD cD, .slice aE nE cE, .slice aL nL cL, .slice aF nF cF, .slice aR nR cR] 53)).alloc (.cells #[.int .i64 0, .int .i64 0, .int .i64 0, .int .i64 0, .int .i64 0, .int .i64 0, .slice none 0 0, .slice none 0 0, .int .i64 0] 32)) (w.heap.size + 1 + 1) [.int .i64 0, .int .i64 0, .int .i64 0, .int .i64 0, .int .i64 0, .int .i64 0, .slice none 0 0, .slice none 0 0, .int .i64 0] := Room.at ((w.alloc (.cells #[.int .i64 n, .int .i64 l, .int .i64 d, .int .i64 r, .int .i64 p, .int .i64 s, .slice (some ⟨b, off, none⟩) k cK, .slice aO m cO, .int .i64 t] 32)).alloc (.cells #[.slice aD nD cD, .slice aE nE cE, .slice aL nL cL, .slice aF nF cF, .slice aR nR cR] 53)) [.int .i64 0, .int .i64 0, .int .i64 0, .int .i64 0, .int .i64 0, .int .i64 0, .slice none 0 0, .slice none 0 0, .int .i64 0] 32 _ (by simp)
  have BB := (((Below.refl w.heap.size w).alloc (Nat.le_refl _) (.cells #[.int .i64 n, .int .i64 l, .int .i64 d, .int .i64 r, .int .i64 p, .int .i64 s, .slice (some ⟨b, off, none⟩) k cK, .slice aO m cO, .int .i64 t] 32)).alloc (by simp) (.cells #[.slice aD nD cD, .slice aE nE cE, .slice aL nL cL, .slice aF nF cF, .slice aR nR cR] 53)).alloc (by simp; omega) (.cells #[.int .i64 0, .int .i64 0, .int .i64 0, .int .i64 0, .int .i64 0, .int .i64 0, .slice none 0 0, .slice none 0 0, .int .i64 0] 32)
  go_enter Tryz.func19, Tryz.ntmps19
  go_wp2_with fail
  refine (Wl.s_WorldOk n l d r p s t _ _ k cK m cO ks os _ ⟨hz, .inr ⟨b, off, rfl, (Nat.lt_of_lt_of_le hb BB.size), (fun j hj => by rw [BB.cell (p := ⟨b, off + j, none⟩) hb]; exact hc j hj)⟩⟩ ((rO.later BB (Nat.le_refl _)).more BB.size) hk hm).mono ?_
  rintro e w2 ⟨rfl, b2⟩
  rw [h0.out]
  have z_b2 := b2.size
  (try simp at z_b2)
  replace R0 := R0.below b2
  replace RT := RT.below b2
  replace RQ := RQ.below b2
  replace BB := BB.trans (b2.mono BB.size)
  have d0 := RQ.cell 0 rfl
  have d1 := RQ.cell 1 rfl
  have d2 := RQ.cell 2 rfl
  have d3 := RQ.cell 3 rfl
  have d4 := RQ.cell 4 rfl
  have d5 := RQ.cell 5 rfl
  have d6 := RQ.cell 6 rfl
  have d7 := RQ.cell 7 rfl
  have d8 := RQ.cell 8 rfl
  have g0 := RQ.froz 0 rfl
  have g1 := RQ.froz 1 rfl
  have g2 := RQ.froz 2 rfl
  have g3 := RQ.froz 3 rfl
  have g4 := RQ.froz 4 rfl
  have g5 := RQ.froz 5 rfl
  have g6 := RQ.froz 6 rfl
  have g7 := RQ.froz 7 rfl
  have g8 := RQ.froz 8 rfl
  go_wp2
  replace RQ := Rm.over9 RQ (.int .i64 0) (.int .i64 0) (.int .i64 0) (.int .i64 0) (.int .i64 0) (.int .i64 0) (.slice none 0 0) (.slice none 0 0) (.int .i64 0)
  replace BB := below_over9 BB (g := w.heap.size + 1 + 1) (by omega) (.int .i64 0) (.int .i64 0) (.int .i64 0) (.int .i64 0) (.int .i64 0) (.int .i64 0) (.slice none 0 0) (.slice none 0 0) (.int .i64 0)
  refine bodyPost_ret (v := .tuple #[.agg #[.int .i64 0, .int .i64 0, .int .i64 0, .int .i64 0, .int .i64 0, .int .i64 0, .slice none 0 0, .slice none 0 0, .int .i64 0], .bool false]) (retWB Tryz.results19 rfl rfl RQ) rfl ⟨rfl, BB⟩

set_option maxHeartbeats 8000000 in
set_option maxRecDepth 100000 in
theorem st_b (l d r p s t : Int) (b off k cK bo oo cO : Nat) (aD aE aL aF aR : Option Addr) (nD cD nE cE nL cL nF cF nR cR : Nat) (ks os ds : List Int) (es ls : List (List Int)) (fs rs : List Bool) (w : World) (hz : ks.length = k) (hc : ∀ j, j < k → w.cell? ⟨b, off + j, none⟩ = some (.int .i64 (el ks j))) (hb : b < w.heap.size) (hzo : os.length = k) (hco : ∀ j, j < k → w.cell? ⟨bo, oo + j, none⟩ = some (.int .i64 (el os j))) (hbo : bo < w.heap.size) (rD : Row w w.heap.size aD nD ds) (rE : RowsAt w w.heap.size aE nE es) (rL : RowsAt w w.heap.size aL nL ls) (rF : Flags w w.heap.size aF nF fs) (rR : Flags w w.heap.size aR nR rs) (hk : k ≤ 1048576) (hnF : nF ≤ 1048576) (hnR : nR ≤ 1048576) (h0 : Hid (WO (k : Int) l d r p s ks k os k t = true)) (h1 : Hid (TO (k : Int) l d r p s ks k os k t ds es ls fs rs nF nR = false)) :
    Calls Tryz.prog 19 #[.agg #[.int .i64 (k : Int), .int .i64 l, .int .i64 d, .int .i64 r, .int .i64 p, .int .i64 s, .slice (some ⟨b, off, none⟩) k cK, .slice (some ⟨bo, oo, none⟩) k cO, .int .i64 t], .agg #[.slice aD nD cD, .slice aE nE cE, .slice aL nL cL, .slice aF nF cF, .slice aR nR cR]] w fun e w' => (∃ gK cK2 gO cO2, e = .returned (.tuple #[wld (k : Int) l d r p s (.slice (some ⟨gK, 0, none⟩) k cK2) (.slice (some ⟨gO, 0, none⟩) k cO2) t, .bool false]) ∧ Ow.Own w' w.heap.size gK k cK2 ks ∧ Ow.Own w' w.heap.size gO k cO2 os ∧ gK ≠ gO) ∧ Below w.heap.size w w' := by
  have R0 : Room (((w.alloc (.cells #[.int .i64 (k : Int), .int .i64 l, .int .i64 d, .int .i64 r, .int .i64 p, .int .i64 s, .slice (some ⟨b, off, none⟩) k cK, .slice (some ⟨bo, oo, none⟩) k cO, .int .i64 t] 32)).alloc (.cells #[.slice aD nD cD, .slice aE nE cE, .slice aL nL cL, .slice aF nF cF, .slice aR nR cR] 53)).alloc (.cells #[.int .i64 0, .int .i64 0, .int .i64 0, .int .i64 0, .int .i64 0, .int .i64 0, .slice none 0 0, .slice none 0 0, .int .i64 0] 32)) w.heap.size [.int .i64 (k : Int), .int .i64 l, .int .i64 d, .int .i64 r, .int .i64 p, .int .i64 s, .slice (some ⟨b, off, none⟩) k cK, .slice (some ⟨bo, oo, none⟩) k cO, .int .i64 t] := ((Room.new w [.int .i64 (k : Int), .int .i64 l, .int .i64 d, .int .i64 r, .int .i64 p, .int .i64 s, .slice (some ⟨b, off, none⟩) k cK, .slice (some ⟨bo, oo, none⟩) k cO, .int .i64 t] 32).alloc _).alloc _
  have RT : Room (((w.alloc (.cells #[.int .i64 (k : Int), .int .i64 l, .int .i64 d, .int .i64 r, .int .i64 p, .int .i64 s, .slice (some ⟨b, off, none⟩) k cK, .slice (some ⟨bo, oo, none⟩) k cO, .int .i64 t] 32)).alloc (.cells #[.slice aD nD cD, .slice aE nE cE, .slice aL nL cL, .slice aF nF cF, .slice aR nR cR] 53)).alloc (.cells #[.int .i64 0, .int .i64 0, .int .i64 0, .int .i64 0, .int .i64 0, .int .i64 0, .slice none 0 0, .slice none 0 0, .int .i64 0] 32)) (w.heap.size + 1) [.slice aD nD cD, .slice aE nE cE, .slice aL nL cL, .slice aF nF cF, .slice aR nR cR] := (Room.at (w.alloc (.cells #[.int .i64 (k : Int), .int .i64 l, .int .i64 d, .int .i64 r, .int .i64 p, .int .i64 s, .slice (some ⟨b, off, none⟩) k cK, .slice (some ⟨bo, oo, none⟩) k cO, .int .i64 t] 32)) [.slice aD nD cD, .slice aE nE cE, .slice aL nL cL, .slice aF nF cF, .slice aR nR cR] 53 _ (by simp)).alloc _
  have RQ : Room (((w.alloc (.cells #[.int .i64 (k : Int), .int .i64 l, .int .i64 d, .int .i64 r, .int .i64 p, .int .i64 s, .slice (some ⟨b, off, none⟩) k cK, .slice (some ⟨bo, oo, none⟩) k cO, .int .i64 t] 32)).alloc (.cells #[.slice aD nD cD, .slice aE nE cE, .slice aL nL cL, .slice aF nF cF, .slice aR nR cR] 53)).alloc (.cells #[.int .i64 0, .int .i64 0, .int .i64 0, .int .i64 0, .int .i64 0, .int .i64 0, .slice none 0 0, .slice none 0 0, .int .i64 0] 32)) (w.heap.size + 1 + 1) [.int .i64 0, .int .i64 0, .int .i64 0, .int .i64 0, .int .i64 0, .int .i64 0, .slice none 0 0, .slice none 0 0, .int .i64 0] := Room.at ((w.alloc (.cells #[.int .i64 (k : Int), .int .i64 l, .int .i64 d, .int .i64 r, .int .i64 p, .int .i64 s, .slice (some ⟨b, off, none⟩) k cK, .slice (some ⟨bo, oo, none⟩) k cO, .int .i64 t] 32)).alloc (.cells #[.slice aD nD cD, .slice aE nE cE, .slice aL nL cL, .slice aF nF cF, .slice aR nR cR] 53)) [.int .i64 0, .int .i64 0, .int .i64 0, .int .i64 0, .int .i64 0, .int .i64 0, .slice none 0 0, .slice none 0 0, .int .i64 0] 32 _ (by simp)
  have BB := (((Below.refl w.heap.size w).alloc (Nat.le_refl _) (.cells #[.int .i64 (k : Int), .int .i64 l, .int .i64 d, .int .i64 r, .int .i64 p, .int .i64 s, .slice (some ⟨b, off, none⟩) k cK, .slice (some ⟨bo, oo, none⟩) k cO, .int .i64 t] 32)).alloc (by simp) (.cells #[.slice aD nD cD, .slice aE nE cE, .slice aL nL cL, .slice aF nF cF, .slice aR nR cR] 53)).alloc (by simp; omega) (.cells #[.int .i64 0, .int .i64 0, .int .i64 0, .int .i64 0, .int .i64 0, .int .i64 0, .slice none 0 0, .slice none 0 0, .int .i64 0] 32)
  go_enter Tryz.func19, Tryz.ntmps19
  go_wp2_with fail
  refine (Wl.s_WorldOk (k : Int) l d r p s t _ _ k cK k cO ks os _ ⟨hz, .inr ⟨b, off, rfl, (Nat.lt_of_lt_of_le hb BB.size), (fun j hj => by rw [BB.cell (p := ⟨b, off + j, none⟩) hb]; exact hc j hj)⟩⟩ ⟨hzo, .inr ⟨bo, oo, rfl, (Nat.lt_of_lt_of_le hbo BB.size), (fun j hj => by rw [BB.cell (p := ⟨bo, oo + j, none⟩) hbo]; exact hco j hj)⟩⟩ hk hk).mono ?_
  rintro e w2 ⟨rfl, b2⟩
  rw [h0.out]
  have z_b2 := b2.size
  (try simp at z_b2)
  replace R0 := R0.below b2
  replace RT := RT.below b2
  replace RQ := RQ.below b2
  replace BB := BB.trans (b2.mono BB.size)
  have c0 := R0.cell 0 rfl
  have c1 := R0.cell 1 rfl
  have c2 := R0.cell 2 rfl
  have c3 := R0.cell 3 rfl
  have c4 := R0.cell 4 rfl
  have c5 := R0.cell 5 rfl
  have c6 := R0.cell 6 rfl
  have c7 := R0.cell 7 rfl
  have c8 := R0.cell 8 rfl
  have y0 := RT.cell 0 rfl
  have y1 := RT.cell 1 rfl
  have y2 := RT.cell 2 rfl
  have y3 := RT.cell 3 rfl
  have y4 := RT.cell 4 rfl
  go_wp2_with fail
  refine (s_TurnOk (k : Int) l d r p s t b off k cK _ k cO _ _ _ _ _ nD cD nE cE nL cL nF cF nR cR ks os ds es ls fs rs _ hz (fun j hj => by rw [BB.cell (p := ⟨b, off + j, none⟩) hb]; exact hc j hj) (Nat.lt_of_lt_of_le hb BB.size) ⟨hzo, .inr ⟨bo, oo, rfl, (Nat.lt_of_lt_of_le hbo BB.size), (fun j hj => by rw [BB.cell (p := ⟨bo, oo + j, none⟩) hbo]; exact hco j hj)⟩⟩ ((rD.later BB (Nat.le_refl _)).more BB.size) ((rE.later BB (Nat.le_refl _)).more BB.size) ((rL.later BB (Nat.le_refl _)).more BB.size) ((rF.later BB (Nat.le_refl _)).more BB.size) ((rR.later BB (Nat.le_refl _)).more BB.size) hk hk hnF hnR).mono ?_
  rintro e w3 ⟨rfl, b3⟩
  rw [h1.out]
  clear c0 c1 c2 c3 c4 c5 c6 c7 c8
  clear y0 y1 y2 y3 y4
  have z_b3 := b3.size
  (try simp at z_b3)
  replace R0 := R0.below b3
  replace RT := RT.below b3
  replace RQ := RQ.below b3
  replace BB := BB.trans (b3.mono BB.size)
  have c0 := R0.cell 0 rfl
  have c1 := R0.cell 1 rfl
  have c2 := R0.cell 2 rfl
  have c3 := R0.cell 3 rfl
  have c4 := R0.cell 4 rfl
  have c5 := R0.cell 5 rfl
  have c6 := R0.cell 6 rfl
  have c7 := R0.cell 7 rfl
  have c8 := R0.cell 8 rfl
  go_wp2_with fail
  refine (l5Copy (k : Int) l d r p s t b off k cK bo oo k cO ks os _ hz (fun j hj => by rw [BB.cell (p := ⟨b, off + j, none⟩) hb]; exact hc j hj) (Nat.lt_of_lt_of_le hb BB.size) hzo (fun j hj => by rw [BB.cell (p := ⟨bo, oo + j, none⟩) hbo]; exact hco j hj) (Nat.lt_of_lt_of_le hbo BB.size) hk hk).mono ?_
  rintro e w4 ⟨⟨gP, cP, gQ, cQ, rfl, oP, oQ, gPQ⟩, bP⟩
  clear c0 c1 c2 c3 c4 c5 c6 c7 c8
  have lQ0 := RQ.lt (by simp)
  have loP := oP.data.2.1
  have loQ := oQ.data.2.1
  (try simp at loP)
  (try simp at loQ)
  have z_bP := bP.size
  (try simp at z_bP)
  replace R0 := R0.below bP
  replace RT := RT.below bP
  replace RQ := RQ.below bP
  replace BB := BB.trans (bP.mono BB.size)
  replace oP := oP.mono (B' := w.heap.size) (by omega)
  replace oQ := oQ.mono (B' := w.heap.size) (by omega)
  have d0 := RQ.cell 0 rfl
  have d1 := RQ.cell 1 rfl
  have d2 := RQ.cell 2 rfl
  have d3 := RQ.cell 3 rfl
  have d4 := RQ.cell 4 rfl
  have d5 := RQ.cell 5 rfl
  have d6 := RQ.cell 6 rfl
  have d7 := RQ.cell 7 rfl
  have d8 := RQ.cell 8 rfl
  have g0 := RQ.froz 0 rfl
  have g1 := RQ.froz 1 rfl
  have g2 := RQ.froz 2 rfl
  have g3 := RQ.froz 3 rfl
  have g4 := RQ.froz 4 rfl
  have g5 := RQ.froz 5 rfl
  have g6 := RQ.froz 6 rfl
  have g7 := RQ.froz 7 rfl
  have g8 := RQ.froz 8 rfl
  go_wp2
  replace oP := own_over9 oP (g := w.heap.size + 1 + 1) (by omega) (.int .i64 (k : Int)) (.int .i64 l) (.int .i64 d) (.int .i64 r) (.int .i64 p) (.int .i64 s) (.slice (some ⟨gP, 0, none⟩) k cP) (.slice (some ⟨gQ, 0, none⟩) k cQ) (.int .i64 t)
  replace oQ := own_over9 oQ (g := w.heap.size + 1 + 1) (by omega) (.int .i64 (k : Int)) (.int .i64 l) (.int .i64 d) (.int .i64 r) (.int .i64 p) (.int .i64 s) (.slice (some ⟨gP, 0, none⟩) k cP) (.slice (some ⟨gQ, 0, none⟩) k cQ) (.int .i64 t)
  replace RQ := Rm.over9 RQ (.int .i64 (k : Int)) (.int .i64 l) (.int .i64 d) (.int .i64 r) (.int .i64 p) (.int .i64 s) (.slice (some ⟨gP, 0, none⟩) k cP) (.slice (some ⟨gQ, 0, none⟩) k cQ) (.int .i64 t)
  replace BB := below_over9 BB (g := w.heap.size + 1 + 1) (by omega) (.int .i64 (k : Int)) (.int .i64 l) (.int .i64 d) (.int .i64 r) (.int .i64 p) (.int .i64 s) (.slice (some ⟨gP, 0, none⟩) k cP) (.slice (some ⟨gQ, 0, none⟩) k cQ) (.int .i64 t)
  refine bodyPost_ret (v := .tuple #[wld (k : Int) l d r p s (.slice (some ⟨gP, 0, none⟩) k cP) (.slice (some ⟨gQ, 0, none⟩) k cQ) t, .bool false]) (retWB Tryz.results19 rfl rfl RQ) rfl ⟨⟨gP, cP, gQ, cQ, rfl, oP, oQ, by omega⟩, BB⟩

end Go.Proofs.YtcgcmceobmpdiaaGreat.Tu

namespace Go.Proofs.YtcgcmceobmpdiaaGreat.Tu
open Go.ChangeShapes Go.WideShapes Go.ChangeAt Go.RowKit
open Ls (el Row)
open Ow (Has ints)
open Rd (Flags)
open Bo (eb HasB)
open Rm (Room)
open Wl (wld c9 WO bad allIn)
open Ss (RowsAt ln rw_ tot)
open Tr (MV TT)
set_option linter.unusedVariables false
set_option linter.unusedSimpArgs false

set_option maxHeartbeats 16000000 in
set_option maxRecDepth 100000 in
theorem st_c (l d r p s t : Int) (b off k cK bo oo cO : Nat) (aD aE aL aF aR : Option Addr) (cD cE cL cF cR : Nat) (ks os ds : List Int) (es ls : List (List Int)) (fs rs : List Bool) (w : World) (hz : ks.length = k) (hc : ∀ j, j < k → w.cell? ⟨b, off + j, none⟩ = some (.int .i64 (el ks j))) (hb : b < w.heap.size) (hzo : os.length = k) (hco : ∀ j, j < k → w.cell? ⟨bo, oo + j, none⟩ = some (.int .i64 (el os j))) (hbo : bo < w.heap.size) (rD : Row w w.heap.size aD k ds) (rE : RowsAt w w.heap.size aE k es) (rL : RowsAt w w.heap.size aL k ls) (rF : Flags w w.heap.size aF k fs) (rR : Flags w w.heap.size aR k rs) (hk : k ≤ 1048576) (htE : tot es k ≤ 1048576) (htL : tot ls k ≤ 1048576) (h0 : Hid (WO (k : Int) l d r p s ks k os k t = true)) (h1 : Hid (TO (k : Int) l d r p s ks k os k t ds es ls fs rs k k = true)) (hO : Hid (∀ j, j < k → -1000000000000000 ≤ el os j ∧ el os j ≤ 1000000000000000)) (hD : Hid (∀ j, j < k → -1000000 ≤ el ds j ∧ el ds j ≤ 1000000)) (ht : 0 ≤ t ∧ t ≤ 1000000) :
    Calls Tryz.prog 19 #[.agg #[.int .i64 (k : Int), .int .i64 l, .int .i64 d, .int .i64 r, .int .i64 p, .int .i64 s, .slice (some ⟨b, off, none⟩) k cK, .slice (some ⟨bo, oo, none⟩) k cO, .int .i64 t], .agg #[.slice aD k cD, .slice aE k cE, .slice aL k cL, .slice aF k cF, .slice aR k cR]] w fun e w' => (∃ gK cK2 gO cO2, e = .returned (.tuple #[wld (k : Int) l d r p s (.slice (some ⟨gK, 0, none⟩) k cK2) (.slice (some ⟨gO, 0, none⟩) k cO2) (RU (k : Int) l d r p s ks k os k t ds es ls fs rs k k), .bool (RB (k : Int) l d r p s ks k os k t ds es ls fs rs k k)]) ∧ Ow.Own w' w.heap.size gK k cK2 (RK (k : Int) l d r p s ks k os k t ds es ls fs rs k k) ∧ Ow.Own w' w.heap.size gO k cO2 (RO (k : Int) l d r p s ks k os k t ds es ls fs rs k k) ∧ gK ≠ gO) ∧ Below w.heap.size w w' := by
  rcases id rD with ⟨zD, rD2 | ⟨bd, od, rfl, hBd, hcd⟩⟩
  · have hk0 := (wo_more h0.out).2.2.1; omega
  rcases id rR with ⟨zR, rR2 | ⟨br, or, rfl, hBr, hcr⟩⟩
  · have hk0 := (wo_more h0.out).2.2.1; omega
  have R0 : Room (((w.alloc (.cells #[.int .i64 (k : Int), .int .i64 l, .int .i64 d, .int .i64 r, .int .i64 p, .int .i64 s, .slice (some ⟨b, off, none⟩) k cK, .slice (some ⟨bo, oo, none⟩) k cO, .int .i64 t] 32)).alloc (.cells #[.slice (some ⟨bd, od, none⟩) k cD, .slice aE k cE, .slice aL k cL, .slice aF k cF, .slice (some ⟨br, or, none⟩) k cR] 53)).alloc (.cells #[.int .i64 0, .int .i64 0, .int .i64 0, .int .i64 0, .int .i64 0, .int .i64 0, .slice none 0 0, .slice none 0 0, .int .i64 0] 32)) w.heap.size [.int .i64 (k : Int), .int .i64 l, .int .i64 d, .int .i64 r, .int .i64 p, .int .i64 s, .slice (some ⟨b, off, none⟩) k cK, .slice (some ⟨bo, oo, none⟩) k cO, .int .i64 t] := ((Room.new w [.int .i64 (k : Int), .int .i64 l, .int .i64 d, .int .i64 r, .int .i64 p, .int .i64 s, .slice (some ⟨b, off, none⟩) k cK, .slice (some ⟨bo, oo, none⟩) k cO, .int .i64 t] 32).alloc _).alloc _
  have RT : Room (((w.alloc (.cells #[.int .i64 (k : Int), .int .i64 l, .int .i64 d, .int .i64 r, .int .i64 p, .int .i64 s, .slice (some ⟨b, off, none⟩) k cK, .slice (some ⟨bo, oo, none⟩) k cO, .int .i64 t] 32)).alloc (.cells #[.slice (some ⟨bd, od, none⟩) k cD, .slice aE k cE, .slice aL k cL, .slice aF k cF, .slice (some ⟨br, or, none⟩) k cR] 53)).alloc (.cells #[.int .i64 0, .int .i64 0, .int .i64 0, .int .i64 0, .int .i64 0, .int .i64 0, .slice none 0 0, .slice none 0 0, .int .i64 0] 32)) (w.heap.size + 1) [.slice (some ⟨bd, od, none⟩) k cD, .slice aE k cE, .slice aL k cL, .slice aF k cF, .slice (some ⟨br, or, none⟩) k cR] := (Room.at (w.alloc (.cells #[.int .i64 (k : Int), .int .i64 l, .int .i64 d, .int .i64 r, .int .i64 p, .int .i64 s, .slice (some ⟨b, off, none⟩) k cK, .slice (some ⟨bo, oo, none⟩) k cO, .int .i64 t] 32)) [.slice (some ⟨bd, od, none⟩) k cD, .slice aE k cE, .slice aL k cL, .slice aF k cF, .slice (some ⟨br, or, none⟩) k cR] 53 _ (by simp)).alloc _
  have RQ : Room (((w.alloc (.cells #[.int .i64 (k : Int), .int .i64 l, .int .i64 d, .int .i64 r, .int .i64 p, .int .i64 s, .slice (some ⟨b, off, none⟩) k cK, .slice (some ⟨bo, oo, none⟩) k cO, .int .i64 t] 32)).alloc (.cells #[.slice (some ⟨bd, od, none⟩) k cD, .slice aE k cE, .slice aL k cL, .slice aF k cF, .slice (some ⟨br, or, none⟩) k cR] 53)).alloc (.cells #[.int .i64 0, .int .i64 0, .int .i64 0, .int .i64 0, .int .i64 0, .int .i64 0, .slice none 0 0, .slice none 0 0, .int .i64 0] 32)) (w.heap.size + 1 + 1) [.int .i64 0, .int .i64 0, .int .i64 0, .int .i64 0, .int .i64 0, .int .i64 0, .slice none 0 0, .slice none 0 0, .int .i64 0] := Room.at ((w.alloc (.cells #[.int .i64 (k : Int), .int .i64 l, .int .i64 d, .int .i64 r, .int .i64 p, .int .i64 s, .slice (some ⟨b, off, none⟩) k cK, .slice (some ⟨bo, oo, none⟩) k cO, .int .i64 t] 32)).alloc (.cells #[.slice (some ⟨bd, od, none⟩) k cD, .slice aE k cE, .slice aL k cL, .slice aF k cF, .slice (some ⟨br, or, none⟩) k cR] 53)) [.int .i64 0, .int .i64 0, .int .i64 0, .int .i64 0, .int .i64 0, .int .i64 0, .slice none 0 0, .slice none 0 0, .int .i64 0] 32 _ (by simp)
  have BB := (((Below.refl w.heap.size w).alloc (Nat.le_refl _) (.cells #[.int .i64 (k : Int), .int .i64 l, .int .i64 d, .int .i64 r, .int .i64 p, .int .i64 s, .slice (some ⟨b, off, none⟩) k cK, .slice (some ⟨bo, oo, none⟩) k cO, .int .i64 t] 32)).alloc (by simp) (.cells #[.slice (some ⟨bd, od, none⟩) k cD, .slice aE k cE, .slice aL k cL, .slice aF k cF, .slice (some ⟨br, or, none⟩) k cR] 53)).alloc (by simp; omega) (.cells #[.int .i64 0, .int .i64 0, .int .i64 0, .int .i64 0, .int .i64 0, .int .i64 0, .slice none 0 0, .slice none 0 0, .int .i64 0] 32)
  go_enter Tryz.func19, Tryz.ntmps19
  go_wp2_with fail
  refine (Wl.s_WorldOk (k : Int) l d r p s t _ _ k cK k cO ks os _ ⟨hz, .inr ⟨b, off, rfl, (Nat.lt_of_lt_of_le hb BB.size), (fun j hj => by rw [BB.cell (p := ⟨b, off + j, none⟩) hb]; exact hc j hj)⟩⟩ ⟨hzo, .inr ⟨bo, oo, rfl, (Nat.lt_of_lt_of_le hbo BB.size), (fun j hj => by rw [BB.cell (p := ⟨bo, oo + j, none⟩) hbo]; exact hco j hj)⟩⟩ hk hk).mono ?_
  rintro e w2 ⟨rfl, b2⟩
  rw [h0.out]
  have z_b2 := b2.size
  (try simp at z_b2)
  replace R0 := R0.below b2
  replace RT := RT.below b2
  replace RQ := RQ.below b2
  replace BB := BB.trans (b2.mono BB.size)
  have c0 := R0.cell 0 rfl
  have c1 := R0.cell 1 rfl
  have c2 := R0.cell 2 rfl
  have c3 := R0.cell 3 rfl
  have c4 := R0.cell 4 rfl
  have c5 := R0.cell 5 rfl
  have c6 := R0.cell 6 rfl
  have c7 := R0.cell 7 rfl
  have c8 := R0.cell 8 rfl
  have y0 := RT.cell 0 rfl
  have y1 := RT.cell 1 rfl
  have y2 := RT.cell 2 rfl
  have y3 := RT.cell 3 rfl
  have y4 := RT.cell 4 rfl
  go_wp2_with fail
  refine (s_TurnOk (k : Int) l d r p s t b off k cK _ k cO _ _ _ _ _ k cD k cE k cL k cF k cR ks os ds es ls fs rs _ hz (fun j hj => by rw [BB.cell (p := ⟨b, off + j, none⟩) hb]; exact hc j hj) (Nat.lt_of_lt_of_le hb BB.size) ⟨hzo, .inr ⟨bo, oo, rfl, (Nat.lt_of_lt_of_le hbo BB.size), (fun j hj => by rw [BB.cell (p := ⟨bo, oo + j, none⟩) hbo]; exact hco j hj)⟩⟩ ((rD.later BB (Nat.le_refl _)).more BB.size) ((rE.later BB (Nat.le_refl _)).more BB.size) ((rL.later BB (Nat.le_refl _)).more BB.size) ((rF.later BB (Nat.le_refl _)).more BB.size) ((rR.later BB (Nat.le_refl _)).more BB.size) hk hk hk hk).mono ?_
  rintro e w3 ⟨rfl, b3⟩
  rw [h1.out]
  clear c0 c1 c2 c3 c4 c5 c6 c7 c8
  clear y0 y1 y2 y3 y4
  have z_b3 := b3.size
  (try simp at z_b3)
  replace R0 := R0.below b3
  replace RT := RT.below b3
  replace RQ := RQ.below b3
  replace BB := BB.trans (b3.mono BB.size)
  have lQ3 := RQ.lt (by simp)
  have c0 := R0.cell 0 rfl
  have c1 := R0.cell 1 rfl
  have c2 := R0.cell 2 rfl
  have c3 := R0.cell 3 rfl
  have c4 := R0.cell 4 rfl
  have c5 := R0.cell 5 rfl
  have c6 := R0.cell 6 rfl
  have c7 := R0.cell 7 rfl
  have c8 := R0.cell 8 rfl
  go_wp2_with fail
  refine (l5Copy (k : Int) l d r p s t b off k cK bo oo k cO ks os _ hz (fun j hj => by rw [BB.cell (p := ⟨b, off + j, none⟩) hb]; exact hc j hj) (Nat.lt_of_lt_of_le hb BB.size) hzo (fun j hj => by rw [BB.cell (p := ⟨bo, oo + j, none⟩) hbo]; exact hco j hj) (Nat.lt_of_lt_of_le hbo BB.size) hk hk).mono ?_
  rintro e w4 ⟨⟨gP, cP, gQ, cQ, rfl, oP, oQ, gPQ⟩, b4⟩
  clear c0 c1 c2 c3 c4 c5 c6 c7 c8
  have z_b4 := b4.size
  (try simp at z_b4)
  replace R0 := R0.below b4
  replace RT := RT.below b4
  replace RQ := RQ.below b4
  replace BB := BB.trans (b4.mono BB.size)
  clear oP oQ gPQ
  have bn := (Below.refl w4.heap.size w4).alloc (Nat.le_refl _) (.cells #[.int .i64 (k : Int), .int .i64 l, .int .i64 d, .int .i64 r, .int .i64 p, .int .i64 s, .slice (some ⟨gP, 0, none⟩) k cP, .slice (some ⟨gQ, 0, none⟩) k cQ, .int .i64 t] 32)
  have RX := Room.new w4 [.int .i64 (k : Int), .int .i64 l, .int .i64 d, .int .i64 r, .int .i64 p, .int .i64 s, .slice (some ⟨gP, 0, none⟩) k cP, .slice (some ⟨gQ, 0, none⟩) k cQ, .int .i64 t] 32
  have z_bn := bn.size
  (try simp at z_bn)
  replace R0 := R0.below bn
  replace RT := RT.below bn
  replace RQ := RQ.below bn
  replace BB := BB.trans (bn.mono BB.size)
  have c0 := R0.cell 0 rfl
  have c1 := R0.cell 1 rfl
  have c2 := R0.cell 2 rfl
  have c3 := R0.cell 3 rfl
  have c4 := R0.cell 4 rfl
  have c5 := R0.cell 5 rfl
  have c6 := R0.cell 6 rfl
  have c7 := R0.cell 7 rfl
  have c8 := R0.cell 8 rfl
  have y0 := RT.cell 0 rfl
  have y1 := RT.cell 1 rfl
  have y2 := RT.cell 2 rfl
  have y3 := RT.cell 3 rfl
  have y4 := RT.cell 4 rfl
  go_wp2_with fail
  refine (l6Fallen (k : Int) l d r p s t b off k cK _ _ _ _ _ _ cF ks fs _ hz (fun j hj => by rw [BB.cell (p := ⟨b, off + j, none⟩) hb]; exact hc j hj) (Nat.lt_of_lt_of_le hb BB.size) ((rF.later BB (Nat.le_refl _)).more BB.size) hk).mono ?_
  rintro e w5 ⟨⟨gK, cK2, rfl, oK⟩, b5⟩
  clear c0 c1 c2 c3 c4 c5 c6 c7 c8
  clear y0 y1 y2 y3 y4
  have loK := oK.data.2.1
  simp at loK
  have z_b5 := b5.size
  (try simp at z_b5)
  replace R0 := R0.below b5
  replace RT := RT.below b5
  replace RQ := RQ.below b5
  replace RX := RX.below b5
  replace BB := BB.trans (b5.mono BB.size)
  have hiK := oK.lt
  replace oK := oK.mono (B' := w.heap.size) (by simp <;> omega)
  have x6 := RX.cell 6 rfl
  have f6 := RX.froz 6 rfl
  replace R0 := R0.setOther (q := w4.heap.size) (by omega) 6 (.slice (some ⟨gK, 0, none⟩) k cK2)
  replace RT := RT.setOther (q := w4.heap.size) (by omega) 6 (.slice (some ⟨gK, 0, none⟩) k cK2)
  replace RQ := RQ.setOther (q := w4.heap.size) (by omega) 6 (.slice (some ⟨gK, 0, none⟩) k cK2)
  replace RX := RX.set 6 (.slice (some ⟨gK, 0, none⟩) k cK2)
  dsimp only [List.set] at RX
  replace oK := own_other oK (q := w4.heap.size) (by omega) 6 (.slice (some ⟨gK, 0, none⟩) k cK2)
  replace BB := BB.setCell (p := ⟨w4.heap.size, 6, none⟩) (by simp; omega) (.slice (some ⟨gK, 0, none⟩) k cK2)
  have sz5 : (w5.setCell ⟨w4.heap.size, 6, none⟩ (.slice (some ⟨gK, 0, none⟩) k cK2)).heap.size = w5.heap.size := by simp
  have c0 := R0.cell 0 rfl
  have c1 := R0.cell 1 rfl
  have c2 := R0.cell 2 rfl
  have c3 := R0.cell 3 rfl
  have c4 := R0.cell 4 rfl
  have c5 := R0.cell 5 rfl
  have c6 := R0.cell 6 rfl
  have c7 := R0.cell 7 rfl
  have c8 := R0.cell 8 rfl
  have y0 := RT.cell 0 rfl
  have y1 := RT.cell 1 rfl
  have y2 := RT.cell 2 rfl
  have y3 := RT.cell 3 rfl
  have y4 := RT.cell 4 rfl
  go_wp2_with fail
  refine (l6Offs (k : Int) l d r p s t _ bo oo k cO _ _ cD _ _ _ _ os ds _ (fun j hj => by rw [BB.cell (p := ⟨bo, oo + j, none⟩) hbo]; exact hco j hj) (Nat.lt_of_lt_of_le hbo BB.size) (fun j hj => by rw [BB.cell (p := ⟨bd, od + j, none⟩) hBd]; exact hcd j hj) (Nat.lt_of_lt_of_le hBd BB.size) hk hO hD).mono ?_
  rintro e w6 ⟨⟨gO, cO2, rfl, oO⟩, b6⟩
  clear c0 c1 c2 c3 c4 c5 c6 c7 c8
  clear y0 y1 y2 y3 y4
  clear x6 f6
  have loO := oO.data.2.1
  rw [sz5] at loO
  have z_b6 := b6.size
  (try simp at z_b6)
  replace R0 := R0.below b6
  replace RT := RT.below b6
  replace RQ := RQ.below b6
  replace RX := RX.below b6
  replace oK := oK.later b6 oK.lt
  replace BB := BB.trans (b6.mono BB.size)
  have hiO := oO.lt
  replace oO := oO.mono (B' := w.heap.size) (by simp <;> omega)
  have x7 := RX.cell 7 rfl
  have f7 := RX.froz 7 rfl
  replace R0 := R0.setOther (q := w4.heap.size) (by omega) 7 (.slice (some ⟨gO, 0, none⟩) k cO2)
  replace RT := RT.setOther (q := w4.heap.size) (by omega) 7 (.slice (some ⟨gO, 0, none⟩) k cO2)
  replace RQ := RQ.setOther (q := w4.heap.size) (by omega) 7 (.slice (some ⟨gO, 0, none⟩) k cO2)
  replace RX := RX.set 7 (.slice (some ⟨gO, 0, none⟩) k cO2)
  dsimp only [List.set] at RX
  replace oK := own_other oK (q := w4.heap.size) (by omega) 7 (.slice (some ⟨gO, 0, none⟩) k cO2)
  replace oO := own_other oO (q := w4.heap.size) (by omega) 7 (.slice (some ⟨gO, 0, none⟩) k cO2)
  replace BB := BB.setCell (p := ⟨w4.heap.size, 7, none⟩) (by simp; omega) (.slice (some ⟨gO, 0, none⟩) k cO2)
  have gne : gK ≠ gO := by omega
  go_wp2_with fail
  clear x7 f7
  have HH : Hid (Ow.Own _ w.heap.size gK k cK2 (UP (eb rs) (fun _ => 0) (FK ks fs) 0) ∧ Ow.Own _ w.heap.size gO k cO2 (UP (CB (k : Int) l d r p s ks k os k t ds es ls fs rs k k) (fun j => el (OP os ds k) j + CV (k : Int) l d r p s ks k os k t ds es ls fs rs k k j) (OP os ds k) 0) ∧ Room _ w.heap.size [.int .i64 (k : Int), .int .i64 l, .int .i64 d, .int .i64 r, .int .i64 p, .int .i64 s, .slice (some ⟨b, off, none⟩) k cK, .slice (some ⟨bo, oo, none⟩) k cO, .int .i64 t] ∧ Room _ (w.heap.size + 1) [.slice (some ⟨bd, od, none⟩) k cD, .slice aE k cE, .slice aL k cL, .slice aF k cF, .slice (some ⟨br, or, none⟩) k cR] ∧ Room _ (w.heap.size + 1 + 1) [.int .i64 0, .int .i64 0, .int .i64 0, .int .i64 0, .int .i64 0, .int .i64 0, .slice none 0 0, .slice none 0 0, .int .i64 0] ∧ Room _ w4.heap.size [.int .i64 (k : Int), .int .i64 l, .int .i64 d, .int .i64 r, .int .i64 p, .int .i64 s, .slice (some ⟨gK, 0, none⟩) k cK2, .slice (some ⟨gO, 0, none⟩) k cO2, .int .i64 t] ∧ Below w.heap.size w _) := ⟨oK, oO, R0, RT, RQ, RX, BB⟩
  clear oK oO R0 RT RQ RX BB
  go_loopw [7] (fun v wr => ∃ q : Nat, q ≤ k ∧ v = .int .i64 (q : Int) ∧ Hid (Ow.Own wr w.heap.size gK k cK2 (UP (eb rs) (fun _ => 0) (FK ks fs) q) ∧ Ow.Own wr w.heap.size gO k cO2 (UP (CB (k : Int) l d r p s ks k os k t ds es ls fs rs k k) (fun j => el (OP os ds k) j + CV (k : Int) l d r p s ks k os k t ds es ls fs rs k k j) (OP os ds k) q) ∧ Room wr w.heap.size [.int .i64 (k : Int), .int .i64 l, .int .i64 d, .int .i64 r, .int .i64 p, .int .i64 s, .slice (some ⟨b, off, none⟩) k cK, .slice (some ⟨bo, oo, none⟩) k cO, .int .i64 t] ∧ Room wr (w.heap.size + 1) [.slice (some ⟨bd, od, none⟩) k cD, .slice aE k cE, .slice aL k cL, .slice aF k cF, .slice (some ⟨br, or, none⟩) k cR] ∧ Room wr (w.heap.size + 1 + 1) [.int .i64 0, .int .i64 0, .int .i64 0, .int .i64 0, .int .i64 0, .int .i64 0, .slice none 0 0, .slice none 0 0, .int .i64 0] ∧ Room wr w4.heap.size [.int .i64 (k : Int), .int .i64 l, .int .i64 d, .int .i64 r, .int .i64 p, .int .i64 s, .slice (some ⟨gK, 0, none⟩) k cK2, .slice (some ⟨gO, 0, none⟩) k cO2, .int .i64 t] ∧ Below w.heap.size w wr)) (fun v _ => k - (intOf v).toNat)
  case atStart => exact ⟨0, Nat.zero_le _, rfl, HH⟩
  case round =>
    obtain ⟨q, hq, rfl, H⟩ := hrel
    obtain ⟨oK, oO, R0, RT, RQ, RX, BB⟩ := H.out
    clear H HH
    by_cases hlt : q < k
    · have hi : (q : Int) < k := by omega
      have key : Calls Tryz.prog 43 #[.agg #[.int .i64 (k : Int), .int .i64 l, .int .i64 d, .int .i64 r, .int .i64 p, .int .i64 s, .slice (some ⟨b, off, none⟩) k cK, .slice (some ⟨bo, oo, none⟩) k cO, .int .i64 t], .agg #[.slice (some ⟨bd, od, none⟩) k cD, .slice aE k cE, .slice aL k cL, .slice aF k cF, .slice (some ⟨br, or, none⟩) k cR], .int .i64 (q : Int)] wr fun e w' => e = .returned (.tuple #[.int .i64 (CV (k : Int) l d r p s ks k os k t ds es ls fs rs k k q), .bool (CB (k : Int) l d r p s ks k os k t ds es ls fs rs k k q)]) ∧ Below wr.heap.size wr w' := s_CorrectionOf (k : Int) l d r p s t b off k cK _ k cO _ _ _ _ _ k cD k cE k cL k cF k cR ks os ds es ls fs rs _ hz (fun j hj => by rw [BB.cell (p := ⟨b, off + j, none⟩) hb]; exact hc j hj) (Nat.lt_of_lt_of_le hb BB.size) ⟨hzo, .inr ⟨bo, oo, rfl, (Nat.lt_of_lt_of_le hbo BB.size), (fun j hj => by rw [BB.cell (p := ⟨bo, oo + j, none⟩) hbo]; exact hco j hj)⟩⟩ ((rD.later BB (Nat.le_refl _)).more BB.size) ((rE.later BB (Nat.le_refl _)).more BB.size) ((rL.later BB (Nat.le_refl _)).more BB.size) ((rF.later BB (Nat.le_refl _)).more BB.size) ((rR.later BB (Nat.le_refl _)).more BB.size) hk hk hk hk (q : Int)
      have CVq := cv_le (k : Int) l d r p s ks k os k t ds es ls fs rs k k q
      have c0 := R0.cell 0 rfl
      have c1 := R0.cell 1 rfl
      have c2 := R0.cell 2 rfl
      have c3 := R0.cell 3 rfl
      have c4 := R0.cell 4 rfl
      have c5 := R0.cell 5 rfl
      have c6 := R0.cell 6 rfl
      have c7 := R0.cell 7 rfl
      have c8 := R0.cell 8 rfl
      have y0 := RT.cell 0 rfl
      have y1 := RT.cell 1 rfl
      have y2 := RT.cell 2 rfl
      have y3 := RT.cell 3 rfl
      have y4 := RT.cell 4 rfl
      have x6 := RX.cell 6 rfl
      go_wp2_with fail
      refine (key).mono ?_
      rintro e w7 ⟨rfl, b7⟩
      clear key
      clear c0 c1 c2 c3 c4 c5 c6 c7 c8
      clear y0 y1 y2 y3 y4
      clear x6
      have z_b7 := b7.size
      (try simp at z_b7)
      replace R0 := R0.below b7
      replace RT := RT.below b7
      replace RQ := RQ.below b7
      replace RX := RX.below b7
      replace oK := oK.later b7 oK.lt
      replace oO := oO.later b7 oO.lt
      replace BB := BB.trans (b7.mono BB.size)
      have x6 := RX.cell 6 rfl
      have x7 := RX.cell 7 rfl
      have hcK := (oK.cell q hlt).1
      have hfK := (oK.cell q hlt).2
      have hcO := (oO.cell q hlt).1
      have hfO := (oO.cell q hlt).2
      rw [up_el _ _ _ _ _ (by rw [op_len]; exact hlt), if_neg (by omega)] at hcO
      have bnd : -1000001000000000 ≤ el (OP os ds k) q ∧ el (OP os ds k) q ≤ 1000001000000000 := by rw [op_el os ds hlt]; have := hO.out q hlt; have := hD.out q hlt; omega
      have E1 : Hid (UP (CB (k : Int) l d r p s ks k os k t ds es ls fs rs k k) (fun j => el (OP os ds k) j + CV (k : Int) l d r p s ks k os k t ds es ls fs rs k k j) (OP os ds k) (q + 1) = if CB (k : Int) l d r p s ks k os k t ds es ls fs rs k k q = true then (UP (CB (k : Int) l d r p s ks k os k t ds es ls fs rs k k) (fun j => el (OP os ds k) j + CV (k : Int) l d r p s ks k os k t ds es ls fs rs k k j) (OP os ds k) q).set q (el (OP os ds k) q + CV (k : Int) l d r p s ks k os k t ds es ls fs rs k k q) else UP (CB (k : Int) l d r p s ks k os k t ds es ls fs rs k k) (fun j => el (OP os ds k) j + CV (k : Int) l d r p s ks k os k t ds es ls fs rs k k j) (OP os ds k) q) := rfl
      have E2 : Hid (UP (eb rs) (fun _ => 0) (FK ks fs) (q + 1) = if eb rs q = true then (UP (eb rs) (fun _ => 0) (FK ks fs) q).set q 0 else UP (eb rs) (fun _ => 0) (FK ks fs) q) := rfl
      obtain ⟨X, hX⟩ : ∃ X, CV (k : Int) l d r p s ks k os k t ds es ls fs rs k k q = X := ⟨_, rfl⟩
      obtain ⟨Y, hY⟩ : ∃ Y, CB (k : Int) l d r p s ks k os k t ds es ls fs rs k k q = Y := ⟨_, rfl⟩
      obtain ⟨O, hOe⟩ : ∃ O, el (OP os ds k) q = O := ⟨_, rfl⟩
      rw [hX] at CVq E1 ⊢
      rw [hY] at E1 ⊢
      rw [hOe] at bnd E1 hcO
      have hw : IntKind.i64.wrap (O + X) = O + X := by rw [IntKind.wrap_i64]; omega
      clear hX hY hOe bnd CVq
      have hcR : w7.cell? ⟨br, or + q, none⟩ = some (.bool (eb rs q)) := by rw [BB.cell (p := ⟨br, or + q, none⟩) hBr]; exact hcr q hlt
      have lBr := Nat.lt_of_lt_of_le hBr BB.size
      have y4 := RT.cell 4 rfl
      have hne1 : gO ≠ br := by omega
      have hne2 : gK ≠ br := by omega
      have hS1 : w.heap.size + 1 ≠ gO := by omega
      have hS2 : gO ≠ w.heap.size + 1 := by omega
      have hS3 : gO ≠ w4.heap.size := by omega
      have hS4 : w4.heap.size ≠ gO := by omega
      cases Y with
      | true =>
        cases hR : eb rs q with
        | true =>
          rw [hR] at hcR
          have HN : Hid (Ow.Own ((w7.drew.setCell ⟨gO, q, none⟩ (.int .i64 (O + X))).setCell ⟨gK, q, none⟩ (.int .i64 0)) w.heap.size gK k cK2 (UP (eb rs) (fun _ => 0) (FK ks fs) (q + 1)) ∧ Ow.Own ((w7.drew.setCell ⟨gO, q, none⟩ (.int .i64 (O + X))).setCell ⟨gK, q, none⟩ (.int .i64 0)) w.heap.size gO k cO2 (UP (CB (k : Int) l d r p s ks k os k t ds es ls fs rs k k) (fun j => el (OP os ds k) j + CV (k : Int) l d r p s ks k os k t ds es ls fs rs k k j) (OP os ds k) (q + 1)) ∧ Room ((w7.drew.setCell ⟨gO, q, none⟩ (.int .i64 (O + X))).setCell ⟨gK, q, none⟩ (.int .i64 0)) w.heap.size [.int .i64 (k : Int), .int .i64 l, .int .i64 d, .int .i64 r, .int .i64 p, .int .i64 s, .slice (some ⟨b, off, none⟩) k cK, .slice (some ⟨bo, oo, none⟩) k cO, .int .i64 t] ∧ Room ((w7.drew.setCell ⟨gO, q, none⟩ (.int .i64 (O + X))).setCell ⟨gK, q, none⟩ (.int .i64 0)) (w.heap.size + 1) [.slice (some ⟨bd, od, none⟩) k cD, .slice aE k cE, .slice aL k cL, .slice aF k cF, .slice (some ⟨br, or, none⟩) k cR] ∧ Room ((w7.drew.setCell ⟨gO, q, none⟩ (.int .i64 (O + X))).setCell ⟨gK, q, none⟩ (.int .i64 0)) (w.heap.size + 1 + 1) [.int .i64 0, .int .i64 0, .int .i64 0, .int .i64 0, .int .i64 0, .int .i64 0, .slice none 0 0, .slice none 0 0, .int .i64 0] ∧ Room ((w7.drew.setCell ⟨gO, q, none⟩ (.int .i64 (O + X))).setCell ⟨gK, q, none⟩ (.int .i64 0)) w4.heap.size [.int .i64 (k : Int), .int .i64 l, .int .i64 d, .int .i64 r, .int .i64 p, .int .i64 s, .slice (some ⟨gK, 0, none⟩) k cK2, .slice (some ⟨gO, 0, none⟩) k cO2, .int .i64 t] ∧ Below w.heap.size w ((w7.drew.setCell ⟨gO, q, none⟩ (.int .i64 (O + X))).setCell ⟨gK, q, none⟩ (.int .i64 0))) := by
            unfold Hid
            rw [E1.out, if_pos rfl, E2.out, if_pos hR]
            exact ⟨own_put (own_other (w := w7.drew) oK (q := gO) (by omega) q (.int .i64 (O + X))) hlt 0, own_other (own_put (w := w7.drew) oO hlt (O + X)) (q := gK) (by omega) q (.int .i64 0), Room.setOther (Room.setOther (R0.drew) (q := gO) (by omega) q (.int .i64 (O + X))) (q := gK) (by omega) q (.int .i64 0), Room.setOther (Room.setOther (RT.drew) (q := gO) (by omega) q (.int .i64 (O + X))) (q := gK) (by omega) q (.int .i64 0), Room.setOther (Room.setOther (RQ.drew) (q := gO) (by omega) q (.int .i64 (O + X))) (q := gK) (by omega) q (.int .i64 0), Room.setOther (Room.setOther (RX.drew) (q := gO) (by omega) q (.int .i64 (O + X))) (q := gK) (by omega) q (.int .i64 0), Below.setCell (Below.setCell (BB.drew) (p := ⟨gO, q, none⟩) (by simp; omega) (.int .i64 (O + X))) (p := ⟨gK, q, none⟩) (by simp; omega) (.int .i64 0)⟩
          clear oK oO R0 RT RQ RX BB E1 E2
          go_wp2_with fail
          go_region_law (fail)
          all_goals
            go_wp2_with fail
            go_roundw
            case rel => exact ⟨q + 1, by omega, by go_num, HN⟩
            case measure => simp [intOf]; omega
        | false =>
          rw [hR] at hcR
          have HN : Hid (Ow.Own (w7.drew.setCell ⟨gO, q, none⟩ (.int .i64 (O + X))) w.heap.size gK k cK2 (UP (eb rs) (fun _ => 0) (FK ks fs) (q + 1)) ∧ Ow.Own (w7.drew.setCell ⟨gO, q, none⟩ (.int .i64 (O + X))) w.heap.size gO k cO2 (UP (CB (k : Int) l d r p s ks k os k t ds es ls fs rs k k) (fun j => el (OP os ds k) j + CV (k : Int) l d r p s ks k os k t ds es ls fs rs k k j) (OP os ds k) (q + 1)) ∧ Room (w7.drew.setCell ⟨gO, q, none⟩ (.int .i64 (O + X))) w.heap.size [.int .i64 (k : Int), .int .i64 l, .int .i64 d, .int .i64 r, .int .i64 p, .int .i64 s, .slice (some ⟨b, off, none⟩) k cK, .slice (some ⟨bo, oo, none⟩) k cO, .int .i64 t] ∧ Room (w7.drew.setCell ⟨gO, q, none⟩ (.int .i64 (O + X))) (w.heap.size + 1) [.slice (some ⟨bd, od, none⟩) k cD, .slice aE k cE, .slice aL k cL, .slice aF k cF, .slice (some ⟨br, or, none⟩) k cR] ∧ Room (w7.drew.setCell ⟨gO, q, none⟩ (.int .i64 (O + X))) (w.heap.size + 1 + 1) [.int .i64 0, .int .i64 0, .int .i64 0, .int .i64 0, .int .i64 0, .int .i64 0, .slice none 0 0, .slice none 0 0, .int .i64 0] ∧ Room (w7.drew.setCell ⟨gO, q, none⟩ (.int .i64 (O + X))) w4.heap.size [.int .i64 (k : Int), .int .i64 l, .int .i64 d, .int .i64 r, .int .i64 p, .int .i64 s, .slice (some ⟨gK, 0, none⟩) k cK2, .slice (some ⟨gO, 0, none⟩) k cO2, .int .i64 t] ∧ Below w.heap.size w (w7.drew.setCell ⟨gO, q, none⟩ (.int .i64 (O + X)))) := by
            unfold Hid
            rw [E1.out, if_pos rfl, E2.out, if_neg (by simp [hR])]
            exact ⟨own_other (w := w7.drew) oK (q := gO) (by omega) q (.int .i64 (O + X)), own_put (w := w7.drew) oO hlt (O + X), Room.setOther (R0.drew) (q := gO) (by omega) q (.int .i64 (O + X)), Room.setOther (RT.drew) (q := gO) (by omega) q (.int .i64 (O + X)), Room.setOther (RQ.drew) (q := gO) (by omega) q (.int .i64 (O + X)), Room.setOther (RX.drew) (q := gO) (by omega) q (.int .i64 (O + X)), Below.setCell (BB.drew) (p := ⟨gO, q, none⟩) (by simp; omega) (.int .i64 (O + X))⟩
          clear oK oO R0 RT RQ RX BB E1 E2
          go_wp2_with fail
          go_region_law (fail)
          all_goals
            go_wp2_with fail
            go_roundw
            case rel => exact ⟨q + 1, by omega, by go_num, HN⟩
            case measure => simp [intOf]; omega
      | false =>
        cases hR : eb rs q with
        | true =>
          rw [hR] at hcR
          have HN : Hid (Ow.Own (w7.setCell ⟨gK, q, none⟩ (.int .i64 0)) w.heap.size gK k cK2 (UP (eb rs) (fun _ => 0) (FK ks fs) (q + 1)) ∧ Ow.Own (w7.setCell ⟨gK, q, none⟩ (.int .i64 0)) w.heap.size gO k cO2 (UP (CB (k : Int) l d r p s ks k os k t ds es ls fs rs k k) (fun j => el (OP os ds k) j + CV (k : Int) l d r p s ks k os k t ds es ls fs rs k k j) (OP os ds k) (q + 1)) ∧ Room (w7.setCell ⟨gK, q, none⟩ (.int .i64 0)) w.heap.size [.int .i64 (k : Int), .int .i64 l, .int .i64 d, .int .i64 r, .int .i64 p, .int .i64 s, .slice (some ⟨b, off, none⟩) k cK, .slice (some ⟨bo, oo, none⟩) k cO, .int .i64 t] ∧ Room (w7.setCell ⟨gK, q, none⟩ (.int .i64 0)) (w.heap.size + 1) [.slice (some ⟨bd, od, none⟩) k cD, .slice aE k cE, .slice aL k cL, .slice aF k cF, .slice (some ⟨br, or, none⟩) k cR] ∧ Room (w7.setCell ⟨gK, q, none⟩ (.int .i64 0)) (w.heap.size + 1 + 1) [.int .i64 0, .int .i64 0, .int .i64 0, .int .i64 0, .int .i64 0, .int .i64 0, .slice none 0 0, .slice none 0 0, .int .i64 0] ∧ Room (w7.setCell ⟨gK, q, none⟩ (.int .i64 0)) w4.heap.size [.int .i64 (k : Int), .int .i64 l, .int .i64 d, .int .i64 r, .int .i64 p, .int .i64 s, .slice (some ⟨gK, 0, none⟩) k cK2, .slice (some ⟨gO, 0, none⟩) k cO2, .int .i64 t] ∧ Below w.heap.size w (w7.setCell ⟨gK, q, none⟩ (.int .i64 0))) := by
            unfold Hid
            rw [E1.out, if_neg (by simp), E2.out, if_pos hR]
            exact ⟨own_put (oK) hlt 0, own_other (oO) (q := gK) (by omega) q (.int .i64 0), Room.setOther (R0) (q := gK) (by omega) q (.int .i64 0), Room.setOther (RT) (q := gK) (by omega) q (.int .i64 0), Room.setOther (RQ) (q := gK) (by omega) q (.int .i64 0), Room.setOther (RX) (q := gK) (by omega) q (.int .i64 0), Below.setCell (BB) (p := ⟨gK, q, none⟩) (by simp; omega) (.int .i64 0)⟩
          clear oK oO R0 RT RQ RX BB E1 E2
          go_wp2_with fail
          go_roundw
          case rel => exact ⟨q + 1, by omega, by go_num, HN⟩
          case measure => simp [intOf]; omega
        | false =>
          rw [hR] at hcR
          have HN : Hid (Ow.Own w7 w.heap.size gK k cK2 (UP (eb rs) (fun _ => 0) (FK ks fs) (q + 1)) ∧ Ow.Own w7 w.heap.size gO k cO2 (UP (CB (k : Int) l d r p s ks k os k t ds es ls fs rs k k) (fun j => el (OP os ds k) j + CV (k : Int) l d r p s ks k os k t ds es ls fs rs k k j) (OP os ds k) (q + 1)) ∧ Room w7 w.heap.size [.int .i64 (k : Int), .int .i64 l, .int .i64 d, .int .i64 r, .int .i64 p, .int .i64 s, .slice (some ⟨b, off, none⟩) k cK, .slice (some ⟨bo, oo, none⟩) k cO, .int .i64 t] ∧ Room w7 (w.heap.size + 1) [.slice (some ⟨bd, od, none⟩) k cD, .slice aE k cE, .slice aL k cL, .slice aF k cF, .slice (some ⟨br, or, none⟩) k cR] ∧ Room w7 (w.heap.size + 1 + 1) [.int .i64 0, .int .i64 0, .int .i64 0, .int .i64 0, .int .i64 0, .int .i64 0, .slice none 0 0, .slice none 0 0, .int .i64 0] ∧ Room w7 w4.heap.size [.int .i64 (k : Int), .int .i64 l, .int .i64 d, .int .i64 r, .int .i64 p, .int .i64 s, .slice (some ⟨gK, 0, none⟩) k cK2, .slice (some ⟨gO, 0, none⟩) k cO2, .int .i64 t] ∧ Below w.heap.size w w7) := by
            unfold Hid
            rw [E1.out, if_neg (by simp), E2.out, if_neg (by simp [hR])]
            exact ⟨oK, oO, R0, RT, RQ, RX, BB⟩
          clear oK oO R0 RT RQ RX BB E1 E2
          go_wp2_with fail
          go_roundw
          case rel => exact ⟨q + 1, by omega, by go_num, HN⟩
          case measure => simp [intOf]; omega
    · have hi : ¬ (q : Int) < k := by omega
      have e : q = k := by omega
      subst e
      have hwt : IntKind.i64.wrap (t + 1) = t + 1 := by rw [IntKind.wrap_i64]; omega
      have oK2 : Ow.Own wr w.heap.size gK q cK2 (TK (q : Int) l d r p s ks q os q t ds es ls fs rs q q) := by rw [← tk_rs h1.out hz]; exact oK
      have oO2 : Ow.Own wr w.heap.size gO q cO2 (TF (q : Int) l d r p s ks q os q t ds es ls fs rs q q) := by unfold TF; rw [← op_mo hzo]; exact oO
      clear oK oO
      have x6 := RX.cell 6 rfl
      have x0 := RX.cell 0 rfl
      have x1 := RX.cell 1 rfl
      have x2 := RX.cell 2 rfl
      have x3 := RX.cell 3 rfl
      have x4 := RX.cell 4 rfl
      have x5 := RX.cell 5 rfl
      have x7 := RX.cell 7 rfl
      have x8 := RX.cell 8 rfl
      have f8 := RX.froz 8 rfl
      have c8 := R0.cell 8 rfl
      go_wp2_with fail
      replace R0 := R0.setOther (q := w4.heap.size) (by omega) 8 (.int .i64 (t + 1))
      replace RT := RT.setOther (q := w4.heap.size) (by omega) 8 (.int .i64 (t + 1))
      replace RQ := RQ.setOther (q := w4.heap.size) (by omega) 8 (.int .i64 (t + 1))
      replace RX := RX.set 8 (.int .i64 (t + 1))
      dsimp only [List.set] at RX
      replace oK2 := own_other oK2 (q := w4.heap.size) (by omega) 8 (.int .i64 (t + 1))
      replace oO2 := own_other oO2 (q := w4.heap.size) (by omega) 8 (.int .i64 (t + 1))
      replace BB := BB.setCell (p := ⟨w4.heap.size, 8, none⟩) (by simp; omega) (.int .i64 (t + 1))
      clear x0 x1 x2 x3 x4 x5 x6 x7 x8 f8 c8
      refine (Wl.s_WorldOk (q : Int) l d r p s (t + 1) _ _ q cK2 q cO2 (TK (q : Int) l d r p s ks q os q t ds es ls fs rs q q) (TF (q : Int) l d r p s ks q os q t ds es ls fs rs q q) _ oK2.has.row oO2.has.row hk hk).mono ?_
      rintro e w8 ⟨rfl, b8⟩
      have z_b8 := b8.size
      (try simp at z_b8)
      replace R0 := R0.below b8
      replace RT := RT.below b8
      replace RQ := RQ.below b8
      replace RX := RX.below b8
      replace oK2 := oK2.later b8 oK2.lt
      replace oO2 := oO2.later b8 oO2.lt
      replace BB := BB.trans (b8.mono BB.size)
      cases h2 : WO (q : Int) l d r p s (TK (q : Int) l d r p s ks q os q t ds es ls fs rs q q) q (TF (q : Int) l d r p s ks q os q t ds es ls fs rs q q) q (t + 1) with
      | false =>
        have E : Hid (RB (q : Int) l d r p s ks q os q t ds es ls fs rs q q = false ∧ RK (q : Int) l d r p s ks q os q t ds es ls fs rs q q = ks ∧ RO (q : Int) l d r p s ks q os q t ds es ls fs rs q q = os ∧ RU (q : Int) l d r p s ks q os q t ds es ls fs rs q q = t) := by
          have e1 : RB (q : Int) l d r p s ks q os q t ds es ls fs rs q q = false := by unfold RB; rw [h1.out, h2]; rfl
          refine ⟨e1, ?_, ?_, ?_⟩
          · unfold RK; rw [e1]; rfl
          · unfold RO; rw [e1]; rfl
          · unfold RU; rw [e1]; rfl
        clear RX oK2 oO2
        have c0 := R0.cell 0 rfl
        have c1 := R0.cell 1 rfl
        have c2 := R0.cell 2 rfl
        have c3 := R0.cell 3 rfl
        have c4 := R0.cell 4 rfl
        have c5 := R0.cell 5 rfl
        have c6 := R0.cell 6 rfl
        have c7 := R0.cell 7 rfl
        have c8 := R0.cell 8 rfl
        go_wp2_with fail
        refine (l5Copy (q : Int) l d r p s t b off q cK bo oo q cO ks os _ hz (fun j hj => by rw [BB.cell (p := ⟨b, off + j, none⟩) hb]; exact hc j hj) (Nat.lt_of_lt_of_le hb BB.size) hzo (fun j hj => by rw [BB.cell (p := ⟨bo, oo + j, none⟩) hbo]; exact hco j hj) (Nat.lt_of_lt_of_le hbo BB.size) hk hk).mono ?_
        rintro e w9 ⟨⟨gP, cP, gQ, cQ, rfl, oP, oQ, gPQ⟩, bP⟩
        clear c0 c1 c2 c3 c4 c5 c6 c7 c8
        have lQ0 := RQ.lt (by simp)
        have loP := oP.data.2.1
        have loQ := oQ.data.2.1
        (try simp at loP)
        (try simp at loQ)
        have z_bP := bP.size
        (try simp at z_bP)
        replace R0 := R0.below bP
        replace RT := RT.below bP
        replace RQ := RQ.below bP
        replace BB := BB.trans (bP.mono BB.size)
        replace oP := oP.mono (B' := w.heap.size) (by omega)
        replace oQ := oQ.mono (B' := w.heap.size) (by omega)
        have d0 := RQ.cell 0 rfl
        have d1 := RQ.cell 1 rfl
        have d2 := RQ.cell 2 rfl
        have d3 := RQ.cell 3 rfl
        have d4 := RQ.cell 4 rfl
        have d5 := RQ.cell 5 rfl
        have d6 := RQ.cell 6 rfl
        have d7 := RQ.cell 7 rfl
        have d8 := RQ.cell 8 rfl
        have g0 := RQ.froz 0 rfl
        have g1 := RQ.froz 1 rfl
        have g2 := RQ.froz 2 rfl
        have g3 := RQ.froz 3 rfl
        have g4 := RQ.froz 4 rfl
        have g5 := RQ.froz 5 rfl
        have g6 := RQ.froz 6 rfl
        have g7 := RQ.froz 7 rfl
        have g8 := RQ.froz 8 rfl
        go_wp2
        replace oP := own_over9 oP (g := w.heap.size + 1 + 1) (by omega) (.int .i64 (q : Int)) (.int .i64 l) (.int .i64 d) (.int .i64 r) (.int .i64 p) (.int .i64 s) (.slice (some ⟨gP, 0, none⟩) q cP) (.slice (some ⟨gQ, 0, none⟩) q cQ) (.int .i64 t)
        replace oQ := own_over9 oQ (g := w.heap.size + 1 + 1) (by omega) (.int .i64 (q : Int)) (.int .i64 l) (.int .i64 d) (.int .i64 r) (.int .i64 p) (.int .i64 s) (.slice (some ⟨gP, 0, none⟩) q cP) (.slice (some ⟨gQ, 0, none⟩) q cQ) (.int .i64 t)
        replace RQ := Rm.over9 RQ (.int .i64 (q : Int)) (.int .i64 l) (.int .i64 d) (.int .i64 r) (.int .i64 p) (.int .i64 s) (.slice (some ⟨gP, 0, none⟩) q cP) (.slice (some ⟨gQ, 0, none⟩) q cQ) (.int .i64 t)
        replace BB := below_over9 BB (g := w.heap.size + 1 + 1) (by omega) (.int .i64 (q : Int)) (.int .i64 l) (.int .i64 d) (.int .i64 r) (.int .i64 p) (.int .i64 s) (.slice (some ⟨gP, 0, none⟩) q cP) (.slice (some ⟨gQ, 0, none⟩) q cQ) (.int .i64 t)
        refine bodyPost_ret (v := .tuple #[wld (q : Int) l d r p s (.slice (some ⟨gP, 0, none⟩) q cP) (.slice (some ⟨gQ, 0, none⟩) q cQ) t, .bool false]) (retWB Tryz.results19 rfl rfl RQ) rfl ⟨⟨gP, cP, gQ, cQ, by rw [E.out.1, E.out.2.2.2], by rw [E.out.2.1]; exact oP, by rw [E.out.2.2.1]; exact oQ, by omega⟩, BB⟩
      | true =>
        have E : Hid (RB (q : Int) l d r p s ks q os q t ds es ls fs rs q q = true ∧ RK (q : Int) l d r p s ks q os q t ds es ls fs rs q q = TK (q : Int) l d r p s ks q os q t ds es ls fs rs q q ∧ RO (q : Int) l d r p s ks q os q t ds es ls fs rs q q = TF (q : Int) l d r p s ks q os q t ds es ls fs rs q q ∧ RU (q : Int) l d r p s ks q os q t ds es ls fs rs q q = t + 1) := by
          have e1 : RB (q : Int) l d r p s ks q os q t ds es ls fs rs q q = true := by unfold RB; rw [h1.out, h2]; rfl
          refine ⟨e1, ?_, ?_, ?_⟩
          · unfold RK; rw [e1]; rfl
          · unfold RO; rw [e1]; rfl
          · unfold RU; rw [e1]; rfl
        have x0 := RX.cell 0 rfl
        have x1 := RX.cell 1 rfl
        have x2 := RX.cell 2 rfl
        have x3 := RX.cell 3 rfl
        have x4 := RX.cell 4 rfl
        have x5 := RX.cell 5 rfl
        have x6 := RX.cell 6 rfl
        have x7 := RX.cell 7 rfl
        have x8 := RX.cell 8 rfl
        have d0 := RQ.cell 0 rfl
        have d1 := RQ.cell 1 rfl
        have d2 := RQ.cell 2 rfl
        have d3 := RQ.cell 3 rfl
        have d4 := RQ.cell 4 rfl
        have d5 := RQ.cell 5 rfl
        have d6 := RQ.cell 6 rfl
        have d7 := RQ.cell 7 rfl
        have d8 := RQ.cell 8 rfl
        have g0 := RQ.froz 0 rfl
        have g1 := RQ.froz 1 rfl
        have g2 := RQ.froz 2 rfl
        have g3 := RQ.froz 3 rfl
        have g4 := RQ.froz 4 rfl
        have g5 := RQ.froz 5 rfl
        have g6 := RQ.froz 6 rfl
        have g7 := RQ.froz 7 rfl
        have g8 := RQ.froz 8 rfl
        go_wp2
        replace oK2 := own_over9 oK2 (g := w.heap.size + 1 + 1) (by omega) (.int .i64 (q : Int)) (.int .i64 l) (.int .i64 d) (.int .i64 r) (.int .i64 p) (.int .i64 s) (.slice (some ⟨gK, 0, none⟩) q cK2) (.slice (some ⟨gO, 0, none⟩) q cO2) (.int .i64 (t + 1))
        replace oO2 := own_over9 oO2 (g := w.heap.size + 1 + 1) (by omega) (.int .i64 (q : Int)) (.int .i64 l) (.int .i64 d) (.int .i64 r) (.int .i64 p) (.int .i64 s) (.slice (some ⟨gK, 0, none⟩) q cK2) (.slice (some ⟨gO, 0, none⟩) q cO2) (.int .i64 (t + 1))
        replace RQ := Rm.over9 RQ (.int .i64 (q : Int)) (.int .i64 l) (.int .i64 d) (.int .i64 r) (.int .i64 p) (.int .i64 s) (.slice (some ⟨gK, 0, none⟩) q cK2) (.slice (some ⟨gO, 0, none⟩) q cO2) (.int .i64 (t + 1))
        replace BB := below_over9 BB (g := w.heap.size + 1 + 1) (by omega) (.int .i64 (q : Int)) (.int .i64 l) (.int .i64 d) (.int .i64 r) (.int .i64 p) (.int .i64 s) (.slice (some ⟨gK, 0, none⟩) q cK2) (.slice (some ⟨gO, 0, none⟩) q cO2) (.int .i64 (t + 1))
        refine bodyPost_ret (v := .tuple #[wld (q : Int) l d r p s (.slice (some ⟨gK, 0, none⟩) q cK2) (.slice (some ⟨gO, 0, none⟩) q cO2) (t + 1), .bool true]) (retWB Tryz.results19 rfl rfl RQ) rfl ⟨⟨gK, cK2, gO, cO2, by rw [E.out.1, E.out.2.2.2], by rw [E.out.2.1]; exact oK2, by rw [E.out.2.2.1]; exact oO2, gne⟩, BB⟩

end Go.Proofs.YtcgcmceobmpdiaaGreat.Tu

namespace Go.Proofs.YtcgcmceobmpdiaaGreat.Tu
open Go.ChangeShapes Go.WideShapes Go.ChangeAt Go.RowKit
open Ls (el Row)
open Ow (Has ints)
open Rd (Flags)
open Bo (eb HasB)
open Rm (Room)
open Wl (wld c9 WO bad allIn)
open Ss (RowsAt ln rw_ tot)
open Tr (MV TT)
set_option linter.unusedVariables false
set_option linter.unusedSimpArgs false

set_option maxHeartbeats 8000000 in
set_option maxRecDepth 100000 in
theorem it_a (n l d r p s t : Int) (b off k cK : Nat) (aO : Option Addr) (m cO : Nat) (aD aE aL aF aR : Option Addr) (nD cD nE cE nL cL nF cF nR cR : Nat) (ks os ds : List Int) (es ls : List (List Int)) (fs rs : List Bool) (w : World) (hz : ks.length = k) (hc : ∀ j, j < k → w.cell? ⟨b, off + j, none⟩ = some (.int .i64 (el ks j))) (hb : b < w.heap.size) (rO : Row w w.heap.size aO m os) (rD : Row w w.heap.size aD nD ds) (rE : RowsAt w w.heap.size aE nE es) (rL : RowsAt w w.heap.size aL nL ls) (rF : Flags w w.heap.size aF nF fs) (rR : Flags w w.heap.size aR nR rs) (hk : k ≤ 1048576) (hm : m ≤ 1048576) (hnF : nF ≤ 1048576) (hnR : nR ≤ 1048576) (hnD : nD ≤ 1048576) (hnE : nE ≤ 1048576) (hnL : nL ≤ 1048576) (htE : tot es nE ≤ 1048576) (htL : tot ls nL ≤ 1048576) (h0 : Hid (WO n l d r p s ks k os m t = false)) :
    Calls Tryz.prog 25 #[wld n l d r p s (.slice (some ⟨b, off, none⟩) k cK) (.slice aO m cO) t, trn (.slice aD nD cD) (.slice aE nE cE) (.slice aL nL cL) (.slice aF nF cF) (.slice aR nR cR)] w fun e w' => e = .returned (.tuple #[.agg #[.int .i64 0, .int .i64 0, .int .i64 0, .int .i64 0, .int .i64 0, .int .i64 0, .slice none 0 0, .slice none 0 0, .int .i64 0], .bool false]) ∧ Below w.heap.size w w' := by
  have R0 : Room (((w.alloc (.cells #[.int .i64 n, .int .i64 l, .int .i64 d, .int .i64 r, .int .i64 p, .int .i64 s, .slice (some ⟨b, off, none⟩) k cK, .slice aO m cO, .int .i64 t] 32)).alloc (.cells #[.slice aD nD cD, .slice aE nE cE, .slice aL nL cL, .slice aF nF cF, .slice aR nR cR] 53)).alloc (.cells #[.int .i64 0, .int .i64 0, .int .i64 0, .int .i64 0, .int .i64 0, .int .i64 0, .slice none 0 0, .slice none 0 0, .int .i64 0] 32)) w.heap.size [.int .i64 n, .int .i64 l, .int .i64 d, .int .i64 r, .int .i64 p, .int .i64 s, .slice (some ⟨b, off, none⟩) k cK, .slice aO m cO, .int .i64 t] := ((Room.new w [.int .i64 n, .int .i64 l, .int .i64 d, .int .i64 r, .int .i64 p, .int .i64 s, .slice (some ⟨b, off, none⟩) k cK, .slice aO m cO, .int .i64 t] 32).alloc _).alloc _
  have RT : Room (((w.alloc (.cells #[.int .i64 n, .int .i64 l, .int .i64 d, .int .i64 r, .int .i64 p, .int .i64 s, .slice (some ⟨b, off, none⟩) k cK, .slice aO m cO, .int .i64 t] 32)).alloc (.cells #[.slice aD nD cD, .slice aE nE cE, .slice aL nL cL, .slice aF nF cF, .slice aR nR cR] 53)).alloc (.cells #[.int .i64 0, .int .i64 0, .int .i64 0, .int .i64 0, .int .i64 0, .int .i64 0, .slice none 0 0, .slice none 0 0, .int .i64 0] 32)) (w.heap.size + 1) [.slice aD nD cD, .slice aE nE cE, .slice aL nL cL, .slice aF nF cF, .slice aR nR cR] := (Room.at (w.alloc (.cells #[.int .i64 n, .int .i64 l, .int .i64 d, .int .i64 r, .int .i64 p, .int .i64 s, .slice (some ⟨b, off, none⟩) k cK, .slice aO m cO, .int .i64 t] 32)) [.slice aD nD cD, .slice aE nE cE, .slice aL nL cL, .slice aF nF cF, .slice aR nR cR] 53 _ (by simp)).alloc _
  have RQ : Room (((w.alloc (.cells #[.int .i64 n, .int .i64 l, .int .i64 d, .int .i64 r, .int .i64 p, .int .i64 s, .slice (some ⟨b, off, none⟩) k cK, .slice aO m cO, .int .i64 t] 32)).alloc (.cells #[.slice aD nD cD, .slice aE nE cE, .slice aL nL cL, .slice aF nF cF, .slice aR nR cR] 53)).alloc (.cells #[.int .i64 0, .int .i64 0, .int .i64 0, .int .i64 0, .int .i64 0, .int .i64 0, .slice none 0 0, .slice none 0 0, .int .i64 0] 32)) (w.heap.size + 1 + 1) [.int .i64 0, .int .i64 0, .int .i64 0, .int .i64 0, .int .i64 0, .int .i64 0, .slice none 0 0, .slice none 0 0, .int .i64 0] := Room.at ((w.alloc (.cells #[.int .i64 n, .int .i64 l, .int .i64 d, .int .i64 r, .int .i64 p, .int .i64 s, .slice (some ⟨b, off, none⟩) k cK, .slice aO m cO, .int .i64 t] 32)).alloc (.cells #[.slice aD nD cD, .slice aE nE cE, .slice aL nL cL, .slice aF nF cF, .slice aR nR cR] 53)) [.int .i64 0, .int .i64 0, .int .i64 0, .int .i64 0, .int .i64 0, .int .i64 0, .slice none 0 0, .slice none 0 0, .int .i64 0] 32 _ (by simp)
  have BB := (((Below.refl w.heap.size w).alloc (Nat.le_refl _) (.cells #[.int .i64 n, .int .i64 l, .int .i64 d, .int .i64 r, .int .i64 p, .int .i64 s, .slice (some ⟨b, off, none⟩) k cK, .slice aO m cO, .int .i64 t] 32)).alloc (by simp) (.cells #[.slice aD nD cD, .slice aE nE cE, .slice aL nL cL, .slice aF nF cF, .slice aR nR cR] 53)).alloc (by simp; omega) (.cells #[.int .i64 0, .int .i64 0, .int .i64 0, .int .i64 0, .int .i64 0, .int .i64 0, .slice none 0 0, .slice none 0 0, .int .i64 0] 32)
  go_enter Tryz.func25, Tryz.ntmps25
  go_wp2_with fail
  refine (Wl.i_WorldOk n l d r p s t _ _ k cK m cO ks os _ ⟨hz, .inr ⟨b, off, rfl, (Nat.lt_of_lt_of_le hb BB.size), (fun j hj => by rw [BB.cell (p := ⟨b, off + j, none⟩) hb]; exact hc j hj)⟩⟩ ((rO.later BB (Nat.le_refl _)).more BB.size) hk hm).mono ?_
  rintro e w2 ⟨rfl, b2⟩
  rw [h0.out]
  have z_b2 := b2.size
  (try simp at z_b2)
  replace R0 := R0.below b2
  replace RT := RT.below b2
  replace RQ := RQ.below b2
  replace BB := BB.trans (b2.mono BB.size)
  have d0 := RQ.cell 0 rfl
  have d1 := RQ.cell 1 rfl
  have d2 := RQ.cell 2 rfl
  have d3 := RQ.cell 3 rfl
  have d4 := RQ.cell 4 rfl
  have d5 := RQ.cell 5 rfl
  have d6 := RQ.cell 6 rfl
  have d7 := RQ.cell 7 rfl
  have d8 := RQ.cell 8 rfl
  have g0 := RQ.froz 0 rfl
  have g1 := RQ.froz 1 rfl
  have g2 := RQ.froz 2 rfl
  have g3 := RQ.froz 3 rfl
  have g4 := RQ.froz 4 rfl
  have g5 := RQ.froz 5 rfl
  have g6 := RQ.froz 6 rfl
  have g7 := RQ.froz 7 rfl
  have g8 := RQ.froz 8 rfl
  go_wp2
  replace RQ := Rm.over9 RQ (.int .i64 0) (.int .i64 0) (.int .i64 0) (.int .i64 0) (.int .i64 0) (.int .i64 0) (.slice none 0 0) (.slice none 0 0) (.int .i64 0)
  replace BB := below_over9 BB (g := w.heap.size + 1 + 1) (by omega) (.int .i64 0) (.int .i64 0) (.int .i64 0) (.int .i64 0) (.int .i64 0) (.int .i64 0) (.slice none 0 0) (.slice none 0 0) (.int .i64 0)
  refine bodyPost_ret (v := .tuple #[.agg #[.int .i64 0, .int .i64 0, .int .i64 0, .int .i64 0, .int .i64 0, .int .i64 0, .slice none 0 0, .slice none 0 0, .int .i64 0], .bool false]) (retWB Tryz.results25 rfl rfl RQ) rfl ⟨rfl, BB⟩

set_option maxHeartbeats 8000000 in
set_option maxRecDepth 100000 in
theorem it_b (l d r p s t : Int) (b off k cK bo oo cO : Nat) (aD aE aL aF aR : Option Addr) (nD cD nE cE nL cL nF cF nR cR : Nat) (ks os ds : List Int) (es ls : List (List Int)) (fs rs : List Bool) (w : World) (hz : ks.length = k) (hc : ∀ j, j < k → w.cell? ⟨b, off + j, none⟩ = some (.int .i64 (el ks j))) (hb : b < w.heap.size) (hzo : os.length = k) (hco : ∀ j, j < k → w.cell? ⟨bo, oo + j, none⟩ = some (.int .i64 (el os j))) (hbo : bo < w.heap.size) (rD : Row w w.heap.size aD nD ds) (rE : RowsAt w w.heap.size aE nE es) (rL : RowsAt w w.heap.size aL nL ls) (rF : Flags w w.heap.size aF nF fs) (rR : Flags w w.heap.size aR nR rs) (hk : k ≤ 1048576) (hnF : nF ≤ 1048576) (hnR : nR ≤ 1048576) (hnD : nD ≤ 1048576) (hnE : nE ≤ 1048576) (hnL : nL ≤ 1048576) (htE : tot es nE ≤ 1048576) (htL : tot ls nL ≤ 1048576) (h0 : Hid (WO (k : Int) l d r p s ks k os k t = true)) (h1 : Hid (TO (k : Int) l d r p s ks k os k t ds es ls fs rs nF nR = false)) :
    Calls Tryz.prog 25 #[.agg #[.int .i64 (k : Int), .int .i64 l, .int .i64 d, .int .i64 r, .int .i64 p, .int .i64 s, .slice (some ⟨b, off, none⟩) k cK, .slice (some ⟨bo, oo, none⟩) k cO, .int .i64 t], .agg #[.slice aD nD cD, .slice aE nE cE, .slice aL nL cL, .slice aF nF cF, .slice aR nR cR]] w fun e w' => (∃ gK cK2 gO cO2, e = .returned (.tuple #[wld (k : Int) l d r p s (.slice (some ⟨gK, 0, none⟩) k cK2) (.slice (some ⟨gO, 0, none⟩) k cO2) t, .bool false]) ∧ Ow.Own w' w.heap.size gK k cK2 ks ∧ Ow.Own w' w.heap.size gO k cO2 os ∧ gK ≠ gO) ∧ Below w.heap.size w w' := by
  have R0 : Room (((w.alloc (.cells #[.int .i64 (k : Int), .int .i64 l, .int .i64 d, .int .i64 r, .int .i64 p, .int .i64 s, .slice (some ⟨b, off, none⟩) k cK, .slice (some ⟨bo, oo, none⟩) k cO, .int .i64 t] 32)).alloc (.cells #[.slice aD nD cD, .slice aE nE cE, .slice aL nL cL, .slice aF nF cF, .slice aR nR cR] 53)).alloc (.cells #[.int .i64 0, .int .i64 0, .int .i64 0, .int .i64 0, .int .i64 0, .int .i64 0, .slice none 0 0, .slice none 0 0, .int .i64 0] 32)) w.heap.size [.int .i64 (k : Int), .int .i64 l, .int .i64 d, .int .i64 r, .int .i64 p, .int .i64 s, .slice (some ⟨b, off, none⟩) k cK, .slice (some ⟨bo, oo, none⟩) k cO, .int .i64 t] := ((Room.new w [.int .i64 (k : Int), .int .i64 l, .int .i64 d, .int .i64 r, .int .i64 p, .int .i64 s, .slice (some ⟨b, off, none⟩) k cK, .slice (some ⟨bo, oo, none⟩) k cO, .int .i64 t] 32).alloc _).alloc _
  have RT : Room (((w.alloc (.cells #[.int .i64 (k : Int), .int .i64 l, .int .i64 d, .int .i64 r, .int .i64 p, .int .i64 s, .slice (some ⟨b, off, none⟩) k cK, .slice (some ⟨bo, oo, none⟩) k cO, .int .i64 t] 32)).alloc (.cells #[.slice aD nD cD, .slice aE nE cE, .slice aL nL cL, .slice aF nF cF, .slice aR nR cR] 53)).alloc (.cells #[.int .i64 0, .int .i64 0, .int .i64 0, .int .i64 0, .int .i64 0, .int .i64 0, .slice none 0 0, .slice none 0 0, .int .i64 0] 32)) (w.heap.size + 1) [.slice aD nD cD, .slice aE nE cE, .slice aL nL cL, .slice aF nF cF, .slice aR nR cR] := (Room.at (w.alloc (.cells #[.int .i64 (k : Int), .int .i64 l, .int .i64 d, .int .i64 r, .int .i64 p, .int .i64 s, .slice (some ⟨b, off, none⟩) k cK, .slice (some ⟨bo, oo, none⟩) k cO, .int .i64 t] 32)) [.slice aD nD cD, .slice aE nE cE, .slice aL nL cL, .slice aF nF cF, .slice aR nR cR] 53 _ (by simp)).alloc _
  have RQ : Room (((w.alloc (.cells #[.int .i64 (k : Int), .int .i64 l, .int .i64 d, .int .i64 r, .int .i64 p, .int .i64 s, .slice (some ⟨b, off, none⟩) k cK, .slice (some ⟨bo, oo, none⟩) k cO, .int .i64 t] 32)).alloc (.cells #[.slice aD nD cD, .slice aE nE cE, .slice aL nL cL, .slice aF nF cF, .slice aR nR cR] 53)).alloc (.cells #[.int .i64 0, .int .i64 0, .int .i64 0, .int .i64 0, .int .i64 0, .int .i64 0, .slice none 0 0, .slice none 0 0, .int .i64 0] 32)) (w.heap.size + 1 + 1) [.int .i64 0, .int .i64 0, .int .i64 0, .int .i64 0, .int .i64 0, .int .i64 0, .slice none 0 0, .slice none 0 0, .int .i64 0] := Room.at ((w.alloc (.cells #[.int .i64 (k : Int), .int .i64 l, .int .i64 d, .int .i64 r, .int .i64 p, .int .i64 s, .slice (some ⟨b, off, none⟩) k cK, .slice (some ⟨bo, oo, none⟩) k cO, .int .i64 t] 32)).alloc (.cells #[.slice aD nD cD, .slice aE nE cE, .slice aL nL cL, .slice aF nF cF, .slice aR nR cR] 53)) [.int .i64 0, .int .i64 0, .int .i64 0, .int .i64 0, .int .i64 0, .int .i64 0, .slice none 0 0, .slice none 0 0, .int .i64 0] 32 _ (by simp)
  have BB := (((Below.refl w.heap.size w).alloc (Nat.le_refl _) (.cells #[.int .i64 (k : Int), .int .i64 l, .int .i64 d, .int .i64 r, .int .i64 p, .int .i64 s, .slice (some ⟨b, off, none⟩) k cK, .slice (some ⟨bo, oo, none⟩) k cO, .int .i64 t] 32)).alloc (by simp) (.cells #[.slice aD nD cD, .slice aE nE cE, .slice aL nL cL, .slice aF nF cF, .slice aR nR cR] 53)).alloc (by simp; omega) (.cells #[.int .i64 0, .int .i64 0, .int .i64 0, .int .i64 0, .int .i64 0, .int .i64 0, .slice none 0 0, .slice none 0 0, .int .i64 0] 32)
  go_enter Tryz.func25, Tryz.ntmps25
  go_wp2_with fail
  refine (Wl.i_WorldOk (k : Int) l d r p s t _ _ k cK k cO ks os _ ⟨hz, .inr ⟨b, off, rfl, (Nat.lt_of_lt_of_le hb BB.size), (fun j hj => by rw [BB.cell (p := ⟨b, off + j, none⟩) hb]; exact hc j hj)⟩⟩ ⟨hzo, .inr ⟨bo, oo, rfl, (Nat.lt_of_lt_of_le hbo BB.size), (fun j hj => by rw [BB.cell (p := ⟨bo, oo + j, none⟩) hbo]; exact hco j hj)⟩⟩ hk hk).mono ?_
  rintro e w2 ⟨rfl, b2⟩
  rw [h0.out]
  have z_b2 := b2.size
  (try simp at z_b2)
  replace R0 := R0.below b2
  replace RT := RT.below b2
  replace RQ := RQ.below b2
  replace BB := BB.trans (b2.mono BB.size)
  have c0 := R0.cell 0 rfl
  have c1 := R0.cell 1 rfl
  have c2 := R0.cell 2 rfl
  have c3 := R0.cell 3 rfl
  have c4 := R0.cell 4 rfl
  have c5 := R0.cell 5 rfl
  have c6 := R0.cell 6 rfl
  have c7 := R0.cell 7 rfl
  have c8 := R0.cell 8 rfl
  have y0 := RT.cell 0 rfl
  have y1 := RT.cell 1 rfl
  have y2 := RT.cell 2 rfl
  have y3 := RT.cell 3 rfl
  have y4 := RT.cell 4 rfl
  go_wp2_with fail
  refine (i_TurnOk (k : Int) l d r p s t b off k cK _ k cO _ _ _ _ _ nD cD nE cE nL cL nF cF nR cR ks os ds es ls fs rs _ hz (fun j hj => by rw [BB.cell (p := ⟨b, off + j, none⟩) hb]; exact hc j hj) (Nat.lt_of_lt_of_le hb BB.size) ⟨hzo, .inr ⟨bo, oo, rfl, (Nat.lt_of_lt_of_le hbo BB.size), (fun j hj => by rw [BB.cell (p := ⟨bo, oo + j, none⟩) hbo]; exact hco j hj)⟩⟩ ((rD.later BB (Nat.le_refl _)).more BB.size) ((rE.later BB (Nat.le_refl _)).more BB.size) ((rL.later BB (Nat.le_refl _)).more BB.size) ((rF.later BB (Nat.le_refl _)).more BB.size) ((rR.later BB (Nat.le_refl _)).more BB.size) hk hk hnD hnE hnL htE htL hnF hnR).mono ?_
  rintro e w3 ⟨rfl, b3⟩
  rw [h1.out]
  clear c0 c1 c2 c3 c4 c5 c6 c7 c8
  clear y0 y1 y2 y3 y4
  have z_b3 := b3.size
  (try simp at z_b3)
  replace R0 := R0.below b3
  replace RT := RT.below b3
  replace RQ := RQ.below b3
  replace BB := BB.trans (b3.mono BB.size)
  have c0 := R0.cell 0 rfl
  have c1 := R0.cell 1 rfl
  have c2 := R0.cell 2 rfl
  have c3 := R0.cell 3 rfl
  have c4 := R0.cell 4 rfl
  have c5 := R0.cell 5 rfl
  have c6 := R0.cell 6 rfl
  have c7 := R0.cell 7 rfl
  have c8 := R0.cell 8 rfl
  go_wp2_with fail
  refine (copyOfWorld (k : Int) l d r p s t b off k cK bo oo k cO ks os _ hz (fun j hj => by rw [BB.cell (p := ⟨b, off + j, none⟩) hb]; exact hc j hj) (Nat.lt_of_lt_of_le hb BB.size) hzo (fun j hj => by rw [BB.cell (p := ⟨bo, oo + j, none⟩) hbo]; exact hco j hj) (Nat.lt_of_lt_of_le hbo BB.size) hk hk).mono ?_
  rintro e w4 ⟨⟨gP, cP, gQ, cQ, rfl, oP, oQ, gPQ⟩, bP⟩
  clear c0 c1 c2 c3 c4 c5 c6 c7 c8
  have lQ0 := RQ.lt (by simp)
  have loP := oP.data.2.1
  have loQ := oQ.data.2.1
  (try simp at loP)
  (try simp at loQ)
  have z_bP := bP.size
  (try simp at z_bP)
  replace R0 := R0.below bP
  replace RT := RT.below bP
  replace RQ := RQ.below bP
  replace BB := BB.trans (bP.mono BB.size)
  replace oP := oP.mono (B' := w.heap.size) (by omega)
  replace oQ := oQ.mono (B' := w.heap.size) (by omega)
  have d0 := RQ.cell 0 rfl
  have d1 := RQ.cell 1 rfl
  have d2 := RQ.cell 2 rfl
  have d3 := RQ.cell 3 rfl
  have d4 := RQ.cell 4 rfl
  have d5 := RQ.cell 5 rfl
  have d6 := RQ.cell 6 rfl
  have d7 := RQ.cell 7 rfl
  have d8 := RQ.cell 8 rfl
  have g0 := RQ.froz 0 rfl
  have g1 := RQ.froz 1 rfl
  have g2 := RQ.froz 2 rfl
  have g3 := RQ.froz 3 rfl
  have g4 := RQ.froz 4 rfl
  have g5 := RQ.froz 5 rfl
  have g6 := RQ.froz 6 rfl
  have g7 := RQ.froz 7 rfl
  have g8 := RQ.froz 8 rfl
  go_wp2
  replace oP := own_over9 oP (g := w.heap.size + 1 + 1) (by omega) (.int .i64 (k : Int)) (.int .i64 l) (.int .i64 d) (.int .i64 r) (.int .i64 p) (.int .i64 s) (.slice (some ⟨gP, 0, none⟩) k cP) (.slice (some ⟨gQ, 0, none⟩) k cQ) (.int .i64 t)
  replace oQ := own_over9 oQ (g := w.heap.size + 1 + 1) (by omega) (.int .i64 (k : Int)) (.int .i64 l) (.int .i64 d) (.int .i64 r) (.int .i64 p) (.int .i64 s) (.slice (some ⟨gP, 0, none⟩) k cP) (.slice (some ⟨gQ, 0, none⟩) k cQ) (.int .i64 t)
  replace RQ := Rm.over9 RQ (.int .i64 (k : Int)) (.int .i64 l) (.int .i64 d) (.int .i64 r) (.int .i64 p) (.int .i64 s) (.slice (some ⟨gP, 0, none⟩) k cP) (.slice (some ⟨gQ, 0, none⟩) k cQ) (.int .i64 t)
  replace BB := below_over9 BB (g := w.heap.size + 1 + 1) (by omega) (.int .i64 (k : Int)) (.int .i64 l) (.int .i64 d) (.int .i64 r) (.int .i64 p) (.int .i64 s) (.slice (some ⟨gP, 0, none⟩) k cP) (.slice (some ⟨gQ, 0, none⟩) k cQ) (.int .i64 t)
  refine bodyPost_ret (v := .tuple #[wld (k : Int) l d r p s (.slice (some ⟨gP, 0, none⟩) k cP) (.slice (some ⟨gQ, 0, none⟩) k cQ) t, .bool false]) (retWB Tryz.results25 rfl rfl RQ) rfl ⟨⟨gP, cP, gQ, cQ, rfl, oP, oQ, by omega⟩, BB⟩

end Go.Proofs.YtcgcmceobmpdiaaGreat.Tu

namespace Go.Proofs.YtcgcmceobmpdiaaGreat.Tu
open Go.ChangeShapes Go.WideShapes Go.ChangeAt Go.RowKit
open Ls (el Row)
open Ow (Has ints)
open Rd (Flags)
open Bo (eb HasB)
open Rm (Room)
open Wl (wld c9 WO bad allIn)
open Ss (RowsAt ln rw_ tot)
open Tr (MV TT)
set_option linter.unusedVariables false
set_option linter.unusedSimpArgs false

set_option maxHeartbeats 16000000 in
set_option maxRecDepth 100000 in
theorem it_c (l d r p s t : Int) (b off k cK bo oo cO : Nat) (aD aE aL aF aR : Option Addr) (cD cE cL cF cR : Nat) (ks os ds : List Int) (es ls : List (List Int)) (fs rs : List Bool) (w : World) (hz : ks.length = k) (hc : ∀ j, j < k → w.cell? ⟨b, off + j, none⟩ = some (.int .i64 (el ks j))) (hb : b < w.heap.size) (hzo : os.length = k) (hco : ∀ j, j < k → w.cell? ⟨bo, oo + j, none⟩ = some (.int .i64 (el os j))) (hbo : bo < w.heap.size) (rD : Row w w.heap.size aD k ds) (rE : RowsAt w w.heap.size aE k es) (rL : RowsAt w w.heap.size aL k ls) (rF : Flags w w.heap.size aF k fs) (rR : Flags w w.heap.size aR k rs) (hk : k ≤ 1048576) (htE : tot es k ≤ 1048576) (htL : tot ls k ≤ 1048576) (h0 : Hid (WO (k : Int) l d r p s ks k os k t = true)) (h1 : Hid (TO (k : Int) l d r p s ks k os k t ds es ls fs rs k k = true)) (hO : Hid (∀ j, j < k → -1000000000000000 ≤ el os j ∧ el os j ≤ 1000000000000000)) (hD : Hid (∀ j, j < k → -1000000 ≤ el ds j ∧ el ds j ≤ 1000000)) (ht : 0 ≤ t ∧ t ≤ 1000000) :
    Calls Tryz.prog 25 #[.agg #[.int .i64 (k : Int), .int .i64 l, .int .i64 d, .int .i64 r, .int .i64 p, .int .i64 s, .slice (some ⟨b, off, none⟩) k cK, .slice (some ⟨bo, oo, none⟩) k cO, .int .i64 t], .agg #[.slice aD k cD, .slice aE k cE, .slice aL k cL, .slice aF k cF, .slice aR k cR]] w fun e w' => (∃ gK cK2 gO cO2, e = .returned (.tuple #[wld (k : Int) l d r p s (.slice (some ⟨gK, 0, none⟩) k cK2) (.slice (some ⟨gO, 0, none⟩) k cO2) (RU (k : Int) l d r p s ks k os k t ds es ls fs rs k k), .bool (RB (k : Int) l d r p s ks k os k t ds es ls fs rs k k)]) ∧ Ow.Own w' w.heap.size gK k cK2 (RK (k : Int) l d r p s ks k os k t ds es ls fs rs k k) ∧ Ow.Own w' w.heap.size gO k cO2 (RO (k : Int) l d r p s ks k os k t ds es ls fs rs k k) ∧ gK ≠ gO) ∧ Below w.heap.size w w' := by
  have R0 : Room (((w.alloc (.cells #[.int .i64 (k : Int), .int .i64 l, .int .i64 d, .int .i64 r, .int .i64 p, .int .i64 s, .slice (some ⟨b, off, none⟩) k cK, .slice (some ⟨bo, oo, none⟩) k cO, .int .i64 t] 32)).alloc (.cells #[.slice aD k cD, .slice aE k cE, .slice aL k cL, .slice aF k cF, .slice aR k cR] 53)).alloc (.cells #[.int .i64 0, .int .i64 0, .int .i64 0, .int .i64 0, .int .i64 0, .int .i64 0, .slice none 0 0, .slice none 0 0, .int .i64 0] 32)) w.heap.size [.int .i64 (k : Int), .int .i64 l, .int .i64 d, .int .i64 r, .int .i64 p, .int .i64 s, .slice (some ⟨b, off, none⟩) k cK, .slice (some ⟨bo, oo, none⟩) k cO, .int .i64 t] := ((Room.new w [.int .i64 (k : Int), .int .i64 l, .int .i64 d, .int .i64 r, .int .i64 p, .int .i64 s, .slice (some ⟨b, off, none⟩) k cK, .slice (some ⟨bo, oo, none⟩) k cO, .int .i64 t] 32).alloc _).alloc _
  have RT : Room (((w.alloc (.cells #[.int .i64 (k : Int), .int .i64 l, .int .i64 d, .int .i64 r, .int .i64 p, .int .i64 s, .slice (some ⟨b, off, none⟩) k cK, .slice (some ⟨bo, oo, none⟩) k cO, .int .i64 t] 32)).alloc (.cells #[.slice aD k cD, .slice aE k cE, .slice aL k cL, .slice aF k cF, .slice aR k cR] 53)).alloc (.cells #[.int .i64 0, .int .i64 0, .int .i64 0, .int .i64 0, .int .i64 0, .int .i64 0, .slice none 0 0, .slice none 0 0, .int .i64 0] 32)) (w.heap.size + 1) [.slice aD k cD, .slice aE k cE, .slice aL k cL, .slice aF k cF, .slice aR k cR] := (Room.at (w.alloc (.cells #[.int .i64 (k : Int), .int .i64 l, .int .i64 d, .int .i64 r, .int .i64 p, .int .i64 s, .slice (some ⟨b, off, none⟩) k cK, .slice (some ⟨bo, oo, none⟩) k cO, .int .i64 t] 32)) [.slice aD k cD, .slice aE k cE, .slice aL k cL, .slice aF k cF, .slice aR k cR] 53 _ (by simp)).alloc _
  have RQ : Room (((w.alloc (.cells #[.int .i64 (k : Int), .int .i64 l, .int .i64 d, .int .i64 r, .int .i64 p, .int .i64 s, .slice (some ⟨b, off, none⟩) k cK, .slice (some ⟨bo, oo, none⟩) k cO, .int .i64 t] 32)).alloc (.cells #[.slice aD k cD, .slice aE k cE, .slice aL k cL, .slice aF k cF, .slice aR k cR] 53)).alloc (.cells #[.int .i64 0, .int .i64 0, .int .i64 0, .int .i64 0, .int .i64 0, .int .i64 0, .slice none 0 0, .slice none 0 0, .int .i64 0] 32)) (w.heap.size + 1 + 1) [.int .i64 0, .int .i64 0, .int .i64 0, .int .i64 0, .int .i64 0, .int .i64 0, .slice none 0 0, .slice none 0 0, .int .i64 0] := Room.at ((w.alloc (.cells #[.int .i64 (k : Int), .int .i64 l, .int .i64 d, .int .i64 r, .int .i64 p, .int .i64 s, .slice (some ⟨b, off, none⟩) k cK, .slice (some ⟨bo, oo, none⟩) k cO, .int .i64 t] 32)).alloc (.cells #[.slice aD k cD, .slice aE k cE, .slice aL k cL, .slice aF k cF, .slice aR k cR] 53)) [.int .i64 0, .int .i64 0, .int .i64 0, .int .i64 0, .int .i64 0, .int .i64 0, .slice none 0 0, .slice none 0 0, .int .i64 0] 32 _ (by simp)
  have BB := (((Below.refl w.heap.size w).alloc (Nat.le_refl _) (.cells #[.int .i64 (k : Int), .int .i64 l, .int .i64 d, .int .i64 r, .int .i64 p, .int .i64 s, .slice (some ⟨b, off, none⟩) k cK, .slice (some ⟨bo, oo, none⟩) k cO, .int .i64 t] 32)).alloc (by simp) (.cells #[.slice aD k cD, .slice aE k cE, .slice aL k cL, .slice aF k cF, .slice aR k cR] 53)).alloc (by simp; omega) (.cells #[.int .i64 0, .int .i64 0, .int .i64 0, .int .i64 0, .int .i64 0, .int .i64 0, .slice none 0 0, .slice none 0 0, .int .i64 0] 32)
  go_enter Tryz.func25, Tryz.ntmps25
  go_wp2_with fail
  refine (Wl.i_WorldOk (k : Int) l d r p s t _ _ k cK k cO ks os _ ⟨hz, .inr ⟨b, off, rfl, (Nat.lt_of_lt_of_le hb BB.size), (fun j hj => by rw [BB.cell (p := ⟨b, off + j, none⟩) hb]; exact hc j hj)⟩⟩ ⟨hzo, .inr ⟨bo, oo, rfl, (Nat.lt_of_lt_of_le hbo BB.size), (fun j hj => by rw [BB.cell (p := ⟨bo, oo + j, none⟩) hbo]; exact hco j hj)⟩⟩ hk hk).mono ?_
  rintro e w2 ⟨rfl, b2⟩
  rw [h0.out]
  have z_b2 := b2.size
  (try simp at z_b2)
  replace R0 := R0.below b2
  replace RT := RT.below b2
  replace RQ := RQ.below b2
  replace BB := BB.trans (b2.mono BB.size)
  have c0 := R0.cell 0 rfl
  have c1 := R0.cell 1 rfl
  have c2 := R0.cell 2 rfl
  have c3 := R0.cell 3 rfl
  have c4 := R0.cell 4 rfl
  have c5 := R0.cell 5 rfl
  have c6 := R0.cell 6 rfl
  have c7 := R0.cell 7 rfl
  have c8 := R0.cell 8 rfl
  have y0 := RT.cell 0 rfl
  have y1 := RT.cell 1 rfl
  have y2 := RT.cell 2 rfl
  have y3 := RT.cell 3 rfl
  have y4 := RT.cell 4 rfl
  go_wp2_with fail
  refine (i_TurnOk (k : Int) l d r p s t b off k cK _ k cO _ _ _ _ _ k cD k cE k cL k cF k cR ks os ds es ls fs rs _ hz (fun j hj => by rw [BB.cell (p := ⟨b, off + j, none⟩) hb]; exact hc j hj) (Nat.lt_of_lt_of_le hb BB.size) ⟨hzo, .inr ⟨bo, oo, rfl, (Nat.lt_of_lt_of_le hbo BB.size), (fun j hj => by rw [BB.cell (p := ⟨bo, oo + j, none⟩) hbo]; exact hco j hj)⟩⟩ ((rD.later BB (Nat.le_refl _)).more BB.size) ((rE.later BB (Nat.le_refl _)).more BB.size) ((rL.later BB (Nat.le_refl _)).more BB.size) ((rF.later BB (Nat.le_refl _)).more BB.size) ((rR.later BB (Nat.le_refl _)).more BB.size) hk hk hk hk hk htE htL hk hk).mono ?_
  rintro e w3 ⟨rfl, b3⟩
  rw [h1.out]
  clear c0 c1 c2 c3 c4 c5 c6 c7 c8
  clear y0 y1 y2 y3 y4
  have z_b3 := b3.size
  (try simp at z_b3)
  replace R0 := R0.below b3
  replace RT := RT.below b3
  replace RQ := RQ.below b3
  replace BB := BB.trans (b3.mono BB.size)
  have lQ3 := RQ.lt (by simp)
  have c0 := R0.cell 0 rfl
  have c1 := R0.cell 1 rfl
  have c2 := R0.cell 2 rfl
  have c3 := R0.cell 3 rfl
  have c4 := R0.cell 4 rfl
  have c5 := R0.cell 5 rfl
  have c6 := R0.cell 6 rfl
  have c7 := R0.cell 7 rfl
  have c8 := R0.cell 8 rfl
  have y0 := RT.cell 0 rfl
  have y1 := RT.cell 1 rfl
  have y2 := RT.cell 2 rfl
  have y3 := RT.cell 3 rfl
  have y4 := RT.cell 4 rfl
  go_wp2_with fail
  refine (middleWorld (k : Int) l d r p s t b off k cK bo oo cO _ _ cD cF _ _ _ ks os ds fs _ hz (fun j hj => by rw [BB.cell (p := ⟨b, off + j, none⟩) hb]; exact hc j hj) (Nat.lt_of_lt_of_le hb BB.size) hzo (fun j hj => by rw [BB.cell (p := ⟨bo, oo + j, none⟩) hbo]; exact hco j hj) (Nat.lt_of_lt_of_le hbo BB.size) ((rD.later BB (Nat.le_refl _)).more BB.size) ((rF.later BB (Nat.le_refl _)).more BB.size) hk hO.out hD.out).mono ?_
  rintro e w4 ⟨⟨gK, cK2, gO, cO2, rfl, oK, oO, gKO⟩, b4⟩
  clear c0 c1 c2 c3 c4 c5 c6 c7 c8
  clear y0 y1 y2 y3 y4
  have z_b4 := b4.size
  (try simp at z_b4)
  replace R0 := R0.below b4
  replace RT := RT.below b4
  replace RQ := RQ.below b4
  replace BB := BB.trans (b4.mono BB.size)
  have loK := oK.data.2.1
  have loO := oO.data.2.1
  have hiK := oK.lt
  have hiO := oO.lt
  replace oK := oK.mono (B' := w.heap.size) (by omega)
  replace oO := oO.mono (B' := w.heap.size) (by omega)
  have gne : gK ≠ gO := by omega
  have bn := (Below.refl w4.heap.size w4).alloc (Nat.le_refl _) (.cells #[.int .i64 (k : Int), .int .i64 l, .int .i64 d, .int .i64 r, .int .i64 p, .int .i64 s, .slice (some ⟨gK, 0, none⟩) k cK2, .slice (some ⟨gO, 0, none⟩) k cO2, .int .i64 t] 32)
  have RX := Room.new w4 [.int .i64 (k : Int), .int .i64 l, .int .i64 d, .int .i64 r, .int .i64 p, .int .i64 s, .slice (some ⟨gK, 0, none⟩) k cK2, .slice (some ⟨gO, 0, none⟩) k cO2, .int .i64 t] 32
  have z_bn := bn.size
  (try simp at z_bn)
  replace R0 := R0.below bn
  replace RT := RT.below bn
  replace RQ := RQ.below bn
  replace oK := oK.later bn oK.lt
  replace oO := oO.later bn oO.lt
  replace BB := BB.trans (bn.mono BB.size)
  have x6 := RX.cell 6 rfl
  go_wp2_with fail
  clear x6
  have HH : Hid (Ow.Own _ w.heap.size gK k cK2 (UP (CB (k : Int) l d r p s ks k os k t ds es ls fs rs k k) (fun _ => 0) (FK ks fs) 0) ∧ Ow.Own _ w.heap.size gO k cO2 (UP (CB (k : Int) l d r p s ks k os k t ds es ls fs rs k k) (fun j => el (MO os ds) j + CV (k : Int) l d r p s ks k os k t ds es ls fs rs k k j) (MO os ds) 0) ∧ Room _ w.heap.size [.int .i64 (k : Int), .int .i64 l, .int .i64 d, .int .i64 r, .int .i64 p, .int .i64 s, .slice (some ⟨b, off, none⟩) k cK, .slice (some ⟨bo, oo, none⟩) k cO, .int .i64 t] ∧ Room _ (w.heap.size + 1) [.slice aD k cD, .slice aE k cE, .slice aL k cL, .slice aF k cF, .slice aR k cR] ∧ Room _ (w.heap.size + 1 + 1) [.int .i64 0, .int .i64 0, .int .i64 0, .int .i64 0, .int .i64 0, .int .i64 0, .slice none 0 0, .slice none 0 0, .int .i64 0] ∧ Room _ w4.heap.size [.int .i64 (k : Int), .int .i64 l, .int .i64 d, .int .i64 r, .int .i64 p, .int .i64 s, .slice (some ⟨gK, 0, none⟩) k cK2, .slice (some ⟨gO, 0, none⟩) k cO2, .int .i64 t] ∧ Below w.heap.size w _) := ⟨oK, oO, R0, RT, RQ, RX, BB⟩
  clear oK oO R0 RT RQ RX BB
  go_loopw [26] (fun v wr => ∃ q : Nat, q ≤ k ∧ v = .int .i64 (q : Int) ∧ Hid (Ow.Own wr w.heap.size gK k cK2 (UP (CB (k : Int) l d r p s ks k os k t ds es ls fs rs k k) (fun _ => 0) (FK ks fs) q) ∧ Ow.Own wr w.heap.size gO k cO2 (UP (CB (k : Int) l d r p s ks k os k t ds es ls fs rs k k) (fun j => el (MO os ds) j + CV (k : Int) l d r p s ks k os k t ds es ls fs rs k k j) (MO os ds) q) ∧ Room wr w.heap.size [.int .i64 (k : Int), .int .i64 l, .int .i64 d, .int .i64 r, .int .i64 p, .int .i64 s, .slice (some ⟨b, off, none⟩) k cK, .slice (some ⟨bo, oo, none⟩) k cO, .int .i64 t] ∧ Room wr (w.heap.size + 1) [.slice aD k cD, .slice aE k cE, .slice aL k cL, .slice aF k cF, .slice aR k cR] ∧ Room wr (w.heap.size + 1 + 1) [.int .i64 0, .int .i64 0, .int .i64 0, .int .i64 0, .int .i64 0, .int .i64 0, .slice none 0 0, .slice none 0 0, .int .i64 0] ∧ Room wr w4.heap.size [.int .i64 (k : Int), .int .i64 l, .int .i64 d, .int .i64 r, .int .i64 p, .int .i64 s, .slice (some ⟨gK, 0, none⟩) k cK2, .slice (some ⟨gO, 0, none⟩) k cO2, .int .i64 t] ∧ Below w.heap.size w wr)) (fun v _ => k - (intOf v).toNat)
  case atStart => exact ⟨0, Nat.zero_le _, rfl, HH⟩
  case round =>
    obtain ⟨q, hq, rfl, H⟩ := hrel
    obtain ⟨oK, oO, R0, RT, RQ, RX, BB⟩ := H.out
    clear H HH
    by_cases hlt : q < k
    · have hi : (q : Int) < k := by omega
      have key : Calls Tryz.prog 53 #[.agg #[.int .i64 (k : Int), .int .i64 l, .int .i64 d, .int .i64 r, .int .i64 p, .int .i64 s, .slice (some ⟨b, off, none⟩) k cK, .slice (some ⟨bo, oo, none⟩) k cO, .int .i64 t], .agg #[.slice aD k cD, .slice aE k cE, .slice aL k cL, .slice aF k cF, .slice aR k cR], .int .i64 (q : Int)] wr fun e w' => e = .returned (.tuple #[.int .i64 (CV (k : Int) l d r p s ks k os k t ds es ls fs rs k k q), .bool (CB (k : Int) l d r p s ks k os k t ds es ls fs rs k k q)]) ∧ Below wr.heap.size wr w' := i_CorrectionOf (k : Int) l d r p s t b off k cK _ k cO _ _ _ _ _ k cD k cE k cL k cF k cR ks os ds es ls fs rs _ hz (fun j hj => by rw [BB.cell (p := ⟨b, off + j, none⟩) hb]; exact hc j hj) (Nat.lt_of_lt_of_le hb BB.size) ⟨hzo, .inr ⟨bo, oo, rfl, (Nat.lt_of_lt_of_le hbo BB.size), (fun j hj => by rw [BB.cell (p := ⟨bo, oo + j, none⟩) hbo]; exact hco j hj)⟩⟩ ((rD.later BB (Nat.le_refl _)).more BB.size) ((rE.later BB (Nat.le_refl _)).more BB.size) ((rL.later BB (Nat.le_refl _)).more BB.size) ((rF.later BB (Nat.le_refl _)).more BB.size) ((rR.later BB (Nat.le_refl _)).more BB.size) hk hk hk hk hk hk hk htE htL (q : Int)
      have CVq := cv_le (k : Int) l d r p s ks k os k t ds es ls fs rs k k q
      have c0 := R0.cell 0 rfl
      have c1 := R0.cell 1 rfl
      have c2 := R0.cell 2 rfl
      have c3 := R0.cell 3 rfl
      have c4 := R0.cell 4 rfl
      have c5 := R0.cell 5 rfl
      have c6 := R0.cell 6 rfl
      have c7 := R0.cell 7 rfl
      have c8 := R0.cell 8 rfl
      have y0 := RT.cell 0 rfl
      have y1 := RT.cell 1 rfl
      have y2 := RT.cell 2 rfl
      have y3 := RT.cell 3 rfl
      have y4 := RT.cell 4 rfl
      go_wp2_with fail
      refine (key).mono ?_
      rintro e w7 ⟨rfl, b7⟩
      clear key
      clear c0 c1 c2 c3 c4 c5 c6 c7 c8
      clear y0 y1 y2 y3 y4
      have z_b7 := b7.size
      (try simp at z_b7)
      replace R0 := R0.below b7
      replace RT := RT.below b7
      replace RQ := RQ.below b7
      replace RX := RX.below b7
      replace oK := oK.later b7 oK.lt
      replace oO := oO.later b7 oO.lt
      replace BB := BB.trans (b7.mono BB.size)
      have x6 := RX.cell 6 rfl
      have x7 := RX.cell 7 rfl
      have hcK := (oK.cell q hlt).1
      have hfK := (oK.cell q hlt).2
      have hcO := (oO.cell q hlt).1
      have hfO := (oO.cell q hlt).2
      rw [up_el _ _ _ _ _ (by rw [mo_len, hzo]; exact hlt), if_neg (by omega)] at hcO
      have bnd : -1000001000000000 ≤ el (MO os ds) q ∧ el (MO os ds) q ≤ 1000001000000000 := by rw [mo_el os ds (by omega)]; have := hO.out q hlt; have := hD.out q hlt; omega
      have E1 : Hid (UP (CB (k : Int) l d r p s ks k os k t ds es ls fs rs k k) (fun j => el (MO os ds) j + CV (k : Int) l d r p s ks k os k t ds es ls fs rs k k j) (MO os ds) (q + 1) = if CB (k : Int) l d r p s ks k os k t ds es ls fs rs k k q = true then (UP (CB (k : Int) l d r p s ks k os k t ds es ls fs rs k k) (fun j => el (MO os ds) j + CV (k : Int) l d r p s ks k os k t ds es ls fs rs k k j) (MO os ds) q).set q (el (MO os ds) q + CV (k : Int) l d r p s ks k os k t ds es ls fs rs k k q) else UP (CB (k : Int) l d r p s ks k os k t ds es ls fs rs k k) (fun j => el (MO os ds) j + CV (k : Int) l d r p s ks k os k t ds es ls fs rs k k j) (MO os ds) q) := rfl
      have E2 : Hid (UP (CB (k : Int) l d r p s ks k os k t ds es ls fs rs k k) (fun _ => 0) (FK ks fs) (q + 1) = if CB (k : Int) l d r p s ks k os k t ds es ls fs rs k k q = true then (UP (CB (k : Int) l d r p s ks k os k t ds es ls fs rs k k) (fun _ => 0) (FK ks fs) q).set q 0 else UP (CB (k : Int) l d r p s ks k os k t ds es ls fs rs k k) (fun _ => 0) (FK ks fs) q) := rfl
      obtain ⟨X, hX⟩ : ∃ X, CV (k : Int) l d r p s ks k os k t ds es ls fs rs k k q = X := ⟨_, rfl⟩
      obtain ⟨Y, hY⟩ : ∃ Y, CB (k : Int) l d r p s ks k os k t ds es ls fs rs k k q = Y := ⟨_, rfl⟩
      obtain ⟨O, hOe⟩ : ∃ O, el (MO os ds) q = O := ⟨_, rfl⟩
      rw [hX] at CVq E1 ⊢
      rw [hY] at E1 ⊢
      rw [hOe] at bnd E1 hcO
      rw [hY] at E2
      have hw : IntKind.i64.wrap (O + X) = O + X := by rw [IntKind.wrap_i64]; omega
      clear hX hY hOe bnd CVq
      cases Y with
      | true =>
        have HN : Hid (Ow.Own ((w7.setCell ⟨gO, q, none⟩ (.int .i64 (O + X))).setCell ⟨gK, q, none⟩ (.int .i64 0)) w.heap.size gK k cK2 (UP (CB (k : Int) l d r p s ks k os k t ds es ls fs rs k k) (fun _ => 0) (FK ks fs) (q + 1)) ∧ Ow.Own ((w7.setCell ⟨gO, q, none⟩ (.int .i64 (O + X))).setCell ⟨gK, q, none⟩ (.int .i64 0)) w.heap.size gO k cO2 (UP (CB (k : Int) l d r p s ks k os k t ds es ls fs rs k k) (fun j => el (MO os ds) j + CV (k : Int) l d r p s ks k os k t ds es ls fs rs k k j) (MO os ds) (q + 1)) ∧ Room ((w7.setCell ⟨gO, q, none⟩ (.int .i64 (O + X))).setCell ⟨gK, q, none⟩ (.int .i64 0)) w.heap.size [.int .i64 (k : Int), .int .i64 l, .int .i64 d, .int .i64 r, .int .i64 p, .int .i64 s, .slice (some ⟨b, off, none⟩) k cK, .slice (some ⟨bo, oo, none⟩) k cO, .int .i64 t] ∧ Room ((w7.setCell ⟨gO, q, none⟩ (.int .i64 (O + X))).setCell ⟨gK, q, none⟩ (.int .i64 0)) (w.heap.size + 1) [.slice aD k cD, .slice aE k cE, .slice aL k cL, .slice aF k cF, .slice aR k cR] ∧ Room ((w7.setCell ⟨gO, q, none⟩ (.int .i64 (O + X))).setCell ⟨gK, q, none⟩ (.int .i64 0)) (w.heap.size + 1 + 1) [.int .i64 0, .int .i64 0, .int .i64 0, .int .i64 0, .int .i64 0, .int .i64 0, .slice none 0 0, .slice none 0 0, .int .i64 0] ∧ Room ((w7.setCell ⟨gO, q, none⟩ (.int .i64 (O + X))).setCell ⟨gK, q, none⟩ (.int .i64 0)) w4.heap.size [.int .i64 (k : Int), .int .i64 l, .int .i64 d, .int .i64 r, .int .i64 p, .int .i64 s, .slice (some ⟨gK, 0, none⟩) k cK2, .slice (some ⟨gO, 0, none⟩) k cO2, .int .i64 t] ∧ Below w.heap.size w ((w7.setCell ⟨gO, q, none⟩ (.int .i64 (O + X))).setCell ⟨gK, q, none⟩ (.int .i64 0))) := by
          unfold Hid
          rw [E1.out, if_pos rfl, E2.out, if_pos rfl]
          exact ⟨own_put (own_other (w := w7) oK (q := gO) (by omega) q (.int .i64 (O + X))) hlt 0, own_other (own_put (w := w7) oO hlt (O + X)) (q := gK) (by omega) q (.int .i64 0), Room.setOther (Room.setOther (R0) (q := gO) (by omega) q (.int .i64 (O + X))) (q := gK) (by omega) q (.int .i64 0), Room.setOther (Room.setOther (RT) (q := gO) (by omega) q (.int .i64 (O + X))) (q := gK) (by omega) q (.int .i64 0), Room.setOther (Room.setOther (RQ) (q := gO) (by omega) q (.int .i64 (O + X))) (q := gK) (by omega) q (.int .i64 0), Room.setOther (Room.setOther (RX) (q := gO) (by omega) q (.int .i64 (O + X))) (q := gK) (by omega) q (.int .i64 0), Below.setCell (Below.setCell (BB) (p := ⟨gO, q, none⟩) (by simp; omega) (.int .i64 (O + X))) (p := ⟨gK, q, none⟩) (by simp; omega) (.int .i64 0)⟩
        clear oK oO R0 RT RQ RX BB E1 E2
        go_wp2_with fail
        go_roundw
        case rel => exact ⟨q + 1, by omega, by go_num, HN⟩
        case measure => simp [intOf]; omega
      | false =>
        have HN : Hid (Ow.Own w7 w.heap.size gK k cK2 (UP (CB (k : Int) l d r p s ks k os k t ds es ls fs rs k k) (fun _ => 0) (FK ks fs) (q + 1)) ∧ Ow.Own w7 w.heap.size gO k cO2 (UP (CB (k : Int) l d r p s ks k os k t ds es ls fs rs k k) (fun j => el (MO os ds) j + CV (k : Int) l d r p s ks k os k t ds es ls fs rs k k j) (MO os ds) (q + 1)) ∧ Room w7 w.heap.size [.int .i64 (k : Int), .int .i64 l, .int .i64 d, .int .i64 r, .int .i64 p, .int .i64 s, .slice (some ⟨b, off, none⟩) k cK, .slice (some ⟨bo, oo, none⟩) k cO, .int .i64 t] ∧ Room w7 (w.heap.size + 1) [.slice aD k cD, .slice aE k cE, .slice aL k cL, .slice aF k cF, .slice aR k cR] ∧ Room w7 (w.heap.size + 1 + 1) [.int .i64 0, .int .i64 0, .int .i64 0, .int .i64 0, .int .i64 0, .int .i64 0, .slice none 0 0, .slice none 0 0, .int .i64 0] ∧ Room w7 w4.heap.size [.int .i64 (k : Int), .int .i64 l, .int .i64 d, .int .i64 r, .int .i64 p, .int .i64 s, .slice (some ⟨gK, 0, none⟩) k cK2, .slice (some ⟨gO, 0, none⟩) k cO2, .int .i64 t] ∧ Below w.heap.size w w7) := by
          unfold Hid
          rw [E1.out, if_neg (by simp), E2.out, if_neg (by simp)]
          exact ⟨oK, oO, R0, RT, RQ, RX, BB⟩
        clear oK oO R0 RT RQ RX BB E1 E2
        go_wp2_with fail
        go_roundw
        case rel => exact ⟨q + 1, by omega, by go_num, HN⟩
        case measure => simp [intOf]; omega
    · have hi : ¬ (q : Int) < k := by omega
      have e : q = k := by omega
      subst e
      have hwt : IntKind.i64.wrap (t + 1) = t + 1 := by rw [IntKind.wrap_i64]; omega
      have oK2 : Ow.Own wr w.heap.size gK q cK2 (TK (q : Int) l d r p s ks q os q t ds es ls fs rs q q) := oK
      have oO2 : Ow.Own wr w.heap.size gO q cO2 (TF (q : Int) l d r p s ks q os q t ds es ls fs rs q q) := oO
      clear oK oO
      have x0 := RX.cell 0 rfl
      have x1 := RX.cell 1 rfl
      have x2 := RX.cell 2 rfl
      have x3 := RX.cell 3 rfl
      have x4 := RX.cell 4 rfl
      have x5 := RX.cell 5 rfl
      have x6 := RX.cell 6 rfl
      have x7 := RX.cell 7 rfl
      have x8 := RX.cell 8 rfl
      have f8 := RX.froz 8 rfl
      go_wp2_with fail
      replace R0 := R0.setOther (q := w4.heap.size) (by omega) 8 (.int .i64 (t + 1))
      replace RT := RT.setOther (q := w4.heap.size) (by omega) 8 (.int .i64 (t + 1))
      replace RQ := RQ.setOther (q := w4.heap.size) (by omega) 8 (.int .i64 (t + 1))
      replace RX := RX.set 8 (.int .i64 (t + 1))
      dsimp only [List.set] at RX
      replace oK2 := own_other oK2 (q := w4.heap.size) (by omega) 8 (.int .i64 (t + 1))
      replace oO2 := own_other oO2 (q := w4.heap.size) (by omega) 8 (.int .i64 (t + 1))
      replace BB := BB.setCell (p := ⟨w4.heap.size, 8, none⟩) (by simp; omega) (.int .i64 (t + 1))
      clear x0 x1 x2 x3 x4 x5 x6 x7 x8 f8
      refine (Wl.i_WorldOk (q : Int) l d r p s (t + 1) _ _ q cK2 q cO2 (TK (q : Int) l d r p s ks q os q t ds es ls fs rs q q) (TF (q : Int) l d r p s ks q os q t ds es ls fs rs q q) _ oK2.has.row oO2.has.row hk hk).mono ?_
      rintro e w8 ⟨rfl, b8⟩
      have z_b8 := b8.size
      (try simp at z_b8)
      replace R0 := R0.below b8
      replace RT := RT.below b8
      replace RQ := RQ.below b8
      replace RX := RX.below b8
      replace oK2 := oK2.later b8 oK2.lt
      replace oO2 := oO2.later b8 oO2.lt
      replace BB := BB.trans (b8.mono BB.size)
      cases h2 : WO (q : Int) l d r p s (TK (q : Int) l d r p s ks q os q t ds es ls fs rs q q) q (TF (q : Int) l d r p s ks q os q t ds es ls fs rs q q) q (t + 1) with
      | false =>
        have E : Hid (RB (q : Int) l d r p s ks q os q t ds es ls fs rs q q = false ∧ RK (q : Int) l d r p s ks q os q t ds es ls fs rs q q = ks ∧ RO (q : Int) l d r p s ks q os q t ds es ls fs rs q q = os ∧ RU (q : Int) l d r p s ks q os q t ds es ls fs rs q q = t) := by
          have e1 : RB (q : Int) l d r p s ks q os q t ds es ls fs rs q q = false := by unfold RB; rw [h1.out, h2]; rfl
          refine ⟨e1, ?_, ?_, ?_⟩
          · unfold RK; rw [e1]; rfl
          · unfold RO; rw [e1]; rfl
          · unfold RU; rw [e1]; rfl
        clear RX oK2 oO2
        have c0 := R0.cell 0 rfl
        have c1 := R0.cell 1 rfl
        have c2 := R0.cell 2 rfl
        have c3 := R0.cell 3 rfl
        have c4 := R0.cell 4 rfl
        have c5 := R0.cell 5 rfl
        have c6 := R0.cell 6 rfl
        have c7 := R0.cell 7 rfl
        have c8 := R0.cell 8 rfl
        go_wp2_with fail
        refine (copyOfWorld (q : Int) l d r p s t b off q cK bo oo q cO ks os _ hz (fun j hj => by rw [BB.cell (p := ⟨b, off + j, none⟩) hb]; exact hc j hj) (Nat.lt_of_lt_of_le hb BB.size) hzo (fun j hj => by rw [BB.cell (p := ⟨bo, oo + j, none⟩) hbo]; exact hco j hj) (Nat.lt_of_lt_of_le hbo BB.size) hk hk).mono ?_
        rintro e w9 ⟨⟨gP, cP, gQ, cQ, rfl, oP, oQ, gPQ⟩, bP⟩
        clear c0 c1 c2 c3 c4 c5 c6 c7 c8
        have lQ0 := RQ.lt (by simp)
        have loP := oP.data.2.1
        have loQ := oQ.data.2.1
        (try simp at loP)
        (try simp at loQ)
        have z_bP := bP.size
        (try simp at z_bP)
        replace R0 := R0.below bP
        replace RT := RT.below bP
        replace RQ := RQ.below bP
        replace BB := BB.trans (bP.mono BB.size)
        replace oP := oP.mono (B' := w.heap.size) (by omega)
        replace oQ := oQ.mono (B' := w.heap.size) (by omega)
        have d0 := RQ.cell 0 rfl
        have d1 := RQ.cell 1 rfl
        have d2 := RQ.cell 2 rfl
        have d3 := RQ.cell 3 rfl
        have d4 := RQ.cell 4 rfl
        have d5 := RQ.cell 5 rfl
        have d6 := RQ.cell 6 rfl
        have d7 := RQ.cell 7 rfl
        have d8 := RQ.cell 8 rfl
        have g0 := RQ.froz 0 rfl
        have g1 := RQ.froz 1 rfl
        have g2 := RQ.froz 2 rfl
        have g3 := RQ.froz 3 rfl
        have g4 := RQ.froz 4 rfl
        have g5 := RQ.froz 5 rfl
        have g6 := RQ.froz 6 rfl
        have g7 := RQ.froz 7 rfl
        have g8 := RQ.froz 8 rfl
        go_wp2
        replace oP := own_over9 oP (g := w.heap.size + 1 + 1) (by omega) (.int .i64 (q : Int)) (.int .i64 l) (.int .i64 d) (.int .i64 r) (.int .i64 p) (.int .i64 s) (.slice (some ⟨gP, 0, none⟩) q cP) (.slice (some ⟨gQ, 0, none⟩) q cQ) (.int .i64 t)
        replace oQ := own_over9 oQ (g := w.heap.size + 1 + 1) (by omega) (.int .i64 (q : Int)) (.int .i64 l) (.int .i64 d) (.int .i64 r) (.int .i64 p) (.int .i64 s) (.slice (some ⟨gP, 0, none⟩) q cP) (.slice (some ⟨gQ, 0, none⟩) q cQ) (.int .i64 t)
        replace RQ := Rm.over9 RQ (.int .i64 (q : Int)) (.int .i64 l) (.int .i64 d) (.int .i64 r) (.int .i64 p) (.int .i64 s) (.slice (some ⟨gP, 0, none⟩) q cP) (.slice (some ⟨gQ, 0, none⟩) q cQ) (.int .i64 t)
        replace BB := below_over9 BB (g := w.heap.size + 1 + 1) (by omega) (.int .i64 (q : Int)) (.int .i64 l) (.int .i64 d) (.int .i64 r) (.int .i64 p) (.int .i64 s) (.slice (some ⟨gP, 0, none⟩) q cP) (.slice (some ⟨gQ, 0, none⟩) q cQ) (.int .i64 t)
        refine bodyPost_ret (v := .tuple #[wld (q : Int) l d r p s (.slice (some ⟨gP, 0, none⟩) q cP) (.slice (some ⟨gQ, 0, none⟩) q cQ) t, .bool false]) (retWB Tryz.results25 rfl rfl RQ) rfl ⟨⟨gP, cP, gQ, cQ, by rw [E.out.1, E.out.2.2.2], by rw [E.out.2.1]; exact oP, by rw [E.out.2.2.1]; exact oQ, by omega⟩, BB⟩
      | true =>
        have E : Hid (RB (q : Int) l d r p s ks q os q t ds es ls fs rs q q = true ∧ RK (q : Int) l d r p s ks q os q t ds es ls fs rs q q = TK (q : Int) l d r p s ks q os q t ds es ls fs rs q q ∧ RO (q : Int) l d r p s ks q os q t ds es ls fs rs q q = TF (q : Int) l d r p s ks q os q t ds es ls fs rs q q ∧ RU (q : Int) l d r p s ks q os q t ds es ls fs rs q q = t + 1) := by
          have e1 : RB (q : Int) l d r p s ks q os q t ds es ls fs rs q q = true := by unfold RB; rw [h1.out, h2]; rfl
          refine ⟨e1, ?_, ?_, ?_⟩
          · unfold RK; rw [e1]; rfl
          · unfold RO; rw [e1]; rfl
          · unfold RU; rw [e1]; rfl
        have x0 := RX.cell 0 rfl
        have x1 := RX.cell 1 rfl
        have x2 := RX.cell 2 rfl
        have x3 := RX.cell 3 rfl
        have x4 := RX.cell 4 rfl
        have x5 := RX.cell 5 rfl
        have x6 := RX.cell 6 rfl
        have x7 := RX.cell 7 rfl
        have x8 := RX.cell 8 rfl
        have d0 := RQ.cell 0 rfl
        have d1 := RQ.cell 1 rfl
        have d2 := RQ.cell 2 rfl
        have d3 := RQ.cell 3 rfl
        have d4 := RQ.cell 4 rfl
        have d5 := RQ.cell 5 rfl
        have d6 := RQ.cell 6 rfl
        have d7 := RQ.cell 7 rfl
        have d8 := RQ.cell 8 rfl
        have g0 := RQ.froz 0 rfl
        have g1 := RQ.froz 1 rfl
        have g2 := RQ.froz 2 rfl
        have g3 := RQ.froz 3 rfl
        have g4 := RQ.froz 4 rfl
        have g5 := RQ.froz 5 rfl
        have g6 := RQ.froz 6 rfl
        have g7 := RQ.froz 7 rfl
        have g8 := RQ.froz 8 rfl
        go_wp2
        replace oK2 := own_over9 oK2 (g := w.heap.size + 1 + 1) (by omega) (.int .i64 (q : Int)) (.int .i64 l) (.int .i64 d) (.int .i64 r) (.int .i64 p) (.int .i64 s) (.slice (some ⟨gK, 0, none⟩) q cK2) (.slice (some ⟨gO, 0, none⟩) q cO2) (.int .i64 (t + 1))
        replace oO2 := own_over9 oO2 (g := w.heap.size + 1 + 1) (by omega) (.int .i64 (q : Int)) (.int .i64 l) (.int .i64 d) (.int .i64 r) (.int .i64 p) (.int .i64 s) (.slice (some ⟨gK, 0, none⟩) q cK2) (.slice (some ⟨gO, 0, none⟩) q cO2) (.int .i64 (t + 1))
        replace RQ := Rm.over9 RQ (.int .i64 (q : Int)) (.int .i64 l) (.int .i64 d) (.int .i64 r) (.int .i64 p) (.int .i64 s) (.slice (some ⟨gK, 0, none⟩) q cK2) (.slice (some ⟨gO, 0, none⟩) q cO2) (.int .i64 (t + 1))
        replace BB := below_over9 BB (g := w.heap.size + 1 + 1) (by omega) (.int .i64 (q : Int)) (.int .i64 l) (.int .i64 d) (.int .i64 r) (.int .i64 p) (.int .i64 s) (.slice (some ⟨gK, 0, none⟩) q cK2) (.slice (some ⟨gO, 0, none⟩) q cO2) (.int .i64 (t + 1))
        refine bodyPost_ret (v := .tuple #[wld (q : Int) l d r p s (.slice (some ⟨gK, 0, none⟩) q cK2) (.slice (some ⟨gO, 0, none⟩) q cO2) (t + 1), .bool true]) (retWB Tryz.results25 rfl rfl RQ) rfl ⟨⟨gK, cK2, gO, cO2, by rw [E.out.1, E.out.2.2.2], by rw [E.out.2.1]; exact oK2, by rw [E.out.2.2.1]; exact oO2, gne⟩, BB⟩

end Go.Proofs.YtcgcmceobmpdiaaGreat.Tu
