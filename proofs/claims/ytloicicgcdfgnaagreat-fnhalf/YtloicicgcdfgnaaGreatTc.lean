/-
  spec.l5Copy: a world in new memory; a world and a bool as results.
-/
import Derived.Test.YtloicicgcdfgnaaGreatIm6b
import Derived.Test.YtloicicgcdfgnaaGreatPlain
namespace Go.Proofs.YtloicicgcdfgnaaGreat.Tu
open Go.ChangeShapes Go.WideShapes Go.ChangeAt Go.RowKit
open Ls (el Row)
open Ow (Has ints)
open Rd (Flags)
open Bo (eb HasB)
open Rm (Room)
open Wl (wld c9 WO bad allIn)
open Ss (RowsAt ln rw_ tot)
open Tr (MV TT)
set_option linter.unusedVariables false
set_option linter.unusedSimpArgs false

set_option maxHeartbeats 4000000 in
theorem l5Copy (n l d r p s t : Int) (b off k cK bo oo m cO : Nat) (ks os : List Int) (w : World) (hzk : ks.length = k) (hck : ∀ j, j < k → w.cell? ⟨b, off + j, none⟩ = some (.int .i64 (el ks j))) (hb : b < w.heap.size) (hzo : os.length = m) (hco : ∀ j, j < m → w.cell? ⟨bo, oo + j, none⟩ = some (.int .i64 (el os j))) (hbo : bo < w.heap.size) (hk : k ≤ 1048576) (hm : m ≤ 1048576) :
    Calls Tryz.prog 45 #[wld n l d r p s (.slice (some ⟨b, off, none⟩) k cK) (.slice (some ⟨bo, oo, none⟩) m cO) t] w fun e w' => (∃ gK cK2 gO cO2, e = .returned (wld n l d r p s (.slice (some ⟨gK, 0, none⟩) k cK2) (.slice (some ⟨gO, 0, none⟩) m cO2) t) ∧ Ow.Own w' w.heap.size gK k cK2 ks ∧ Ow.Own w' w.heap.size gO m cO2 os ∧ gK < gO) ∧ Below w.heap.size w w' := by
  have R0 := (Room.new w (c9 n l d r p s (.slice (some ⟨b, off, none⟩) k cK) (.slice (some ⟨bo, oo, none⟩) m cO) t) 31).alloc (.cells [.int .i64 0, .int .i64 0, .int .i64 0, .int .i64 0, .int .i64 0, .int .i64 0, .slice none 0 0, .slice none 0 0, .int .i64 0].toArray 31)
  have RQ : Room ((w.alloc (.cells (c9 n l d r p s (.slice (some ⟨b, off, none⟩) k cK) (.slice (some ⟨bo, oo, none⟩) m cO) t).toArray 31)).alloc (.cells [.int .i64 0, .int .i64 0, .int .i64 0, .int .i64 0, .int .i64 0, .int .i64 0, .slice none 0 0, .slice none 0 0, .int .i64 0].toArray 31)) (w.heap.size + 1) [.int .i64 0, .int .i64 0, .int .i64 0, .int .i64 0, .int .i64 0, .int .i64 0, .slice none 0 0, .slice none 0 0, .int .i64 0] := Room.at _ [.int .i64 0, .int .i64 0, .int .i64 0, .int .i64 0, .int .i64 0, .int .i64 0, .slice none 0 0, .slice none 0 0, .int .i64 0] 31 _ (by simp)
  have BB := ((Below.refl w.heap.size w).alloc (Nat.le_refl _) (.cells (c9 n l d r p s (.slice (some ⟨b, off, none⟩) k cK) (.slice (some ⟨bo, oo, none⟩) m cO) t).toArray 31)).alloc (by simp) (.cells [.int .i64 0, .int .i64 0, .int .i64 0, .int .i64 0, .int .i64 0, .int .i64 0, .slice none 0 0, .slice none 0 0, .int .i64 0].toArray 31)
  have key := Wl.l1Copy b off k cK ks _ hzk (fun j hj => by rw [BB.cell (p := ⟨b, off + j, none⟩) hb]; exact hck j hj) hk (Nat.lt_of_lt_of_le hb BB.size)
  have HO : Hid (∀ j, j < m → w.cell? ⟨bo, oo + j, none⟩ = some (.int .i64 (el os j))) := hco
  clear hck hco
  go_enter Tryz.func45, Tryz.ntmps45
  go_wp2_with fail
  refine key.mono ?_
  rintro e w2 ⟨⟨gK, cK2, rfl, oK⟩, b2⟩
  clear key
  have z2 := b2.size
  simp at z2
  have lK := oK.data.2.1
  simp at lK
  have uK := oK.lt
  replace oK := oK.mono (B' := w.heap.size) (by simp; omega)
  replace R0 := R0.below b2
  replace RQ := RQ.below b2
  replace BB := BB.trans (b2.mono BB.size)
  have B3 := BB.setCell (p := ⟨w.heap.size, 6, none⟩) (by simp) (.slice (some ⟨gK, 0, none⟩) k cK2)
  have key2 := Wl.l1Copy bo oo m cO os _ hzo (fun j hj => by rw [B3.cell (p := ⟨bo, oo + j, none⟩) hbo]; exact HO.out j hj) hm (Nat.lt_of_lt_of_le hbo B3.size)
  have c7 := R0.cell 7 rfl
  have c6 := R0.cell 6 rfl
  have f6 := R0.froz 6 rfl
  clear b2
  go_wp2_with fail
  refine key2.mono ?_
  rintro e w3 ⟨⟨gO, cO2, rfl, oO⟩, b3⟩
  clear key2 c7 c6 f6
  have z3 := b3.size
  simp at z3
  have lO := oO.data.2.1
  simp at lO
  have uO := oO.lt
  replace oO := oO.mono (B' := w.heap.size) (by simp; omega)
  replace oK := (own_other oK (q := w.heap.size) (by omega) 6 (.slice (some ⟨gK, 0, none⟩) k cK2)).later b3 (by simp; omega)
  replace R0 := (R0.set 6 (.slice (some ⟨gK, 0, none⟩) k cK2)).below b3
  replace RQ := (RQ.setOther (q := w.heap.size) (by omega) 6 (.slice (some ⟨gK, 0, none⟩) k cK2)).below b3
  replace BB := B3.trans (b3.mono B3.size)
  clear B3 b3
  have c7 := R0.cell 7 rfl
  have f7 := R0.froz 7 rfl
  have c0 := R0.cell 0 rfl
  have c1 := R0.cell 1 rfl
  have c2 := R0.cell 2 rfl
  have c3 := R0.cell 3 rfl
  have c4 := R0.cell 4 rfl
  have c5 := R0.cell 5 rfl
  have c6 := R0.cell 6 rfl
  have c8 := R0.cell 8 rfl
  have d0 := RQ.cell 0 rfl
  have d1 := RQ.cell 1 rfl
  have d2 := RQ.cell 2 rfl
  have d3 := RQ.cell 3 rfl
  have d4 := RQ.cell 4 rfl
  have d5 := RQ.cell 5 rfl
  have d6 := RQ.cell 6 rfl
  have d7 := RQ.cell 7 rfl
  have d8 := RQ.cell 8 rfl
  have g0 := RQ.froz 0 rfl
  have g1 := RQ.froz 1 rfl
  have g2 := RQ.froz 2 rfl
  have g3 := RQ.froz 3 rfl
  have g4 := RQ.froz 4 rfl
  have g5 := RQ.froz 5 rfl
  have g6 := RQ.froz 6 rfl
  have g7 := RQ.froz 7 rfl
  have g8 := RQ.froz 8 rfl
  go_wp2
  replace oK := own_over9 (own_other oK (q := w.heap.size) (by omega) 7 (.slice (some ⟨gO, 0, none⟩) m cO2)) (g := w.heap.size + 1) (by omega) (.int .i64 n) (.int .i64 l) (.int .i64 d) (.int .i64 r) (.int .i64 p) (.int .i64 s) (.slice (some ⟨gK, 0, none⟩) k cK2) (.slice (some ⟨gO, 0, none⟩) m cO2) (.int .i64 t)
  replace oO := own_over9 (own_other oO (q := w.heap.size) (by omega) 7 (.slice (some ⟨gO, 0, none⟩) m cO2)) (g := w.heap.size + 1) (by omega) (.int .i64 n) (.int .i64 l) (.int .i64 d) (.int .i64 r) (.int .i64 p) (.int .i64 s) (.slice (some ⟨gK, 0, none⟩) k cK2) (.slice (some ⟨gO, 0, none⟩) m cO2) (.int .i64 t)
  replace RQ := Rm.over9 (RQ.setOther (q := w.heap.size) (by omega) 7 (.slice (some ⟨gO, 0, none⟩) m cO2)) (.int .i64 n) (.int .i64 l) (.int .i64 d) (.int .i64 r) (.int .i64 p) (.int .i64 s) (.slice (some ⟨gK, 0, none⟩) k cK2) (.slice (some ⟨gO, 0, none⟩) m cO2) (.int .i64 t)
  replace BB := below_over9 (BB.setCell (p := ⟨w.heap.size, 7, none⟩) (by simp) (.slice (some ⟨gO, 0, none⟩) m cO2)) (g := w.heap.size + 1) (by omega) (.int .i64 n) (.int .i64 l) (.int .i64 d) (.int .i64 r) (.int .i64 p) (.int .i64 s) (.slice (some ⟨gK, 0, none⟩) k cK2) (.slice (some ⟨gO, 0, none⟩) m cO2) (.int .i64 t)
  refine bodyPost_ret (v := wld n l d r p s (.slice (some ⟨gK, 0, none⟩) k cK2) (.slice (some ⟨gO, 0, none⟩) m cO2) t) (retW Tryz.results45 rfl RQ) rfl ⟨⟨gK, cK2, gO, cO2, rfl, oK, oO, by omega⟩, BB⟩

theorem retWB {fn : Func} {ts : Array Value} {W : World} {R i q : Nat} {n l d r u s t : Int} {aK aO : Option Addr} {k cK m cO : Nat} {v : Value} (hf : fn.results = #[.cell i 31, .tmp q]) (h2 : ts[i]? = some (.pointer (some ⟨R, 0, none⟩))) (h3 : ts[q]? = some v) (h : Room W R (c9 n l d r u s (.slice aK k cK) (.slice aO m cO) t)) :
    (results fn ts).run Tryz.prog W = .ok (.tuple #[wld n l d r u s (.slice aK k cK) (.slice aO m cO) t, v]) W := by
  have q0 := h.cell 0 rfl
  have q1 := h.cell 1 rfl
  have q2 := h.cell 2 rfl
  have q3 := h.cell 3 rfl
  have q4 := h.cell 4 rfl
  have q5 := h.cell 5 rfl
  have q6 := h.cell 6 rfl
  have q7 := h.cell 7 rfl
  have q8 := h.cell 8 rfl
  simp [results, hf, h2, h3, go_sem, q0, q1, q2, q3, q4, q5, q6, q7, q8]

end Go.Proofs.YtloicicgcdfgnaaGreat.Tu
