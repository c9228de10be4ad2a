/-
  impl.copyOfWorld, impl.middleWorld: a world in new memory; the world in the middle of a turn.
-/
import Derived.Test.YtcgcmceobmpdiaaGreatIm6
import Derived.Test.YtcgcmceobmpdiaaGreatPut
namespace Go.Proofs.YtcgcmceobmpdiaaGreat.Tu
open Go.ChangeShapes Go.WideShapes Go.ChangeAt Go.RowKit
open Ls (el Row)
open Ow (Has Own ints)
open Rd (Flags)
open Bo (eb HasB)
open Rm (Room)
open Wl (wld c9)
open Ss (RowsAt ln rw_ tot)
set_option linter.unusedVariables false
set_option linter.unusedSimpArgs false

theorem retW {fn : Func} {ts : Array Value} {W : World} {R i : Nat} {n l d r q s t : Int} {aK aO : Option Addr} {k cK m cO : Nat} (hf : fn.results = #[.cell i 32]) (h2 : ts[i]? = some (.pointer (some ⟨R, 0, none⟩))) (h : Room W R (c9 n l d r q s (.slice aK k cK) (.slice aO m cO) t)) :
    (results fn ts).run Tryz.prog W = .ok (wld n l d r q s (.slice aK k cK) (.slice aO m cO) t) W := by
  have q0 := h.cell 0 rfl
  have q1 := h.cell 1 rfl
  have q2 := h.cell 2 rfl
  have q3 := h.cell 3 rfl
  have q4 := h.cell 4 rfl
  have q5 := h.cell 5 rfl
  have q6 := h.cell 6 rfl
  have q7 := h.cell 7 rfl
  have q8 := h.cell 8 rfl
  simp [results, hf, h2, go_sem, q0, q1, q2, q3, q4, q5, q6, q7, q8]

theorem own_other {w : World} {B g n c : Nat} {zs : List Int} (h : Own w B g n c zs) {q : Nat} (hne : q ≠ g) (i : Nat) (u : Value) : Own (w.setCell ⟨q, i, none⟩ u) B g n c zs := by
  obtain ⟨h1, h2⟩ := h
  refine ⟨h1, ?_⟩
  rcases h2 with h2 | ⟨g', cap', cur, e, hB, hb', rest⟩
  · exact .inl h2
  · cases e
    exact .inr ⟨g, c, cur, rfl, hB, by rw [Below.heap_setCell _ _ _ _ (by simpa using Ne.symm hne)]; exact hb', rest⟩
theorem own_over9 {w : World} {B a n c g : Nat} {zs : List Int} (h : Own w B a n c zs) (hne : g ≠ a) (v0 v1 v2 v3 v4 v5 v6 v7 v8 : Value) : Own (((((((((w.setCell ⟨g, 0, none⟩ (v0)).setCell ⟨g, 1, none⟩ (v1)).setCell ⟨g, 2, none⟩ (v2)).setCell ⟨g, 3, none⟩ (v3)).setCell ⟨g, 4, none⟩ (v4)).setCell ⟨g, 5, none⟩ (v5)).setCell ⟨g, 6, none⟩ (v6)).setCell ⟨g, 7, none⟩ (v7)).setCell ⟨g, 8, none⟩ (v8)) B a n c zs := (own_other (own_other (own_other (own_other (own_other (own_other (own_other (own_other (own_other h hne 0 v0) hne 1 v1) hne 2 v2) hne 3 v3) hne 4 v4) hne 5 v5) hne 6 v6) hne 7 v7) hne 8 v8)
theorem below_over9 {w0 w : World} {B g : Nat} (h : Below B w0 w) (hg : B ≤ g) (v0 v1 v2 v3 v4 v5 v6 v7 v8 : Value) : Below B w0 (((((((((w.setCell ⟨g, 0, none⟩ (v0)).setCell ⟨g, 1, none⟩ (v1)).setCell ⟨g, 2, none⟩ (v2)).setCell ⟨g, 3, none⟩ (v3)).setCell ⟨g, 4, none⟩ (v4)).setCell ⟨g, 5, none⟩ (v5)).setCell ⟨g, 6, none⟩ (v6)).setCell ⟨g, 7, none⟩ (v7)).setCell ⟨g, 8, none⟩ (v8)) := (Below.setCell (Below.setCell (Below.setCell (Below.setCell (Below.setCell (Below.setCell (Below.setCell (Below.setCell (Below.setCell h (p := ⟨g, 0, none⟩) hg v0) (p := ⟨g, 1, none⟩) hg v1) (p := ⟨g, 2, none⟩) hg v2) (p := ⟨g, 3, none⟩) hg v3) (p := ⟨g, 4, none⟩) hg v4) (p := ⟨g, 5, none⟩) hg v5) (p := ⟨g, 6, none⟩) hg v6) (p := ⟨g, 7, none⟩) hg v7) (p := ⟨g, 8, none⟩) hg v8)
theorem room_over9 {w : World} {a g : Nat} {vs : List Value} (h : Room w a vs) (hne : g ≠ a) (v0 v1 v2 v3 v4 v5 v6 v7 v8 : Value) : Room (((((((((w.setCell ⟨g, 0, none⟩ (v0)).setCell ⟨g, 1, none⟩ (v1)).setCell ⟨g, 2, none⟩ (v2)).setCell ⟨g, 3, none⟩ (v3)).setCell ⟨g, 4, none⟩ (v4)).setCell ⟨g, 5, none⟩ (v5)).setCell ⟨g, 6, none⟩ (v6)).setCell ⟨g, 7, none⟩ (v7)).setCell ⟨g, 8, none⟩ (v8)) a vs := (((((((((h.setOther hne 0 v0).setOther hne 1 v1).setOther hne 2 v2).setOther hne 3 v3).setOther hne 4 v4).setOther hne 5 v5).setOther hne 6 v6).setOther hne 7 v7).setOther hne 8 v8)

set_option maxHeartbeats 4000000 in
theorem copyOfWorld (n l d r p s t : Int) (b off k cK bo oo m cO : Nat) (ks os : List Int) (w : World) (hzk : ks.length = k) (hck : ∀ j, j < k → w.cell? ⟨b, off + j, none⟩ = some (.int .i64 (el ks j))) (hb : b < w.heap.size) (hzo : os.length = m) (hco : ∀ j, j < m → w.cell? ⟨bo, oo + j, none⟩ = some (.int .i64 (el os j))) (hbo : bo < w.heap.size) (hk : k ≤ 1048576) (hm : m ≤ 1048576) :
    Calls Tryz.prog 24 #[wld n l d r p s (.slice (some ⟨b, off, none⟩) k cK) (.slice (some ⟨bo, oo, none⟩) m cO) t] w fun e w' => (∃ gK cK2 gO cO2, e = .returned (wld n l d r p s (.slice (some ⟨gK, 0, none⟩) k cK2) (.slice (some ⟨gO, 0, none⟩) m cO2) t) ∧ Own w' w.heap.size gK k cK2 ks ∧ Own w' w.heap.size gO m cO2 os ∧ gK < gO) ∧ Below w.heap.size w w' := by
  have R0 := (Room.new w (c9 n l d r p s (.slice (some ⟨b, off, none⟩) k cK) (.slice (some ⟨bo, oo, none⟩) m cO) t) 32).alloc (.cells [.int .i64 0, .int .i64 0, .int .i64 0, .int .i64 0, .int .i64 0, .int .i64 0, .slice none 0 0, .slice none 0 0, .int .i64 0].toArray 32)
  have RQ : Room ((w.alloc (.cells (c9 n l d r p s (.slice (some ⟨b, off, none⟩) k cK) (.slice (some ⟨bo, oo, none⟩) m cO) t).toArray 32)).alloc (.cells [.int .i64 0, .int .i64 0, .int .i64 0, .int .i64 0, .int .i64 0, .int .i64 0, .slice none 0 0, .slice none 0 0, .int .i64 0].toArray 32)) (w.heap.size + 1) [.int .i64 0, .int .i64 0, .int .i64 0, .int .i64 0, .int .i64 0, .int .i64 0, .slice none 0 0, .slice none 0 0, .int .i64 0] := Room.at _ [.int .i64 0, .int .i64 0, .int .i64 0, .int .i64 0, .int .i64 0, .int .i64 0, .slice none 0 0, .slice none 0 0, .int .i64 0] 32 _ (by simp)
  have BB := ((Below.refl w.heap.size w).alloc (Nat.le_refl _) (.cells (c9 n l d r p s (.slice (some ⟨b, off, none⟩) k cK) (.slice (some ⟨bo, oo, none⟩) m cO) t).toArray 32)).alloc (by simp) (.cells [.int .i64 0, .int .i64 0, .int .i64 0, .int .i64 0, .int .i64 0, .int .i64 0, .slice none 0 0, .slice none 0 0, .int .i64 0].toArray 32)
  have key := Wl.clone b off k cK ks _ hzk (fun j hj => by rw [BB.cell (p := ⟨b, off + j, none⟩) hb]; exact hck j hj) hk (Nat.lt_of_lt_of_le hb BB.size)
  have HO : Hid (∀ j, j < m → w.cell? ⟨bo, oo + j, none⟩ = some (.int .i64 (el os j))) := hco
  clear hck hco
  go_enter Tryz.func24, Tryz.ntmps24
  go_wp2_with fail
  refine key.mono ?_
  rintro e w2 ⟨⟨gK, cK2, rfl, oK⟩, b2⟩
  clear key
  have z2 := b2.size
  simp at z2
  have lK := oK.data.2.1
  simp at lK
  have uK := oK.lt
  replace oK := oK.mono (B' := w.heap.size) (by simp; omega)
  replace R0 := R0.below b2
  replace RQ := RQ.below b2
  replace BB := BB.trans (b2.mono BB.size)
  have B3 := BB.setCell (p := ⟨w.heap.size, 6, none⟩) (by simp) (.slice (some ⟨gK, 0, none⟩) k cK2)
  have key2 := Wl.clone bo oo m cO os _ hzo (fun j hj => by rw [B3.cell (p := ⟨bo, oo + j, none⟩) hbo]; exact HO.out j hj) hm (Nat.lt_of_lt_of_le hbo B3.size)
  have c7 := R0.cell 7 rfl
  have c6 := R0.cell 6 rfl
  have f6 := R0.froz 6 rfl
  clear b2
  go_wp2_with fail
  refine key2.mono ?_
  rintro e w3 ⟨⟨gO, cO2, rfl, oO⟩, b3⟩
  clear key2 c7 c6 f6
  have z3 := b3.size
  simp at z3
  have lO := oO.data.2.1
  simp at lO
  have uO := oO.lt
  replace oO := oO.mono (B' := w.heap.size) (by simp; omega)
  replace oK := (own_other oK (q := w.heap.size) (by omega) 6 (.slice (some ⟨gK, 0, none⟩) k cK2)).later b3 (by simp; omega)
  replace R0 := (R0.set 6 (.slice (some ⟨gK, 0, none⟩) k cK2)).below b3
  replace RQ := (RQ.setOther (q := w.heap.size) (by omega) 6 (.slice (some ⟨gK, 0, none⟩) k cK2)).below b3
  replace BB := B3.trans (b3.mono B3.size)
  clear B3 b3
  have c7 := R0.cell 7 rfl
  have f7 := R0.froz 7 rfl
  have c0 := R0.cell 0 rfl
  have c1 := R0.cell 1 rfl
  have c2 := R0.cell 2 rfl
  have c3 := R0.cell 3 rfl
  have c4 := R0.cell 4 rfl
  have c5 := R0.cell 5 rfl
  have c6 := R0.cell 6 rfl
  have c8 := R0.cell 8 rfl
  have d0 := RQ.cell 0 rfl
  have d1 := RQ.cell 1 rfl
  have d2 := RQ.cell 2 rfl
  have d3 := RQ.cell 3 rfl
  have d4 := RQ.cell 4 rfl
  have d5 := RQ.cell 5 rfl
  have d6 := RQ.cell 6 rfl
  have d7 := RQ.cell 7 rfl
  have d8 := RQ.cell 8 rfl
  have g0 := RQ.froz 0 rfl
  have g1 := RQ.froz 1 rfl
  have g2 := RQ.froz 2 rfl
  have g3 := RQ.froz 3 rfl
  have g4 := RQ.froz 4 rfl
  have g5 := RQ.froz 5 rfl
  have g6 := RQ.froz 6 rfl
  have g7 := RQ.froz 7 rfl
  have g8 := RQ.froz 8 rfl
  go_wp2
  replace oK := own_over9 (own_other oK (q := w.heap.size) (by omega) 7 (.slice (some ⟨gO, 0, none⟩) m cO2)) (g := w.heap.size + 1) (by omega) (.int .i64 n) (.int .i64 l) (.int .i64 d) (.int .i64 r) (.int .i64 p) (.int .i64 s) (.slice (some ⟨gK, 0, none⟩) k cK2) (.slice (some ⟨gO, 0, none⟩) m cO2) (.int .i64 t)
  replace oO := own_over9 (own_other oO (q := w.heap.size) (by omega) 7 (.slice (some ⟨gO, 0, none⟩) m cO2)) (g := w.heap.size + 1) (by omega) (.int .i64 n) (.int .i64 l) (.int .i64 d) (.int .i64 r) (.int .i64 p) (.int .i64 s) (.slice (some ⟨gK, 0, none⟩) k cK2) (.slice (some ⟨gO, 0, none⟩) m cO2) (.int .i64 t)
  replace RQ := Rm.over9 (RQ.setOther (q := w.heap.size) (by omega) 7 (.slice (some ⟨gO, 0, none⟩) m cO2)) (.int .i64 n) (.int .i64 l) (.int .i64 d) (.int .i64 r) (.int .i64 p) (.int .i64 s) (.slice (some ⟨gK, 0, none⟩) k cK2) (.slice (some ⟨gO, 0, none⟩) m cO2) (.int .i64 t)
  replace BB := below_over9 (BB.setCell (p := ⟨w.heap.size, 7, none⟩) (by simp) (.slice (some ⟨gO, 0, none⟩) m cO2)) (g := w.heap.size + 1) (by omega) (.int .i64 n) (.int .i64 l) (.int .i64 d) (.int .i64 r) (.int .i64 p) (.int .i64 s) (.slice (some ⟨gK, 0, none⟩) k cK2) (.slice (some ⟨gO, 0, none⟩) m cO2) (.int .i64 t)
  refine bodyPost_ret (v := wld n l d r p s (.slice (some ⟨gK, 0, none⟩) k cK2) (.slice (some ⟨gO, 0, none⟩) m cO2) t) (retW Tryz.results24 rfl RQ) rfl ⟨⟨gK, cK2, gO, cO2, rfl, oK, oO, by omega⟩, BB⟩

/-- The offs when the first j have drifted. -/
def DOj (os ds : List Int) : Nat → List Int
  | 0 => os
  | j + 1 => (DOj os ds j).set j (el os j + el ds j)
theorem do_len (os ds : List Int) (j : Nat) : (DOj os ds j).length = os.length := by
  induction j with
  | zero => rfl
  | succ j ih => unfold DOj; simp [ih]
theorem do_el (os ds : List Int) (j i : Nat) (hi : i < os.length) : el (DOj os ds j) i = if i < j then el os i + el ds i else el os i := by
  induction j with
  | zero => rw [if_neg (by omega)]; rfl
  | succ j ih =>
    unfold DOj
    by_cases e : i = j
    · subst e
      rw [if_pos (by omega)]
      simp [el, List.getD, do_len, hi]
    · have q : ((DOj os ds j).set j (el os j + el ds j)).getD i 0 = (DOj os ds j).getD i 0 := by simp [List.getD, List.getElem?_set, Ne.symm e]
      unfold el at ih ⊢
      unfold el at q
      rw [q, ih]
      by_cases h2 : i < j
      · rw [if_pos h2, if_pos (by omega)]
      · rw [if_neg h2, if_neg (by omega)]
/-- The offs in the middle. -/
def MO (os ds : List Int) : List Int := DOj os ds os.length

set_option maxHeartbeats 8000000 in
theorem middleWorld (n l d r p s t : Int) (b off k cK bo oo cO : Nat) (aD aF : Option Addr) (cD cF : Nat) (E L R : Value) (ks os ds : List Int) (fs : List Bool) (w : World) (hzk : ks.length = k) (hck : ∀ j, j < k → w.cell? ⟨b, off + j, none⟩ = some (.int .i64 (el ks j))) (hb : b < w.heap.size) (hzo : os.length = k) (hco : ∀ j, j < k → w.cell? ⟨bo, oo + j, none⟩ = some (.int .i64 (el os j))) (hbo : bo < w.heap.size) (rD : Row w w.heap.size aD k ds) (rF : Flags w w.heap.size aF k fs) (hk : k ≤ 1048576) (hO : ∀ j, j < k → -1000000000000000 ≤ el os j ∧ el os j ≤ 1000000000000000) (hD : ∀ j, j < k → -1000000 ≤ el ds j ∧ el ds j ≤ 1000000) :
    Calls Tryz.prog 52 #[wld n l d r p s (.slice (some ⟨b, off, none⟩) k cK) (.slice (some ⟨bo, oo, none⟩) k cO) t, .agg #[.slice aD k cD, E, L, .slice aF k cF, R]] w fun e w' => (∃ gK cK2 gO cO2, e = .returned (wld n l d r p s (.slice (some ⟨gK, 0, none⟩) k cK2) (.slice (some ⟨gO, 0, none⟩) k cO2) t) ∧ Own w' w.heap.size gK k cK2 (FK ks fs) ∧ Own w' w.heap.size gO k cO2 (MO os ds) ∧ gK < gO) ∧ Below w.heap.size w w' := by
  have R1 := ((Room.at (w.alloc (.cells (c9 n l d r p s (.slice (some ⟨b, off, none⟩) k cK) (.slice (some ⟨bo, oo, none⟩) k cO) t).toArray 32)) [.slice aD k cD, E, L, .slice aF k cF, R] 53 (w.heap.size + 1) (by simp)).alloc (.cells [.int .i64 0, .int .i64 0, .int .i64 0, .int .i64 0, .int .i64 0, .int .i64 0, .slice none 0 0, .slice none 0 0, .int .i64 0].toArray 32))
  have RQ : Room (((w.alloc (.cells (c9 n l d r p s (.slice (some ⟨b, off, none⟩) k cK) (.slice (some ⟨bo, oo, none⟩) k cO) t).toArray 32)).alloc (.cells [.slice aD k cD, E, L, .slice aF k cF, R].toArray 53)).alloc (.cells [.int .i64 0, .int .i64 0, .int .i64 0, .int .i64 0, .int .i64 0, .int .i64 0, .slice none 0 0, .slice none 0 0, .int .i64 0].toArray 32)) (w.heap.size + 2) [.int .i64 0, .int .i64 0, .int .i64 0, .int .i64 0, .int .i64 0, .int .i64 0, .slice none 0 0, .slice none 0 0, .int .i64 0] := Room.at _ [.int .i64 0, .int .i64 0, .int .i64 0, .int .i64 0, .int .i64 0, .int .i64 0, .slice none 0 0, .slice none 0 0, .int .i64 0] 32 _ (by simp)
  have BB := (((Below.refl w.heap.size w).alloc (Nat.le_refl _) (.cells (c9 n l d r p s (.slice (some ⟨b, off, none⟩) k cK) (.slice (some ⟨bo, oo, none⟩) k cO) t).toArray 32)).alloc (by simp) (.cells [.slice aD k cD, E, L, .slice aF k cF, R].toArray 53)).alloc (by simp <;> omega) (.cells [.int .i64 0, .int .i64 0, .int .i64 0, .int .i64 0, .int .i64 0, .int .i64 0, .slice none 0 0, .slice none 0 0, .int .i64 0].toArray 32)
  have key := copyOfWorld n l d r p s t b off k cK bo oo k cO ks os _ hzk (fun j hj => by rw [BB.cell (p := ⟨b, off + j, none⟩) hb]; exact hck j hj) (Nat.lt_of_lt_of_le hb BB.size) hzo (fun j hj => by rw [BB.cell (p := ⟨bo, oo + j, none⟩) hbo]; exact hco j hj) (Nat.lt_of_lt_of_le hbo BB.size) hk hk
  have HO : Hid (∀ j, j < k → -1000000000000000 ≤ el os j ∧ el os j ≤ 1000000000000000) := hO
  have HD : Hid (∀ j, j < k → -1000000 ≤ el ds j ∧ el ds j ≤ 1000000) := hD
  clear hck hco hO hD
  obtain ⟨hzd, hrD⟩ := rD
  obtain ⟨hzf, hrF⟩ := rF
  go_enter Tryz.func52, Tryz.ntmps52
  go_wp2_with fail
  refine key.mono ?_
  rintro e w2 ⟨⟨gK, cK2, gO, cO2, rfl, oK, oO, hKO⟩, b2⟩
  clear key
  have z2 := b2.size
  simp at z2
  have lK := oK.data.2.1
  simp at lK
  have uO := oO.lt
  replace oK := oK.mono (B' := w.heap.size) (by simp; omega)
  replace oO := oO.mono (B' := w.heap.size) (by simp; omega)
  replace R1 := R1.below b2
  replace RQ := RQ.below b2
  replace BB := BB.trans (b2.mono BB.size)
  have bn := (Below.refl w2.heap.size w2).alloc (Nat.le_refl _) (.cells (c9 n l d r p s (.slice (some ⟨gK, 0, none⟩) k cK2) (.slice (some ⟨gO, 0, none⟩) k cO2) t).toArray 32)
  have RX := Room.new w2 (c9 n l d r p s (.slice (some ⟨gK, 0, none⟩) k cK2) (.slice (some ⟨gO, 0, none⟩) k cO2) t) 32
  replace oK := oK.later bn oK.lt
  replace oO := oO.later bn oO.lt
  replace R1 := R1.below bn
  replace RQ := RQ.below bn
  replace BB := BB.trans (bn.mono BB.size)
  have HS : Hid (Own _ w.heap.size gK k cK2 ks ∧ Own _ w.heap.size gO k cO2 os ∧ Room _ (w.heap.size + 1) [.slice aD k cD, E, L, .slice aF k cF, R] ∧ Room _ (w.heap.size + 2) [.int .i64 0, .int .i64 0, .int .i64 0, .int .i64 0, .int .i64 0, .int .i64 0, .slice none 0 0, .slice none 0 0, .int .i64 0] ∧ Room _ w2.heap.size (c9 n l d r p s (.slice (some ⟨gK, 0, none⟩) k cK2) (.slice (some ⟨gO, 0, none⟩) k cO2) t) ∧ Below w.heap.size w _) := ⟨oK, oO, R1, RQ, RX, BB⟩
  have c0 := R1.cell 0 rfl
  clear oK oO RQ RX BB b2 bn R1
  go_wp2_with fail
  clear c0
  go_loopw [13] (fun i wr => ∃ j : Nat, j ≤ k ∧ i = .int .i64 (j : Int) ∧ Hid (Own wr w.heap.size gK k cK2 (FKj ks fs j) ∧ Own wr w.heap.size gO k cO2 (DOj os ds j) ∧ Room wr (w.heap.size + 1) [.slice aD k cD, E, L, .slice aF k cF, R] ∧ Room wr (w.heap.size + 2) [.int .i64 0, .int .i64 0, .int .i64 0, .int .i64 0, .int .i64 0, .int .i64 0, .slice none 0 0, .slice none 0 0, .int .i64 0] ∧ Room wr w2.heap.size (c9 n l d r p s (.slice (some ⟨gK, 0, none⟩) k cK2) (.slice (some ⟨gO, 0, none⟩) k cO2) t) ∧ Below w.heap.size w wr)) (fun i _ => k - (intOf i).toNat)
  case atStart => exact ⟨0, Nat.zero_le _, rfl, HS⟩
  case round =>
    obtain ⟨j, hj, rfl, H⟩ := hrel
    obtain ⟨oK, oO, R1, RQ, RX, BB⟩ := H.out
    clear H HS
    by_cases hlt : j < k
    · have hi : (j : Int) < k := by omega
      rcases hrD with hrD | ⟨bd, od, rfl, hBd, hcd⟩
      · omega
      rcases hrF with hrF | ⟨bf, of, rfl, hBf, hcf⟩
      · omega
      have hcD := hcd j hlt
      rw [← BB.cell (p := ⟨bd, od + j, none⟩) hBd] at hcD
      have hcF : w.cell? ⟨bf, of + j, none⟩ = some (.bool (eb fs j)) := hcf j hlt
      rw [← BB.cell (p := ⟨bf, of + j, none⟩) hBf] at hcF
      clear hcd hcf
      have x3 := R1.cell 3 rfl
      have y6 := RX.cell 6 rfl
      have y7 := RX.cell 7 rfl
      have hcO := (oO.cell j hlt).1
      have hfO := (oO.cell j hlt).2
      have hcK := (oK.cell j hlt).1
      have hfK := (oK.cell j hlt).2
      rw [do_el os ds j j (by omega), if_neg (by omega)] at hcO
      obtain ⟨o0, o1⟩ := HO.out j hlt
      obtain ⟨d0, d1⟩ := HD.out j hlt
      have q1 : gO ≠ gK := by omega
      cases hx : eb fs j with
      | true =>
        rw [hx] at hcF
        have HN : Hid (_ ∧ _ ∧ _ ∧ _ ∧ _ ∧ _) := ⟨own_put (own_other oK (q := gO) (by omega) j (.int .i64 (el os j + el ds j))) hlt 1, own_other (own_put oO hlt (el os j + el ds j)) (q := gK) (by omega) j (.int .i64 1), (R1.setOther (q := gO) (by omega) j (.int .i64 (el os j + el ds j))).setOther (q := gK) (by omega) j (.int .i64 1), (RQ.setOther (q := gO) (by omega) j (.int .i64 (el os j + el ds j))).setOther (q := gK) (by omega) j (.int .i64 1), (RX.setOther (q := gO) (by omega) j (.int .i64 (el os j + el ds j))).setOther (q := gK) (by omega) j (.int .i64 1), (BB.setCell (p := ⟨gO, j, none⟩) (by simp; omega) (.int .i64 (el os j + el ds j))).setCell (p := ⟨gK, j, none⟩) (by simp; omega) (.int .i64 1)⟩
        have e1 : FKj ks fs (j + 1) = (FKj ks fs j).set j 1 := by show (if eb fs j then _ else _) = _; rw [if_pos hx]
        rw [← e1] at HN
        clear e1 oK oO R1 RQ RX BB
        go_wp2_with fail
        go_roundw
        case rel => exact ⟨j + 1, by omega, by go_num, HN⟩
        case measure => simp [intOf]; omega
      | false =>
        rw [hx] at hcF
        have HN : Hid (_ ∧ _ ∧ _ ∧ _ ∧ _ ∧ _) := ⟨own_other oK (q := gO) (by omega) j (.int .i64 (el os j + el ds j)), own_put oO hlt (el os j + el ds j), R1.setOther (q := gO) (by omega) j (.int .i64 (el os j + el ds j)), RQ.setOther (q := gO) (by omega) j (.int .i64 (el os j + el ds j)), RX.setOther (q := gO) (by omega) j (.int .i64 (el os j + el ds j)), BB.setCell (p := ⟨gO, j, none⟩) (by simp; omega) (.int .i64 (el os j + el ds j))⟩
        have e1 : FKj ks fs (j + 1) = FKj ks fs j := by show (if eb fs j then _ else _) = _; rw [if_neg (by rw [hx]; simp)]
        rw [← e1] at HN
        clear e1 oK oO R1 RQ RX BB
        go_wp2_with fail
        go_roundw
        case rel => exact ⟨j + 1, by omega, by go_num, HN⟩
        case measure => simp [intOf]; omega
    · have hi : ¬ (j : Int) < k := by omega
      have e : j = k := by omega
      subst e
      have HF : Hid (Own wr w.heap.size gK j cK2 (FK ks fs)) := by unfold Hid FK; rw [hzk]; exact oK
      have HG : Hid (Own wr w.heap.size gO j cO2 (MO os ds)) := by unfold Hid MO; rw [hzo]; exact oO
      have lR := RX.lt (by simp)
      have c0 := RX.cell 0 rfl
      have c1 := RX.cell 1 rfl
      have c2 := RX.cell 2 rfl
      have c3 := RX.cell 3 rfl
      have c4 := RX.cell 4 rfl
      have c5 := RX.cell 5 rfl
      have c6 := RX.cell 6 rfl
      have c7 := RX.cell 7 rfl
      have c8 := RX.cell 8 rfl
      have d0 := RQ.cell 0 rfl
      have d1 := RQ.cell 1 rfl
      have d2 := RQ.cell 2 rfl
      have d3 := RQ.cell 3 rfl
      have d4 := RQ.cell 4 rfl
      have d5 := RQ.cell 5 rfl
      have d6 := RQ.cell 6 rfl
      have d7 := RQ.cell 7 rfl
      have d8 := RQ.cell 8 rfl
      have g0 := RQ.froz 0 rfl
      have g1 := RQ.froz 1 rfl
      have g2 := RQ.froz 2 rfl
      have g3 := RQ.froz 3 rfl
      have g4 := RQ.froz 4 rfl
      have g5 := RQ.froz 5 rfl
      have g6 := RQ.froz 6 rfl
      have g7 := RQ.froz 7 rfl
      have g8 := RQ.froz 8 rfl
      go_wp2
      have pK := own_over9 HF.out (g := w.heap.size + 2) (by omega) (.int .i64 n) (.int .i64 l) (.int .i64 d) (.int .i64 r) (.int .i64 p) (.int .i64 s) (.slice (some ⟨gK, 0, none⟩) j cK2) (.slice (some ⟨gO, 0, none⟩) j cO2) (.int .i64 t)
      have pO := own_over9 HG.out (g := w.heap.size + 2) (by omega) (.int .i64 n) (.int .i64 l) (.int .i64 d) (.int .i64 r) (.int .i64 p) (.int .i64 s) (.slice (some ⟨gK, 0, none⟩) j cK2) (.slice (some ⟨gO, 0, none⟩) j cO2) (.int .i64 t)
      replace RQ := Rm.over9 RQ (.int .i64 n) (.int .i64 l) (.int .i64 d) (.int .i64 r) (.int .i64 p) (.int .i64 s) (.slice (some ⟨gK, 0, none⟩) j cK2) (.slice (some ⟨gO, 0, none⟩) j cO2) (.int .i64 t)
      replace BB := below_over9 BB (g := w.heap.size + 2) (by omega) (.int .i64 n) (.int .i64 l) (.int .i64 d) (.int .i64 r) (.int .i64 p) (.int .i64 s) (.slice (some ⟨gK, 0, none⟩) j cK2) (.slice (some ⟨gO, 0, none⟩) j cO2) (.int .i64 t)
      refine bodyPost_ret (v := wld n l d r p s (.slice (some ⟨gK, 0, none⟩) j cK2) (.slice (some ⟨gO, 0, none⟩) j cO2) t) (retW Tryz.results52 rfl RQ) rfl ⟨⟨gK, cK2, gO, cO2, rfl, pK, pO, by omega⟩, BB⟩

end Go.Proofs.YtcgcmceobmpdiaaGreat.Tu
