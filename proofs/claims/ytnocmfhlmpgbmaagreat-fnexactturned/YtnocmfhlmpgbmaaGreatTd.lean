/-
  impl.Turned and spec.Turned by one answer.
-/
import Derived.Test.YtnocmfhlmpgbmaaGreatTi1
import Derived.Test.YtnocmfhlmpgbmaaGreatTi2
import Derived.Test.YtnocmfhlmpgbmaaGreatTs1
import Derived.Test.YtnocmfhlmpgbmaaGreatTs2
namespace Go.Proofs.YtnocmfhlmpgbmaaGreat.Tu
open Go.ChangeShapes Go.WideShapes Go.ChangeAt Go.RowKit
open Ls (el Row)
open Ow (Has ints)
open Rd (Flags)
open Bo (eb HasB)
open Rm (Room)
open Wl (wld c9 WO bad allIn)
open Ss (RowsAt ln rw_ tot)
open Tr (MV TT)
set_option linter.unusedVariables false
set_option linter.unusedSimpArgs false

set_option maxHeartbeats 2000000 in
theorem i_Turned (n l d r p s t : Int) (b off k cK : Nat) (aO : Option Addr) (m cO : Nat) (aD aE aL aF aR : Option Addr) (nD cD nE cE nL cL nF cF nR cR : Nat) (ks os ds : List Int) (es ls : List (List Int)) (fs rs : List Bool) (w : World) (hz : ks.length = k) (hc : ∀ j, j < k → w.cell? ⟨b, off + j, none⟩ = some (.int .i64 (el ks j))) (hb : b < w.heap.size) (rO : Row w w.heap.size aO m os) (rD : Row w w.heap.size aD nD ds) (rE : RowsAt w w.heap.size aE nE es) (rL : RowsAt w w.heap.size aL nL ls) (rF : Flags w w.heap.size aF nF fs) (rR : Flags w w.heap.size aR nR rs) (hk : k ≤ 1048576) (hm : m ≤ 1048576) (hnF : nF ≤ 1048576) (hnR : nR ≤ 1048576) (hnD : nD ≤ 1048576) (hnE : nE ≤ 1048576) (hnL : nL ≤ 1048576) (htE : tot es nE ≤ 1048576) (htL : tot ls nL ≤ 1048576) :
    Calls Tryz.prog 7 #[wld n l d r p s (.slice (some ⟨b, off, none⟩) k cK) (.slice aO m cO) t, trn (.slice aD nD cD) (.slice aE nE cE) (.slice aL nL cL) (.slice aF nF cF) (.slice aR nR cR)] w fun e w' => ((WO n l d r p s ks k os m t = false → e = .returned (.tuple #[.agg #[.int .i64 0, .int .i64 0, .int .i64 0, .int .i64 0, .int .i64 0, .int .i64 0, .slice none 0 0, .slice none 0 0, .int .i64 0], .bool false])) ∧ (WO n l d r p s ks k os m t = true → ∃ gK cK2 gO cO2, e = .returned (.tuple #[wld n l d r p s (.slice (some ⟨gK, 0, none⟩) k cK2) (.slice (some ⟨gO, 0, none⟩) m cO2) (RU n l d r p s ks k os m t ds es ls fs rs nF nR), .bool (RB n l d r p s ks k os m t ds es ls fs rs nF nR)]) ∧ Ow.Own w' w.heap.size gK k cK2 (RK n l d r p s ks k os m t ds es ls fs rs nF nR) ∧ Ow.Own w' w.heap.size gO m cO2 (RO n l d r p s ks k os m t ds es ls fs rs nF nR) ∧ gK ≠ gO)) ∧ Below w.heap.size w w' := by
  cases h0 : WO n l d r p s ks k os m t with
  | false =>
    refine (it_a n l d r p s t b off k cK aO m cO aD aE aL aF aR nD cD nE cE nL cL nF cF nR cR ks os ds es ls fs rs w hz hc hb rO rD rE rL rF rR hk hm hnF hnR hnD hnE hnL htE htL h0).mono ?_
    rintro e w' ⟨rfl, bq⟩
    exact ⟨⟨fun _ => rfl, fun h => by cases h⟩, bq⟩
  | true =>
    obtain ⟨en, em, k0, hO⟩ := wo_more h0
    obtain rfl : k = m := em.symm
    obtain rfl : (k : Int) = n := en.symm
    rcases id rO with ⟨zO, rO2 | ⟨bo, oo, rfl, hbo, hco⟩⟩
    · omega
    cases h1 : TO (k : Int) l d r p s ks k os k t ds es ls fs rs nF nR with
    | false =>
      have e1 : RB (k : Int) l d r p s ks k os k t ds es ls fs rs nF nR = false := by unfold RB; rw [h1]; rfl
      refine (it_b l d r p s t b off k cK bo oo cO aD aE aL aF aR nD cD nE cE nL cL nF cF nR cR ks os ds es ls fs rs w hz hc hb zO hco hbo rD rE rL rF rR hk hnF hnR hnD hnE hnL htE htL h0 h1).mono ?_
      rintro e w' ⟨⟨gK, cK2, gO, cO2, rfl, oK, oO, gne⟩, bq⟩
      refine ⟨⟨fun h => (by cases h), fun _ => ⟨gK, cK2, gO, cO2, ?_, ?_, ?_, gne⟩⟩, bq⟩
      · unfold RU; rw [e1]; rfl
      · unfold RK; rw [e1]; exact oK
      · unfold RO; rw [e1]; exact oO
    | true =>
      obtain ⟨hW, eF, eR, q1, q2, q3⟩ := to_facts h1
      obtain ⟨⟨d0, d1⟩, ⟨e0, e1⟩, k16⟩ := wo_bounds hW
      have ⟨zD, hD⟩ := r1_facts q1
      have zE := (rs_facts q2).1
      have zL := (rs_facts q3).1
      obtain rfl : k = nF := eF.symm
      obtain rfl : k = nR := eR.symm
      obtain rfl : k = nD := by rw [← rD.1]; exact zD.symm
      obtain rfl : k = nE := by rw [← rE.1]; exact zE.symm
      obtain rfl : k = nL := by rw [← rL.1]; exact zL.symm
      have tE : tot es k ≤ 1048576 := htE
      have tL : tot ls k ≤ 1048576 := htL
      refine (it_c l d r p s t b off k cK bo oo cO aD aE aL aF aR cD cE cL cF cR ks os ds es ls fs rs w hz hc hb zO hco hbo rD rE rL rF rR hk tE tL h0 h1 hO (fun j hj => by have := hD j hj; omega) (by have := wo_liars h0; omega)).mono ?_
      rintro e w' ⟨hA, bq⟩
      exact ⟨⟨fun h => (by cases h), fun _ => hA⟩, bq⟩

set_option maxHeartbeats 2000000 in
theorem s_Turned (n l d r p s t : Int) (b off k cK : Nat) (aO : Option Addr) (m cO : Nat) (aD aE aL aF aR : Option Addr) (nD cD nE cE nL cL nF cF nR cR : Nat) (ks os ds : List Int) (es ls : List (List Int)) (fs rs : List Bool) (w : World) (hz : ks.length = k) (hc : ∀ j, j < k → w.cell? ⟨b, off + j, none⟩ = some (.int .i64 (el ks j))) (hb : b < w.heap.size) (rO : Row w w.heap.size aO m os) (rD : Row w w.heap.size aD nD ds) (rE : RowsAt w w.heap.size aE nE es) (rL : RowsAt w w.heap.size aL nL ls) (rF : Flags w w.heap.size aF nF fs) (rR : Flags w w.heap.size aR nR rs) (hk : k ≤ 1048576) (hm : m ≤ 1048576) (hnF : nF ≤ 1048576) (hnR : nR ≤ 1048576) (hnD : nD ≤ 1048576) (hnE : nE ≤ 1048576) (hnL : nL ≤ 1048576) (htE : tot es nE ≤ 1048576) (htL : tot ls nL ≤ 1048576) :
    Calls Tryz.prog 8 #[wld n l d r p s (.slice (some ⟨b, off, none⟩) k cK) (.slice aO m cO) t, trn (.slice aD nD cD) (.slice aE nE cE) (.slice aL nL cL) (.slice aF nF cF) (.slice aR nR cR)] w fun e w' => ((WO n l d r p s ks k os m t = false → e = .returned (.tuple #[.agg #[.int .i64 0, .int .i64 0, .int .i64 0, .int .i64 0, .int .i64 0, .int .i64 0, .slice none 0 0, .slice none 0 0, .int .i64 0], .bool false])) ∧ (WO n l d r p s ks k os m t = true → ∃ gK cK2 gO cO2, e = .returned (.tuple #[wld n l d r p s (.slice (some ⟨gK, 0, none⟩) k cK2) (.slice (some ⟨gO, 0, none⟩) m cO2) (RU n l d r p s ks k os m t ds es ls fs rs nF nR), .bool (RB n l d r p s ks k os m t ds es ls fs rs nF nR)]) ∧ Ow.Own w' w.heap.size gK k cK2 (RK n l d r p s ks k os m t ds es ls fs rs nF nR) ∧ Ow.Own w' w.heap.size gO m cO2 (RO n l d r p s ks k os m t ds es ls fs rs nF nR) ∧ gK ≠ gO)) ∧ Below w.heap.size w w' := by
  cases h0 : WO n l d r p s ks k os m t with
  | false =>
    refine (st_a n l d r p s t b off k cK aO m cO aD aE aL aF aR nD cD nE cE nL cL nF cF nR cR ks os ds es ls fs rs w hz hc hb rO rD rE rL rF rR hk hm hnF hnR h0).mono ?_
    rintro e w' ⟨rfl, bq⟩
    exact ⟨⟨fun _ => rfl, fun h => by cases h⟩, bq⟩
  | true =>
    obtain ⟨en, em, k0, hO⟩ := wo_more h0
    obtain rfl : k = m := em.symm
    obtain rfl : (k : Int) = n := en.symm
    rcases id rO with ⟨zO, rO2 | ⟨bo, oo, rfl, hbo, hco⟩⟩
    · omega
    cases h1 : TO (k : Int) l d r p s ks k os k t ds es ls fs rs nF nR with
    | false =>
      have e1 : RB (k : Int) l d r p s ks k os k t ds es ls fs rs nF nR = false := by unfold RB; rw [h1]; rfl
      refine (st_b l d r p s t b off k cK bo oo cO aD aE aL aF aR nD cD nE cE nL cL nF cF nR cR ks os ds es ls fs rs w hz hc hb zO hco hbo rD rE rL rF rR hk hnF hnR h0 h1).mono ?_
      rintro e w' ⟨⟨gK, cK2, gO, cO2, rfl, oK, oO, gne⟩, bq⟩
      refine ⟨⟨fun h => (by cases h), fun _ => ⟨gK, cK2, gO, cO2, ?_, ?_, ?_, gne⟩⟩, bq⟩
      · unfold RU; rw [e1]; rfl
      · unfold RK; rw [e1]; exact oK
      · unfold RO; rw [e1]; exact oO
    | true =>
      obtain ⟨hW, eF, eR, q1, q2, q3⟩ := to_facts h1
      obtain ⟨⟨d0, d1⟩, ⟨e0, e1⟩, k16⟩ := wo_bounds hW
      have ⟨zD, hD⟩ := r1_facts q1
      have zE := (rs_facts q2).1
      have zL := (rs_facts q3).1
      obtain rfl : k = nF := eF.symm
      obtain rfl : k = nR := eR.symm
      obtain rfl : k = nD := by rw [← rD.1]; exact zD.symm
      obtain rfl : k = nE := by rw [← rE.1]; exact zE.symm
      obtain rfl : k = nL := by rw [← rL.1]; exact zL.symm
      have tE : tot es k ≤ 1048576 := htE
      have tL : tot ls k ≤ 1048576 := htL
      refine (st_c l d r p s t b off k cK bo oo cO aD aE aL aF aR cD cE cL cF cR ks os ds es ls fs rs w hz hc hb zO hco hbo rD rE rL rF rR hk tE tL h0 h1 hO (fun j hj => by have := hD j hj; omega) (by have := wo_liars h0; omega)).mono ?_
      rintro e w' ⟨hA, bq⟩
      exact ⟨⟨fun h => (by cases h), fun _ => hA⟩, bq⟩

end Go.Proofs.YtnocmfhlmpgbmaaGreat.Tu
