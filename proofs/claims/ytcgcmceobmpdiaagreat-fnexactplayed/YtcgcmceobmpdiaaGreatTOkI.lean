/-
  impl.TurnOk by its answer; it writes nothing that was there ahead of it.
-/
import Derived.Test.YtcgcmceobmpdiaaGreatTI0
import Derived.Test.YtcgcmceobmpdiaaGreatTI1
import Derived.Test.YtcgcmceobmpdiaaGreatTI2
import Derived.Test.YtcgcmceobmpdiaaGreatTI3
import Derived.Test.YtcgcmceobmpdiaaGreatTI4
import Derived.Test.YtcgcmceobmpdiaaGreatTI5
import Derived.Test.YtcgcmceobmpdiaaGreatTI6
namespace Go.Proofs.YtcgcmceobmpdiaaGreat.Tu
open Go.ChangeShapes Go.WideShapes Go.ChangeAt Go.RowKit
open Ls (el Row)
open Ow (Has Own ints)
open Rd (Flags)
open Bo (eb HasB)
open Rm (Room)
open Sp (span LK)
open Wl (wld c9 WO bad allIn)
open Ss (RowsAt ln rw_ tot)
open Cf (CP)
set_option linter.unusedVariables false
set_option linter.unusedSimpArgs false

theorem i_TurnOk (n l d r p s t : Int) (b off k cK : Nat) (aO : Option Addr) (m cO : Nat) (aD aE aL aF aR : Option Addr) (nD cD nE cE nL cL nF cF nR cR : Nat) (ks os ds : List Int) (es ls : List (List Int)) (fs rs : List Bool) (w : World) (hz : ks.length = k) (hc : ∀ j, j < k → w.cell? ⟨b, off + j, none⟩ = some (.int .i64 (el ks j))) (hb : b < w.heap.size) (rO : Row w w.heap.size aO m os) (rD : Row w w.heap.size aD nD ds) (rE : RowsAt w w.heap.size aE nE es) (rL : RowsAt w w.heap.size aL nL ls) (rF : Flags w w.heap.size aF nF fs) (rR : Flags w w.heap.size aR nR rs) (hk : k ≤ 1048576) (hm : m ≤ 1048576) (hnD : nD ≤ 1048576) (hnE : nE ≤ 1048576) (hnL : nL ≤ 1048576) (htE : tot es nE ≤ 1048576) (htL : tot ls nL ≤ 1048576) (hnF : nF ≤ 1048576) (hnR : nR ≤ 1048576) :
    Calls Tryz.prog 51 #[wld n l d r p s (.slice (some ⟨b, off, none⟩) k cK) (.slice aO m cO) t, trn (.slice aD nD cD) (.slice aE nE cE) (.slice aL nL cL) (.slice aF nF cF) (.slice aR nR cR)] w fun e w' => e = .returned (.bool (TO n l d r p s ks k os m t ds es ls fs rs nF nR)) ∧ Below w.heap.size w w' := by
  have rK : Row w w.heap.size (some ⟨b, off, none⟩) k ks := ⟨hz, .inr ⟨b, off, rfl, hb, hc⟩⟩
  unfold TO
  cases h0 : WO n l d r p s ks k os m t with
  | false => exact ti0 n m l d r p s t k cK cO _ aO aD aE aL aF aR nD nF cD nE cE nL cL cF nR cR ks os ds es ls fs rs w rK rO rD rE rL rF rR hk hm hnD hnE hnL htE htL hnF hnR h0
  | true =>
    obtain ⟨⟨d0, d1⟩, ⟨e0, e1⟩, k16⟩ := wo_bounds h0
    obtain ⟨rfl, rfl, k0, hO⟩ := wo_more h0
    rw [fr_ow]
    cases h1 : R1 d m ds with
    | false =>
      have key := ti1 l d r p s t m cK cO _ aO aD aE aL aF aR nD nF cD nE cE nL cL cF nR cR ks os ds es ls fs rs w rK rO rD rE rL rF rR hk hm hnD hnE hnL htE htL hnF hnR d0 d1 e0 e1 h0 h1
      simpa using key
    | true =>
    cases h2 : RS r m es with
    | false =>
      have key := ti2 l d r p s t m cK cO _ aO aD aE aL aF aR nD nF cD nE cE nL cL cF nR cR ks os ds es ls fs rs w rK rO rD rE rL rF rR hk hm hnD hnE hnL htE htL hnF hnR d0 d1 e0 e1 h0 h1 h2
      simpa using key
    | true =>
    cases h3 : RS 1000000000000000 m ls with
    | false =>
      have key := ti3 l d r p s t m cK cO _ aO aD aE aL aF aR nD nF cD nE cE nL cL cF nR cR ks os ds es ls fs rs w rK rO rD rE rL rF rR hk hm hnD hnE hnL htE htL hnF hnR d0 d1 e0 e1 h0 h1 h2 h3
      simpa using key
    | true =>
    cases h4 : ((nF == m) && OW 0 ks fs m) with
    | false =>
      have key := ti4 l d r p s t m cK cO _ aO aD aE aL aF aR nD nF cD nE cE nL cL cF nR cR ks os ds es ls fs rs w rK rO rD rE rL rF rR hk hm hnD hnE hnL htE htL hnF hnR d0 d1 e0 e1 h0 h1 h2 h3 h4
      have e : (true && ((nF == m) && ((nR == m) && (true && (true && (true && ((OW 0 ks fs m && OW 1 ks rs m) && decide ((bad (FK ks fs) m : Int) ≤ l)))))))) = false := by
        revert h4; cases (nF == m) <;> cases OW 0 ks fs m <;> simp
      rw [e]; exact key
    | true =>
    cases h5 : ((nR == m) && OW 1 ks rs m) with
    | false =>
      have key := ti5 l d r p s t m cK cO _ aO aD aE aL aF aR nD nF cD nE cE nL cL cF nR cR ks os ds es ls fs rs w rK rO rD rE rL rF rR hk hm hnD hnE hnL htE htL hnF hnR d0 d1 e0 e1 h0 h1 h2 h3 h4 h5
      have e : (true && ((nF == m) && ((nR == m) && (true && (true && (true && ((OW 0 ks fs m && OW 1 ks rs m) && decide ((bad (FK ks fs) m : Int) ≤ l)))))))) = false := by
        revert h5; cases (nR == m) <;> cases OW 1 ks rs m <;> simp
      rw [e]; exact key
    | true =>
      have e : (true && ((nF == m) && ((nR == m) && (true && (true && (true && ((OW 0 ks fs m && OW 1 ks rs m) && decide ((bad (FK ks fs) m : Int) ≤ l)))))))) = decide ((bad (FK ks fs) m : Int) ≤ l) := by
        revert h4 h5; cases (nF == m) <;> cases OW 0 ks fs m <;> cases (nR == m) <;> cases OW 1 ks rs m <;> simp
      rw [e]
      have eF : nF = m := by
        have := h4; simp only [Bool.and_eq_true, beq_iff_eq] at this; exact this.1
      have h1' := h1
      unfold R1 at h1'
      simp only [Bool.and_eq_true, beq_iff_eq] at h1'
      have eD : nD = m := by rw [← rD.1]; exact h1'.1
      have hD := all_at h1'.2
      subst eF; subst eD
      obtain ⟨zO, rO2⟩ := rO
      rcases rO2 with rO2 | ⟨bo, oo, rfl, hBo, hco⟩
      · omega
      exact ti6 l d r p s t nD cK cO b off bo oo aD aE aL aF aR cD nE cE nL cL cF nR cR ks os ds es ls fs rs w rK ⟨zO, .inr ⟨bo, oo, rfl, hBo, hco⟩⟩ rD rE rL rF rR hk hm hnD hnE hnL htE htL hnF hnR d0 d1 e0 e1 h0 h1 h2 h3 h4 h5 hO (fun j hj => by have := hD j hj; omega) ⟨hb, hc⟩ ⟨hBo, hco⟩

end Go.Proofs.YtcgcmceobmpdiaaGreat.Tu
