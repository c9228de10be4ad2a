/-
  spec.GuessesOf by its answer.
-/
import Derived.Test.YtcgcmceobmpdiaaGreatG2a
import Derived.Test.YtcgcmceobmpdiaaGreatG2b
import Derived.Test.YtcgcmceobmpdiaaGreatG2c
import Derived.Maps.AppendAt
import Derived.Deep.RegionLaw
namespace Go.Proofs.YtcgcmceobmpdiaaGreat.Tu
open Go.ChangeShapes Go.WideShapes Go.ChangeAt Go.RowKit
open Ls (el Row)
open Ow (Has Own ints)
open Rd (Flags)
open Bo (eb HasB)
open Rm (Room)
open Sp (span LK)
open Wl (wld c9 WO bad allIn)
open Ss (RowsAt ln rw_ tot)
set_option linter.unusedVariables false
set_option linter.unusedSimpArgs false

set_option maxHeartbeats 8000000 in
set_option maxRecDepth 100000 in
theorem sg_bad (n l d r p s t : Int) (b off k cK : Nat) (aO : Option Addr) (m cO : Nat) (aD aE aL aF aR : Option Addr) (nD cD nE cE nL cL nF cF nR cR : Nat) (ks os ds : List Int) (es ls : List (List Int)) (fs rs : List Bool) (w : World) (hz : ks.length = k) (hc : ∀ j, j < k → w.cell? ⟨b, off + j, none⟩ = some (.int .i64 (el ks j))) (hb : b < w.heap.size) (rO : Row w w.heap.size aO m os) (rD : Row w w.heap.size aD nD ds) (rE : RowsAt w w.heap.size aE nE es) (rL : RowsAt w w.heap.size aL nL ls) (rF : Flags w w.heap.size aF nF fs) (rR : Flags w w.heap.size aR nR rs) (hk : k ≤ 1048576) (hm : m ≤ 1048576) (hnF : nF ≤ 1048576) (hnR : nR ≤ 1048576) (i : Int) (h0 : Hid (TO n l d r p s ks k os m t ds es ls fs rs nF nR = false)) :
    Calls Tryz.prog 59 #[wld n l d r p s (.slice (some ⟨b, off, none⟩) k cK) (.slice aO m cO) t, trn (.slice aD nD cD) (.slice aE nE cE) (.slice aL nL cL) (.slice aF nF cF) (.slice aR nR cR), .int .i64 i] w fun e w' => (∃ g c, e = .returned (.slice (some ⟨g, 0, none⟩) 0 c) ∧ Own w' w.heap.size g 0 c []) ∧ Below w.heap.size w w' := by
  have rK : Hid (Row w w.heap.size (some ⟨b, off, none⟩) k ks) := ⟨hz, .inr ⟨b, off, rfl, hb, hc⟩⟩
  have R0 := ((Room.new w (c9 n l d r p s (.slice (some ⟨b, off, none⟩) k cK) (.slice aO m cO) t) 32).alloc (.cells #[.slice aD nD cD, .slice aE nE cE, .slice aL nL cL, .slice aF nF cF, .slice aR nR cR] 53)).alloc (.cells #[] 2)
  have BB := (((Below.refl w.heap.size w).alloc (Nat.le_refl _) (.cells (c9 n l d r p s (.slice (some ⟨b, off, none⟩) k cK) (.slice aO m cO) t).toArray 32)).alloc (by simp) (.cells #[.slice aD nD cD, .slice aE nE cE, .slice aL nL cL, .slice aF nF cF, .slice aR nR cR] 53)).alloc (by simp; omega) (.cells #[] 2)
  have O1 : Hid (Own (((w.alloc (.cells (c9 n l d r p s (.slice (some ⟨b, off, none⟩) k cK) (.slice aO m cO) t).toArray 32)).alloc (.cells #[.slice aD nD cD, .slice aE nE cE, .slice aL nL cL, .slice aF nF cF, .slice aR nR cR] 53)).alloc (.cells #[] 2)) (w.heap.size + 2) (w.heap.size + 2) 0 0 []) := Ow.own_made _ _ _ (by simp) (by simp)
  go_enter Tryz.func59, Tryz.ntmps59
  go_wp2_with fail
  refine (s_TurnOk n l d r p s t b off k cK _ m cO _ _ _ _ _ nD cD nE cE nL cL nF cF nR cR ks os ds es ls fs rs _ hz (fun j hj => by rw [BB.cell (p := ⟨b, off + j, none⟩) hb]; exact hc j hj) (Nat.lt_of_lt_of_le hb BB.size) ((rO.later BB (Nat.le_refl _)).more BB.size) ((rD.later BB (Nat.le_refl _)).more BB.size) ((rE.later BB (Nat.le_refl _)).more BB.size) ((rL.later BB (Nat.le_refl _)).more BB.size) ((rF.later BB (Nat.le_refl _)).more BB.size) ((rR.later BB (Nat.le_refl _)).more BB.size) hk hm hnF hnR).mono ?_
  rintro e w2 ⟨rfl, b2⟩
  rw [h0.out]
  go_wp2
  go_ret
  exact ⟨⟨_, _, rfl, (O1.out.later b2 (by simp)).mono (by omega)⟩, BB.trans (b2.mono BB.size)⟩

set_option maxHeartbeats 8000000 in
set_option maxRecDepth 100000 in
theorem sg_out (n l d r p s t : Int) (b off k cK : Nat) (aO : Option Addr) (m cO : Nat) (aD aE aL aF aR : Option Addr) (nD cD nE cE nL cL nF cF nR cR : Nat) (ks os ds : List Int) (es ls : List (List Int)) (fs rs : List Bool) (w : World) (hz : ks.length = k) (hc : ∀ j, j < k → w.cell? ⟨b, off + j, none⟩ = some (.int .i64 (el ks j))) (hb : b < w.heap.size) (rO : Row w w.heap.size aO m os) (rD : Row w w.heap.size aD nD ds) (rE : RowsAt w w.heap.size aE nE es) (rL : RowsAt w w.heap.size aL nL ls) (rF : Flags w w.heap.size aF nF fs) (rR : Flags w w.heap.size aR nR rs) (hk : k ≤ 1048576) (hm : m ≤ 1048576) (hnF : nF ≤ 1048576) (hnR : nR ≤ 1048576) (i : Int) (h0 : Hid (TO n l d r p s ks k os m t ds es ls fs rs nF nR = true)) (hlk : Hid (LK 0 ((k : Int) - 1) i = true)) :
    Calls Tryz.prog 59 #[wld n l d r p s (.slice (some ⟨b, off, none⟩) k cK) (.slice aO m cO) t, trn (.slice aD nD cD) (.slice aE nE cE) (.slice aL nL cL) (.slice aF nF cF) (.slice aR nR cR), .int .i64 i] w fun e w' => (∃ g c, e = .returned (.slice (some ⟨g, 0, none⟩) 0 c) ∧ Own w' w.heap.size g 0 c []) ∧ Below w.heap.size w w' := by
  have rK : Hid (Row w w.heap.size (some ⟨b, off, none⟩) k ks) := ⟨hz, .inr ⟨b, off, rfl, hb, hc⟩⟩
  have R0 := ((Room.new w (c9 n l d r p s (.slice (some ⟨b, off, none⟩) k cK) (.slice aO m cO) t) 32).alloc (.cells #[.slice aD nD cD, .slice aE nE cE, .slice aL nL cL, .slice aF nF cF, .slice aR nR cR] 53)).alloc (.cells #[] 2)
  have BB := (((Below.refl w.heap.size w).alloc (Nat.le_refl _) (.cells (c9 n l d r p s (.slice (some ⟨b, off, none⟩) k cK) (.slice aO m cO) t).toArray 32)).alloc (by simp) (.cells #[.slice aD nD cD, .slice aE nE cE, .slice aL nL cL, .slice aF nF cF, .slice aR nR cR] 53)).alloc (by simp; omega) (.cells #[] 2)
  have O1 : Hid (Own (((w.alloc (.cells (c9 n l d r p s (.slice (some ⟨b, off, none⟩) k cK) (.slice aO m cO) t).toArray 32)).alloc (.cells #[.slice aD nD cD, .slice aE nE cE, .slice aL nL cL, .slice aF nF cF, .slice aR nR cR] 53)).alloc (.cells #[] 2)) (w.heap.size + 2) (w.heap.size + 2) 0 0 []) := Ow.own_made _ _ _ (by simp) (by simp)
  have hw0 : IntKind.i64.wrap ((k : Int) - 1) = (k : Int) - 1 := by rw [IntKind.wrap_i64]; omega
  go_enter Tryz.func59, Tryz.ntmps59
  go_wp2_with fail
  refine (s_TurnOk n l d r p s t b off k cK _ m cO _ _ _ _ _ nD cD nE cE nL cL nF cF nR cR ks os ds es ls fs rs _ hz (fun j hj => by rw [BB.cell (p := ⟨b, off + j, none⟩) hb]; exact hc j hj) (Nat.lt_of_lt_of_le hb BB.size) ((rO.later BB (Nat.le_refl _)).more BB.size) ((rD.later BB (Nat.le_refl _)).more BB.size) ((rE.later BB (Nat.le_refl _)).more BB.size) ((rL.later BB (Nat.le_refl _)).more BB.size) ((rF.later BB (Nat.le_refl _)).more BB.size) ((rR.later BB (Nat.le_refl _)).more BB.size) hk hm hnF hnR).mono ?_
  rintro e w2 ⟨rfl, b2⟩
  rw [h0.out]
  have c6 := (R0.below b2).cell 6 rfl
  go_wp2_with fail
  refine (Sp.s_l1In 0 ((k : Int) - 1) i _).mono ?_
  rintro e w3 ⟨rfl, rfl⟩
  rw [hlk.out]
  go_wp2
  go_ret
  exact ⟨⟨_, _, rfl, (O1.out.later b2 (by simp)).mono (by omega)⟩, BB.trans (b2.mono BB.size)⟩

set_option maxHeartbeats 8000000 in
set_option maxRecDepth 100000 in
theorem s_GuessesOf (n l d r p s t : Int) (b off k cK : Nat) (aO : Option Addr) (m cO : Nat) (aD aE aL aF aR : Option Addr) (nD cD nE cE nL cL nF cF nR cR : Nat) (ks os ds : List Int) (es ls : List (List Int)) (fs rs : List Bool) (w : World) (hz : ks.length = k) (hc : ∀ j, j < k → w.cell? ⟨b, off + j, none⟩ = some (.int .i64 (el ks j))) (hb : b < w.heap.size) (rO : Row w w.heap.size aO m os) (rD : Row w w.heap.size aD nD ds) (rE : RowsAt w w.heap.size aE nE es) (rL : RowsAt w w.heap.size aL nL ls) (rF : Flags w w.heap.size aF nF fs) (rR : Flags w w.heap.size aR nR rs) (hk : k ≤ 1048576) (hm : m ≤ 1048576) (hnF : nF ≤ 1048576) (hnR : nR ≤ 1048576) (i : Int) :
    Calls Tryz.prog 59 #[wld n l d r p s (.slice (some ⟨b, off, none⟩) k cK) (.slice aO m cO) t, trn (.slice aD nD cD) (.slice aE nE cE) (.slice aL nL cL) (.slice aF nF cF) (.slice aR nR cR), .int .i64 i] w fun e w' => (∃ g c, e = .returned (.slice (some ⟨g, 0, none⟩) (GO n l d r p s ks k os m t ds es ls fs rs nF nR i).length c) ∧ Own w' w.heap.size g (GO n l d r p s ks k os m t ds es ls fs rs nF nR i).length c (GO n l d r p s ks k os m t ds es ls fs rs nF nR i)) ∧ Below w.heap.size w w' := by
  cases h0 : TO n l d r p s ks k os m t ds es ls fs rs nF nR with
  | false =>
    have E : GO n l d r p s ks k os m t ds es ls fs rs nF nR i = [] := by unfold GO; rw [if_neg (by rw [h0]; simp)]
    rw [E]
    exact sg_bad n l d r p s t b off k cK aO m cO aD aE aL aF aR nD cD nE cE nL cL nF cF nR cR ks os ds es ls fs rs w hz hc hb rO rD rE rL rF rR hk hm hnF hnR i h0
  | true =>
    by_cases hi : 0 ≤ i ∧ i < (k : Int)
    case neg =>
      have E : GO n l d r p s ks k os m t ds es ls fs rs nF nR i = [] := by unfold GO; rw [if_neg (fun h => hi h.2.1)]
      rw [E]
      exact sg_out n l d r p s t b off k cK aO m cO aD aE aL aF aR nD cD nE cE nL cL nF cF nR cR ks os ds es ls fs rs w hz hc hb rO rD rE rL rF rR hk hm hnF hnR i h0 (by unfold Hid LK; simp; omega)
    case pos =>
      obtain ⟨hW, eF, eR, h1, h2, h3⟩ := to_facts h0
      obtain ⟨en, em, k0, hO⟩ := wo_more hW
      obtain ⟨⟨d0, d1⟩, ⟨e0, e1⟩, k16⟩ := wo_bounds hW
      have ⟨zD, hD⟩ := r1_facts h1
      have ⟨zE, hE⟩ := rs_facts h2
      have ⟨zL, hL⟩ := rs_facts h3
      obtain rfl : k = nF := eF.symm
      obtain rfl : k = nR := eR.symm
      obtain rfl : k = m := em.symm
      obtain rfl : (k : Int) = n := en.symm
      obtain rfl : k = nD := by rw [← rD.1]; exact zD.symm
      obtain rfl : k = nE := by rw [← rE.1]; exact zE.symm
      obtain rfl : k = nL := by rw [← rL.1]; exact zL.symm
      obtain ⟨i, rfl⟩ : ∃ q : Nat, i = (q : Int) := ⟨i.toNat, by omega⟩
      have hik : i < k := by omega
      rcases id rO with ⟨zO, rO2 | ⟨bo, oo, rfl, hBo, hco⟩⟩
      · omega
      rcases id rD with ⟨zD2, rD2 | ⟨bd, od, rfl, hBd, hcd⟩⟩
      · omega
      rcases id rE with ⟨zE2, rE2 | ⟨be, oe, rfl, hBe, hce⟩⟩
      · omega
      rcases id rL with ⟨zL2, rL2 | ⟨bl, ol, rfl, hBl, hcl⟩⟩
      · omega
      rcases id rF with ⟨zF2, rF2 | ⟨bf, of, rfl, hBf, hcf⟩⟩
      · omega
      rcases id rR with ⟨zR2, rR2 | ⟨br, or, rfl, hBr, hcr⟩⟩
      · omega
      obtain ⟨ax, cx, hx0, hx1⟩ := hce i hik
      obtain ⟨az, cz, hz0, hz1⟩ := hcl i hik
      rw [(hE i hik).1] at hx0 hx1
      rw [(hL i hik).1] at hz0 hz1
      rcases id hx1 with ⟨zx, hx2 | ⟨bx, ox, rfl, hBx, hcx⟩⟩
      · omega
      rcases id hz1 with ⟨zz, hz2 | ⟨bz, oz, rfl, hBz, hcz⟩⟩
      · omega
      by_cases q0 : el (FK ks fs) i = 0
      case pos =>
        have E : GO (k : Int) l d r p s ks k os k t ds es ls fs rs k k (i : Int) = GL (FK ks fs) os ds es ls i k := by unfold GO; rw [if_pos ⟨h0, by omega, .inl (by simpa using q0)⟩]; simp
        rw [E, gl_len]
        exact sg_up l d r p s t b off k cK bo oo cO bd od cD be oe cE bl ol cL bf of cF br or cR bx ox cx bz oz cz i ks os ds es ls fs rs w ⟨hz, .inr ⟨b, off, rfl, hb, hc⟩⟩ rO rD rE rL rF rR ⟨hb, hc⟩ ⟨hBo, hco⟩ ⟨hBd, hcd⟩ ⟨hBr, hcr i hik⟩ ⟨hBe, hx0⟩ ⟨hBx, hcx⟩ ⟨hBl, hz0⟩ ⟨hBz, hcz⟩ hk hik h0 hO (fun j hj => by have := hD j hj; omega) (fun j hj => by have := (hE i hik).2 j hj; omega) q0
      case neg =>
        cases q1 : eb rs i with
        | true =>
          have E : GO (k : Int) l d r p s ks k os k t ds es ls fs rs k k (i : Int) = GL (FK ks fs) os ds es ls i k := by unfold GO; rw [if_pos ⟨h0, by omega, .inr (by simpa using q1)⟩]; simp
          rw [E, gl_len]
          exact sg_ri l d r p s t b off k cK bo oo cO bd od cD be oe cE bl ol cL bf of cF br or cR bx ox cx bz oz cz i ks os ds es ls fs rs w ⟨hz, .inr ⟨b, off, rfl, hb, hc⟩⟩ rO rD rE rL rF rR ⟨hb, hc⟩ ⟨hBo, hco⟩ ⟨hBd, hcd⟩ ⟨hBr, hcr i hik⟩ ⟨hBe, hx0⟩ ⟨hBx, hcx⟩ ⟨hBl, hz0⟩ ⟨hBz, hcz⟩ hk hik h0 hO (fun j hj => by have := hD j hj; omega) (fun j hj => by have := (hE i hik).2 j hj; omega) ⟨q0, q1⟩
        | false =>
          have E : GO (k : Int) l d r p s ks k os k t ds es ls fs rs k k (i : Int) = [] := by unfold GO; rw [if_neg (fun h => by rcases h.2.2 with h | h <;> simp at h <;> simp_all)]
          rw [E]
          exact sg_no l d r p s t b off k cK bo oo cO bd od cD be oe cE bl ol cL bf of cF br or cR bx ox cx bz oz cz i ks os ds es ls fs rs w ⟨hz, .inr ⟨b, off, rfl, hb, hc⟩⟩ rO rD rE rL rF rR ⟨hb, hc⟩ ⟨hBo, hco⟩ ⟨hBd, hcd⟩ ⟨hBr, hcr i hik⟩ ⟨hBe, hx0⟩ ⟨hBx, hcx⟩ ⟨hBl, hz0⟩ ⟨hBz, hcz⟩ hk hik h0 hO (fun j hj => by have := hD j hj; omega) (fun j hj => by have := (hE i hik).2 j hj; omega) ⟨q0, q1⟩

end Go.Proofs.YtcgcmceobmpdiaaGreat.Tu
