/-
  spec.TurnOk by its answer; it writes nothing that was there ahead of it.
-/
import Derived.Test.YtcgcmceobmpdiaaGreatSp6b
import Derived.Deep.RegionHeld3
import Derived.Test.YtcgcmceobmpdiaaGreatTk
namespace Go.Proofs.YtcgcmceobmpdiaaGreat.Tu
open Go.ChangeShapes Go.WideShapes Go.ChangeAt Go.RowKit
open Ls (el Row)
open Ow (Has Own ints)
open Rd (Flags)
open Bo (eb HasB)
open Rm (Room)
open Wl (wld c9 WO bad)
open Ss (RowsAt ln rw_ tot)
open Cf (CP)
set_option linter.unusedVariables false
set_option linter.unusedSimpArgs false

/-- Of the first j, only those that are up fall, only those that are down rise. -/
def FR (ks : List Int) (fs rs : List Bool) : Nat → Bool
  | 0 => true
  | j + 1 => FR ks fs rs j && (!(eb fs j && (el ks j != 0)) && !(eb rs j && (el ks j != 1)))
theorem fr_no {ks : List Int} {fs rs : List Bool} {k : Nat} (h : FR ks fs rs (k + 1) = false) : ∀ m, k < m → FR ks fs rs m = false := by
  intro m hm
  obtain ⟨d, rfl⟩ : ∃ d, m = k + 1 + d := ⟨m - (k + 1), by omega⟩
  clear hm
  induction d with
  | zero => exact h
  | succ d ih => show (FR ks fs rs (k + 1 + d) && _) = false; rw [ih]; rfl
/-- A right turn. -/
def TO (n l d r p s : Int) (ks : List Int) (k : Nat) (os : List Int) (m : Nat) (t : Int) (ds : List Int) (es ls : List (List Int)) (fs rs : List Bool) (nF nR : Nat) : Bool :=
  WO n l d r p s ks k os m t && ((nF == k) && ((nR == k) && (R1 d k ds && (RS r k es && (RS 1000000000000000 k ls && (FR ks fs rs k && decide ((bad (FK ks fs) k : Int) ≤ l)))))))
theorem wo_bounds {n l d r p s : Int} {ks os : List Int} {k m : Nat} {t : Int} (h : WO n l d r p s ks k os m t = true) : (0 ≤ d ∧ d ≤ 1000000) ∧ (0 ≤ r ∧ r ≤ 1000000) ∧ k ≤ 16 := by
  unfold WO at h
  simp only [Bool.and_eq_true, beq_iff_eq] at h
  have h1 := Cf.cr_zero.1 (Cf.cp_zero.1 h.1).1
  have h2 := Cf.n1_iff.1 h1.1
  have h3 := Cf.r1_iff.1 h1.2.2
  have h4 := h.2.1.1
  exact ⟨h3.1, h3.2.1, by omega⟩

set_option maxHeartbeats 16000000 in
theorem s_TurnOk (n l d r p s t : Int) (b off k cK : Nat) (aO : Option Addr) (m cO : Nat) (aD aE aL aF aR : Option Addr) (nD cD nE cE nL cL nF cF nR cR : Nat) (ks os ds : List Int) (es ls : List (List Int)) (fs rs : List Bool) (w : World) (hz : ks.length = k) (hc : ∀ j, j < k → w.cell? ⟨b, off + j, none⟩ = some (.int .i64 (el ks j))) (hb : b < w.heap.size) (rO : Row w w.heap.size aO m os) (rD : Row w w.heap.size aD nD ds) (rE : RowsAt w w.heap.size aE nE es) (rL : RowsAt w w.heap.size aL nL ls) (rF : Flags w w.heap.size aF nF fs) (rR : Flags w w.heap.size aR nR rs) (hk : k ≤ 1048576) (hm : m ≤ 1048576) (hnF : nF ≤ 1048576) (hnR : nR ≤ 1048576) :
    Calls Tryz.prog 40 #[wld n l d r p s (.slice (some ⟨b, off, none⟩) k cK) (.slice aO m cO) t, trn (.slice aD nD cD) (.slice aE nE cE) (.slice aL nL cL) (.slice aF nF cF) (.slice aR nR cR)] w fun e w' => e = .returned (.bool (TO n l d r p s ks k os m t ds es ls fs rs nF nR)) ∧ Below w.heap.size w w' := by
  have rK : Hid (Row w w.heap.size (some ⟨b, off, none⟩) k ks) := ⟨hz, .inr ⟨b, off, rfl, hb, hc⟩⟩
  have R0 := (Room.new w (c9 n l d r p s (.slice (some ⟨b, off, none⟩) k cK) (.slice aO m cO) t) 32).alloc (.cells #[.slice aD nD cD, .slice aE nE cE, .slice aL nL cL, .slice aF nF cF, .slice aR nR cR] 53)
  have RT : Room ((w.alloc (.cells (c9 n l d r p s (.slice (some ⟨b, off, none⟩) k cK) (.slice aO m cO) t).toArray 32)).alloc (.cells #[.slice aD nD cD, .slice aE nE cE, .slice aL nL cL, .slice aF nF cF, .slice aR nR cR] 53)) (w.heap.size + 1) [.slice aD nD cD, .slice aE nE cE, .slice aL nL cL, .slice aF nF cF, .slice aR nR cR] := Room.at _ [.slice aD nD cD, .slice aE nE cE, .slice aL nL cL, .slice aF nF cF, .slice aR nR cR] 53 _ (by simp)
  have BB := ((Below.refl w.heap.size w).alloc (Nat.le_refl _) (.cells (c9 n l d r p s (.slice (some ⟨b, off, none⟩) k cK) (.slice aO m cO) t).toArray 32)).alloc (by simp) (.cells #[.slice aD nD cD, .slice aE nE cE, .slice aL nL cL, .slice aF nF cF, .slice aR nR cR] 53)
  cases h0 : WO n l d r p s ks k os m t with
  | false =>
    have E : Hid (false = TO n l d r p s ks k os m t ds es ls fs rs nF nR) := by
      unfold Hid TO
      rw [h0]; rfl
    go_enter Tryz.func40, Tryz.ntmps40
    go_wp2_with fail
    refine (Wl.s_WorldOk n l d r p s t _ _ k cK m cO ks os _ ((rK.out.later BB (Nat.le_refl _)).more BB.size) ((rO.later BB (Nat.le_refl _)).more BB.size) hk hm).mono ?_
    rintro e w2 ⟨rfl, b2⟩
    rw [h0]
    replace R0 := R0.below b2
    replace RT := RT.below b2
    replace BB := BB.trans (b2.mono BB.size)
    clear b2
    have x1 := R0.cell 1 rfl
    have x2 := R0.cell 2 rfl
    have x3 := R0.cell 3 rfl
    have x6 := R0.cell 6 rfl
    have y0 := RT.cell 0 rfl
    have y1 := RT.cell 1 rfl
    have y2 := RT.cell 2 rfl
    have y3 := RT.cell 3 rfl
    have y4 := RT.cell 4 rfl
    go_wp2
    go_ret
    exact ⟨Sp.retb E.out, BB⟩
  | true =>
    have ⟨⟨d0, d1⟩, ⟨e0, e1⟩, k16⟩ := wo_bounds h0
    by_cases hF : nF = k
    case neg =>
      have hF2 : ((nF : Int) != (k : Int)) = true := by simp; omega
      have hF3 : (nF == k) = false := by rw [beq_eq_false_iff_ne]; exact hF
      have E : Hid (false = TO n l d r p s ks k os m t ds es ls fs rs nF nR) := by
        unfold Hid TO
        rw [h0, hF3]; rfl
      go_enter Tryz.func40, Tryz.ntmps40
      go_wp2_with fail
      refine (Wl.s_WorldOk n l d r p s t _ _ k cK m cO ks os _ ((rK.out.later BB (Nat.le_refl _)).more BB.size) ((rO.later BB (Nat.le_refl _)).more BB.size) hk hm).mono ?_
      rintro e w2 ⟨rfl, b2⟩
      rw [h0]
      replace R0 := R0.below b2
      replace RT := RT.below b2
      replace BB := BB.trans (b2.mono BB.size)
      clear b2
      have x1 := R0.cell 1 rfl
      have x2 := R0.cell 2 rfl
      have x3 := R0.cell 3 rfl
      have x6 := R0.cell 6 rfl
      have y0 := RT.cell 0 rfl
      have y1 := RT.cell 1 rfl
      have y2 := RT.cell 2 rfl
      have y3 := RT.cell 3 rfl
      have y4 := RT.cell 4 rfl
      go_wp2
      go_ret
      exact ⟨Sp.retb E.out, BB⟩
    case pos =>
      have hF3 : (nF == k) = true := by rw [beq_iff_eq]; exact hF
      have hF2 : ((nF : Int) != (k : Int)) = false := by simp; omega
      have HFk : Hid (nF = k) := hF
      clear hF
      by_cases hR : nR = k
      case neg =>
        have hR2 : ((nR : Int) != (k : Int)) = true := by simp; omega
        have hR3 : (nR == k) = false := by rw [beq_eq_false_iff_ne]; exact hR
        have E : Hid (false = TO n l d r p s ks k os m t ds es ls fs rs nF nR) := by
          unfold Hid TO
          rw [h0, hF3, hR3]; rfl
        go_enter Tryz.func40, Tryz.ntmps40
        go_wp2_with fail
        refine (Wl.s_WorldOk n l d r p s t _ _ k cK m cO ks os _ ((rK.out.later BB (Nat.le_refl _)).more BB.size) ((rO.later BB (Nat.le_refl _)).more BB.size) hk hm).mono ?_
        rintro e w2 ⟨rfl, b2⟩
        rw [h0]
        replace R0 := R0.below b2
        replace RT := RT.below b2
        replace BB := BB.trans (b2.mono BB.size)
        clear b2
        have x1 := R0.cell 1 rfl
        have x2 := R0.cell 2 rfl
        have x3 := R0.cell 3 rfl
        have x6 := R0.cell 6 rfl
        have y0 := RT.cell 0 rfl
        have y1 := RT.cell 1 rfl
        have y2 := RT.cell 2 rfl
        have y3 := RT.cell 3 rfl
        have y4 := RT.cell 4 rfl
        go_wp2
        go_ret
        exact ⟨Sp.retb E.out, BB⟩
      case pos =>
        have hR3 : (nR == k) = true := by rw [beq_iff_eq]; exact hR
        have hR2 : ((nR : Int) != (k : Int)) = false := by simp; omega
        have HRk : Hid (nR = k) := hR
        clear hR
        cases h3 : R1 d k ds with
        | false =>
          have E : Hid (false = TO n l d r p s ks k os m t ds es ls fs rs nF nR) := by
            unfold Hid TO
            rw [h0, hF3, hR3, h3]; rfl
          go_enter Tryz.func40, Tryz.ntmps40
          go_wp2_with fail
          refine (Wl.s_WorldOk n l d r p s t _ _ k cK m cO ks os _ ((rK.out.later BB (Nat.le_refl _)).more BB.size) ((rO.later BB (Nat.le_refl _)).more BB.size) hk hm).mono ?_
          rintro e w2 ⟨rfl, b2⟩
          rw [h0]
          replace R0 := R0.below b2
          replace RT := RT.below b2
          replace BB := BB.trans (b2.mono BB.size)
          clear b2
          have x1 := R0.cell 1 rfl
          have x2 := R0.cell 2 rfl
          have x3 := R0.cell 3 rfl
          have x6 := R0.cell 6 rfl
          have y0 := RT.cell 0 rfl
          have y1 := RT.cell 1 rfl
          have y2 := RT.cell 2 rfl
          have y3 := RT.cell 3 rfl
          have y4 := RT.cell 4 rfl
          go_wp2_with fail
          refine (l6Row aD nD cD k ds d _ ((rD.later BB (Nat.le_refl _)).more BB.size) hk (by omega) (by omega)).mono ?_
          rintro e w2 ⟨rfl, rfl⟩
          rw [h3]
          go_wp2
          go_ret
          exact ⟨Sp.retb E.out, BB⟩
        | true =>
          cases h4 : RS r k es with
          | false =>
            have E : Hid (false = TO n l d r p s ks k os m t ds es ls fs rs nF nR) := by
              unfold Hid TO
              rw [h0, hF3, hR3, h3, h4]; rfl
            go_enter Tryz.func40, Tryz.ntmps40
            go_wp2_with fail
            refine (Wl.s_WorldOk n l d r p s t _ _ k cK m cO ks os _ ((rK.out.later BB (Nat.le_refl _)).more BB.size) ((rO.later BB (Nat.le_refl _)).more BB.size) hk hm).mono ?_
            rintro e w2 ⟨rfl, b2⟩
            rw [h0]
            replace R0 := R0.below b2
            replace RT := RT.below b2
            replace BB := BB.trans (b2.mono BB.size)
            clear b2
            have x1 := R0.cell 1 rfl
            have x2 := R0.cell 2 rfl
            have x3 := R0.cell 3 rfl
            have x6 := R0.cell 6 rfl
            have y0 := RT.cell 0 rfl
            have y1 := RT.cell 1 rfl
            have y2 := RT.cell 2 rfl
            have y3 := RT.cell 3 rfl
            have y4 := RT.cell 4 rfl
            go_wp2_with fail
            refine (l6Row aD nD cD k ds d _ ((rD.later BB (Nat.le_refl _)).more BB.size) hk (by omega) (by omega)).mono ?_
            rintro e w2 ⟨rfl, rfl⟩
            rw [h3]
            go_wp2_with fail
            refine (l6Rows aE nE cE k es r _ ((rE.later BB (Nat.le_refl _)).more BB.size) hk (by omega) (by omega)).mono ?_
            rintro e w2 ⟨rfl, rfl⟩
            rw [h4]
            go_wp2
            go_ret
            exact ⟨Sp.retb E.out, BB⟩
          | true =>
            cases h5 : RS 1000000000000000 k ls with
            | false =>
              have E : Hid (false = TO n l d r p s ks k os m t ds es ls fs rs nF nR) := by
                unfold Hid TO
                rw [h0, hF3, hR3, h3, h4, h5]; rfl
              go_enter Tryz.func40, Tryz.ntmps40
              go_wp2_with fail
              refine (Wl.s_WorldOk n l d r p s t _ _ k cK m cO ks os _ ((rK.out.later BB (Nat.le_refl _)).more BB.size) ((rO.later BB (Nat.le_refl _)).more BB.size) hk hm).mono ?_
              rintro e w2 ⟨rfl, b2⟩
              rw [h0]
              replace R0 := R0.below b2
              replace RT := RT.below b2
              replace BB := BB.trans (b2.mono BB.size)
              clear b2
              have x1 := R0.cell 1 rfl
              have x2 := R0.cell 2 rfl
              have x3 := R0.cell 3 rfl
              have x6 := R0.cell 6 rfl
              have y0 := RT.cell 0 rfl
              have y1 := RT.cell 1 rfl
              have y2 := RT.cell 2 rfl
              have y3 := RT.cell 3 rfl
              have y4 := RT.cell 4 rfl
              go_wp2_with fail
              refine (l6Row aD nD cD k ds d _ ((rD.later BB (Nat.le_refl _)).more BB.size) hk (by omega) (by omega)).mono ?_
              rintro e w2 ⟨rfl, rfl⟩
              rw [h3]
              go_wp2_with fail
              refine (l6Rows aE nE cE k es r _ ((rE.later BB (Nat.le_refl _)).more BB.size) hk (by omega) (by omega)).mono ?_
              rintro e w2 ⟨rfl, rfl⟩
              rw [h4]
              go_wp2_with fail
              refine (l6Rows aL nL cL k ls 1000000000000000 _ ((rL.later BB (Nat.le_refl _)).more BB.size) hk (by omega) (by omega)).mono ?_
              rintro e w2 ⟨rfl, rfl⟩
              rw [h5]
              go_wp2
              go_ret
              exact ⟨Sp.retb E.out, BB⟩
            | true =>
              go_enter Tryz.func40, Tryz.ntmps40
              go_wp2_with fail
              refine (Wl.s_WorldOk n l d r p s t _ _ k cK m cO ks os _ ((rK.out.later BB (Nat.le_refl _)).more BB.size) ((rO.later BB (Nat.le_refl _)).more BB.size) hk hm).mono ?_
              rintro e w2 ⟨rfl, b2⟩
              rw [h0]
              replace R0 := R0.below b2
              replace RT := RT.below b2
              replace BB := BB.trans (b2.mono BB.size)
              clear b2
              have x1 := R0.cell 1 rfl
              have x2 := R0.cell 2 rfl
              have x3 := R0.cell 3 rfl
              have x6 := R0.cell 6 rfl
              have y0 := RT.cell 0 rfl
              have y1 := RT.cell 1 rfl
              have y2 := RT.cell 2 rfl
              have y3 := RT.cell 3 rfl
              have y4 := RT.cell 4 rfl
              go_wp2_with fail
              refine (l6Row aD nD cD k ds d _ ((rD.later BB (Nat.le_refl _)).more BB.size) hk (by omega) (by omega)).mono ?_
              rintro e w2 ⟨rfl, rfl⟩
              rw [h3]
              go_wp2_with fail
              refine (l6Rows aE nE cE k es r _ ((rE.later BB (Nat.le_refl _)).more BB.size) hk (by omega) (by omega)).mono ?_
              rintro e w2 ⟨rfl, rfl⟩
              rw [h4]
              go_wp2_with fail
              refine (l6Rows aL nL cL k ls 1000000000000000 _ ((rL.later BB (Nat.le_refl _)).more BB.size) hk (by omega) (by omega)).mono ?_
              rintro e w2 ⟨rfl, rfl⟩
              rw [h5]
              go_wp2_with fail
              obtain ⟨rFl, hrF⟩ := rF
              obtain ⟨-, hrR⟩ := rR
              clear x1 x2 x3
              go_loop [6] (fun i => ∃ j : Nat, j ≤ k ∧ i = .int .i64 (j : Int) ∧ Hid (FR ks fs rs j = true)) (fun i => k - (intOf i).toNat)
              case atStart => exact ⟨0, Nat.zero_le _, rfl, rfl⟩
              case round =>
                obtain ⟨j, hj, rfl, HT⟩ := hrel
                by_cases hlt : j < k
                · have hi : (j : Int) < k := by omega
                  have hiF : (j : Int) < nF := by have := HFk.out; omega
                  have hiR : (j : Int) < nR := by have := HRk.out; omega
                  rcases hrF with hrF | ⟨bf, of, rfl, hBf, hcf⟩
                  · have := HFk.out; omega
                  rcases hrR with hrR | ⟨br, or, rfl, hBr, hcr⟩
                  · have := HRk.out; omega
                  have hcF : w.cell? ⟨bf, of + j, none⟩ = some (.bool (eb fs j)) := hcf j (by have := HFk.out; omega)
                  rw [← BB.cell (p := ⟨bf, of + j, none⟩) hBf] at hcF
                  have hcR : w.cell? ⟨br, or + j, none⟩ = some (.bool (eb rs j)) := hcr j (by have := HRk.out; omega)
                  rw [← BB.cell (p := ⟨br, or + j, none⟩) hBr] at hcR
                  have hcK := hc j hlt
                  rw [← BB.cell (p := ⟨b, off + j, none⟩) hb] at hcK
                  have HS : Hid (FR ks fs rs (j + 1) = (FR ks fs rs j && (!(eb fs j && (el ks j != 0)) && !(eb rs j && (el ks j != 1))))) := rfl
                  cases ef : eb fs j <;> cases er : eb rs j <;> cases e0 : (el ks j != 0) <;> cases e1 : (el ks j != 1)
                  all_goals
                    rw [ef] at hcF
                    rw [er] at hcR
                    have HS2 := HS.out
                    rw [ef, er, e0, e1, HT.out] at HS2
                    have HS3 : Hid (FR ks fs rs (j + 1) = _) := HS2
                    clear HS2 HS ef er
                    first
                      | (have E : Hid (false = TO n l d r p s ks k os m t ds es ls fs rs nF nR) := (by unfold Hid TO; rw [fr_no HS3.out k hlt]; simp); go_wp2; go_ret; exact ⟨Sp.retb E.out, BB⟩)
                      | (go_wp2; go_round; (case rel => exact ⟨j + 1, by omega, by go_num, HS3⟩); (case measure => simp [intOf]; omega))
                · have hi : ¬ (j : Int) < k := by omega
                  have e : k = j := by omega
                  subst e
                  have E : Hid (decide ((bad (FK ks fs) k : Int) ≤ l) = TO n l d r p s ks k os m t ds es ls fs rs nF nR) := by
                    unfold Hid TO
                    rw [h0, hF3, hR3, h3, h4, h5, HT.out]
                    rfl
                  have hF := HFk.out.symm
                  subst hF
                  have rFk : Hid (Flags w w.heap.size aF k fs) := ⟨rFl, hrF⟩
                  go_wp2_with fail
                  refine wp_region_noPanic ?_
                  refine wp_region_held_drew (S := (fun w' => w'.cell? ⟨w.heap.size, 0, none⟩ = some (.int .i64 n) ∧ w'.cell? ⟨w.heap.size, 1, none⟩ = some (.int .i64 l) ∧ w'.cell? ⟨w.heap.size, 2, none⟩ = some (.int .i64 d) ∧ w'.cell? ⟨w.heap.size, 3, none⟩ = some (.int .i64 r) ∧ w'.cell? ⟨w.heap.size, 4, none⟩ = some (.int .i64 p) ∧ w'.cell? ⟨w.heap.size, 5, none⟩ = some (.int .i64 s) ∧ w'.cell? ⟨w.heap.size, 6, none⟩ = some (.slice (some ⟨b, off, none⟩) k cK) ∧ w'.cell? ⟨w.heap.size, 7, none⟩ = some (.slice aO m cO) ∧ w'.cell? ⟨w.heap.size, 8, none⟩ = some (.int .i64 t) ∧ w'.cell? ⟨w.heap.size + 1, 0, none⟩ = some (.slice aD nD cD) ∧ w'.cell? ⟨w.heap.size + 1, 1, none⟩ = some (.slice aE nE cE) ∧ w'.cell? ⟨w.heap.size + 1, 2, none⟩ = some (.slice aL nL cL) ∧ w'.cell? ⟨w.heap.size + 1, 3, none⟩ = some (.slice aF k cF) ∧ w'.cell? ⟨w.heap.size + 1, 4, none⟩ = some (.slice aR nR cR) ∧ Hid (Below w.heap.size w w' ∧ Room w' w.heap.size (c9 n l d r p s (.slice (some ⟨b, off, none⟩) k cK) (.slice aO m cO) t) ∧ Room w' (w.heap.size + 1) [.slice aD nD cD, .slice aE nE cE, .slice aL nL cL, .slice aF k cF, .slice aR nR cR]))) (by kernel_rfl) ⟨R0.drew.cell 0 rfl, R0.drew.cell 1 rfl, R0.drew.cell 2 rfl, R0.drew.cell 3 rfl, R0.drew.cell 4 rfl, R0.drew.cell 5 rfl, R0.drew.cell 6 rfl, R0.drew.cell 7 rfl, R0.drew.cell 8 rfl, RT.drew.cell 0 rfl, RT.drew.cell 1 rfl, RT.drew.cell 2 rfl, RT.drew.cell 3 rfl, RT.drew.cell 4 rfl, ⟨BB.drew, R0.drew, RT.drew⟩⟩ (fun hHeld => ?_)
                  refine Tk.W 0 (some 87) (.load 32 (.tmp 2)) 32 none ?_
                  refine Tk.W 1 (some 88) (.load 53 (.tmp 3)) 53 none ?_
                  refine Tk.W 4 (some 91) (.fieldAddr 32 (.tmp 2) 0) 0 none ?_
                  refine Tk.W 5 (some 92) (.fieldAddr 30 (.tmp 91) 1) 0 none ?_
                  refine Tk.W 6 (some 93) (.load 2 (.tmp 92)) 2 none ?_
                  refine Tk.R 2 (some 89) (.call ⟨.value (.func 41), #[.tmp 87, .tmp 88], #[32, 53]⟩) 24 none (fun K hK => ?_)
                  go_simp
                  refine (l6Fallen n l d r p s t b off k cK _ _ _ _ _ aF cF ks fs _ hz (fun j hj => by rw [hHeld.2.2.2.2.2.2.2.2.2.2.2.2.2.2.out.1.cell (p := ⟨b, off + j, none⟩) hb]; exact hc j hj) (Nat.lt_of_lt_of_le hb hHeld.2.2.2.2.2.2.2.2.2.2.2.2.2.2.out.1.size) (((rFk.out).later hHeld.2.2.2.2.2.2.2.2.2.2.2.2.2.2.out.1 (Nat.le_refl _)).more hHeld.2.2.2.2.2.2.2.2.2.2.2.2.2.2.out.1.size) hk).mono ?_
                  rintro e wF ⟨⟨gF, gc, rfl, oF⟩, bt6⟩
                  have q1t6 := hHeld.2.2.2.2.2.2.2.2.2.2.2.2.2.2.out.1.trans (bt6.mono hHeld.2.2.2.2.2.2.2.2.2.2.2.2.2.2.out.1.size)
                  have q2t6 := hHeld.2.2.2.2.2.2.2.2.2.2.2.2.2.2.out.2.1.below bt6
                  have q3t6 := hHeld.2.2.2.2.2.2.2.2.2.2.2.2.2.2.out.2.2.below bt6
                  have kvt6 := Tk.kv hK (w := wF) ⟨q2t6.cell 0 rfl, q2t6.cell 1 rfl, q2t6.cell 2 rfl, q2t6.cell 3 rfl, q2t6.cell 4 rfl, q2t6.cell 5 rfl, q2t6.cell 6 rfl, q2t6.cell 7 rfl, q2t6.cell 8 rfl, q3t6.cell 0 rfl, q3t6.cell 1 rfl, q3t6.cell 2 rfl, q3t6.cell 3 rfl, q3t6.cell 4 rfl, ⟨q1t6, q2t6, q3t6⟩⟩
                  clear bt6 q1t6 q2t6 q3t6
                  try dsimp only
                  refine hK.out _ _ kvt6 ?_; clear hK K hHeld; intro hHeld; try simp only [Act.put, List.setIfInBounds_toArray, List.set_cons_zero, List.set_cons_succ]
                  refine Tk.R 3 (some 90) (.call ⟨.value (.func 38), #[.tmp 89], #[24]⟩) 2 none (fun K hK => ?_)
                  go_simp
                  refine (Wl.l5Bad _ k _ (FK ks fs) _ oF.row hk).mono ?_
                  rintro e wF ⟨rfl, rfl⟩
                  have kvt7 := hHeld
                  try dsimp only
                  refine hK.out _ _ kvt7 ?_; clear hK K hHeld; intro hHeld; try simp only [Act.put, List.setIfInBounds_toArray, List.set_cons_zero, List.set_cons_succ]
                  refine Tk.W 7 (some 94) (.binOp .leq 2 (.tmp 90) (.tmp 93) 2) 4 none ?_
                  refine Tk.W 8 (some 4) (.assign (.tmp 94)) 4 none ?_
                  refine wpAnyH_done (by kernel_rfl) ?_ _
                  refine NoPanic.normal ?_
                  have hBB := hHeld.2.2.2.2.2.2.2.2.2.2.2.2.2.2.out.1
                  clear hHeld
                  go_wp2_with fail
                  go_ret
                  exact ⟨Sp.retb E.out, hBB⟩

end Go.Proofs.YtcgcmceobmpdiaaGreat.Tu
