/-
  Turns of the laws: how great one is, a copy of one, whether two are alike, one that is marked.
-/
import Derived.Test.YtcgcmceobmpdiaaGreatSps
namespace Go.Proofs.YtcgcmceobmpdiaaGreat.Tu
open Go.ChangeShapes Go.WideShapes Go.ChangeAt Go.RowKit
open Ls (el Row)
open Rm (Room)
open Ow (Has)
open Rd (Flags)
open Bo (HasB)
open Ss (RowsAt HasR Mid tot ln)
set_option linter.unusedVariables false
set_option linter.unusedSimpArgs false

abbrev trn (a b c d e : Value) : Value := .agg #[a, b, c, d, e]
abbrev z5 : List Value := [.slice none 0 0, .slice none 0 0, .slice none 0 0, .slice none 0 0, .slice none 0 0]

theorem bz_yes (a : Option Addr) (n cap : Nat) (k : Int) (w : World) (h0 : (n : Int) ≤ k) (h1 : k ≤ 1048576) :
    Calls Tryz.prog 34 #[.slice a n cap, .int .i64 k] w fun e w' => e = .returned (.int .i64 (k - n)) ∧ w' = w := by
  have h2 : decide (k - (n : Int) < 0) = false := by simp; omega
  go_enter Tryz.func34, Tryz.ntmps34
  go_wp2
  go_ret
  exact ⟨rfl, rfl⟩
theorem bz_no (a : Option Addr) (n cap : Nat) (k : Int) (w : World) (h0 : k < (n : Int)) (h1 : 0 ≤ k) (h2 : n ≤ maxLen) :
    Calls Tryz.prog 34 #[.slice a n cap, .int .i64 k] w fun e w' => e = .returned (.int .i64 (-1)) ∧ w' = w := by
  have h3 : decide (k - (n : Int) < 0) = true := by simp; omega
  unfold maxLen at h2
  go_enter Tryz.func34, Tryz.ntmps34
  go_wp2
  go_ret
  exact ⟨rfl, rfl⟩

set_option maxHeartbeats 2000000 in
theorem szTurn_yes (aD aE aL aF aR : Option Addr) (nD cD nE cE nL cL nF cF nR cR : Nat) (ds : List Int) (es ls : List (List Int)) (fs rs : List Bool) (w : World) (q : Int) (rD : Row w w.heap.size aD nD ds) (rE : RowsAt w w.heap.size aE nE es) (rL : RowsAt w w.heap.size aL nL ls) (rF : Flags w w.heap.size aF nF fs) (rR : Flags w w.heap.size aR nR rs) (hz : (((nD + (nE + tot es nE) + (nL + tot ls nL) + nF + nR : Nat)) : Int) ≤ q) (hq : q ≤ 1048576) :
    Calls Tryz.prog 16 #[trn (.slice aD nD cD) (.slice aE nE cE) (.slice aL nL cL) (.slice aF nF cF) (.slice aR nR cR), .int .i64 q] w fun e w' => (∃ x : Int, e = .returned (.int .i64 x) ∧ 0 ≤ x) ∧ Below w.heap.size w w' := by
  have B1 := (Below.refl w.heap.size w).alloc (Nat.le_refl _) (.cells #[.slice aD nD cD, .slice aE nE cE, .slice aL nL cL, .slice aF nF cF, .slice aR nR cR] 48)
  have s1 : decide ((q - (nD : Int)) < 0) = false := by simp; omega
  have s2 : decide (((q - (nD : Int)) - (nE : Int) - (tot es nE : Int)) < 0) = false := by simp; omega
  have s3 : decide ((((q - (nD : Int)) - (nE : Int) - (tot es nE : Int)) - (nL : Int) - (tot ls nL : Int)) < 0) = false := by simp; omega
  have s4 : decide (((((q - (nD : Int)) - (nE : Int) - (tot es nE : Int)) - (nL : Int) - (tot ls nL : Int)) - (nF : Int)) < 0) = false := by simp; omega
  have s5 : decide ((((((q - (nD : Int)) - (nE : Int) - (tot es nE : Int)) - (nL : Int) - (tot ls nL : Int)) - (nF : Int)) - (nR : Int)) < 0) = false := by simp; omega
  go_enter Tryz.func16, Tryz.ntmps16
  go_wp2_with fail
  refine (Wl.sz_yes aD nD cD q _ (by omega) (by omega)).mono ?_
  rintro e w ⟨rfl, rfl⟩
  go_wp2_with fail
  refine (Ss.sz_yes aE nE cE es _ _ ((rE.later B1 (Nat.le_refl _)).more B1.size) (by omega) (by omega)).mono ?_
  rintro e w ⟨rfl, rfl⟩
  go_wp2_with fail
  refine (Ss.sz_yes aL nL cL ls _ _ ((rL.later B1 (Nat.le_refl _)).more B1.size) (by omega) (by omega)).mono ?_
  rintro e w ⟨rfl, rfl⟩
  go_wp2_with fail
  refine (bz_yes aF nF cF _ _ (by omega) (by omega)).mono ?_
  rintro e w ⟨rfl, rfl⟩
  go_wp2_with fail
  refine (bz_yes aR nR cR _ _ (by omega) (by omega)).mono ?_
  rintro e w ⟨rfl, rfl⟩
  go_wp2
  go_ret
  exact ⟨⟨_, rfl, by omega⟩, B1⟩

set_option maxHeartbeats 4000000 in
theorem szTurn_no (aD aE aL aF aR : Option Addr) (nD cD nE cE nL cL nF cF nR cR : Nat) (ds : List Int) (es ls : List (List Int)) (fs rs : List Bool) (w : World) (q : Int) (rD : Row w w.heap.size aD nD ds) (rE : RowsAt w w.heap.size aE nE es) (rL : RowsAt w w.heap.size aL nL ls) (rF : Flags w w.heap.size aF nF fs) (rR : Flags w w.heap.size aR nR rs) (hz : ¬ (((nD + (nE + tot es nE) + (nL + tot ls nL) + nF + nR : Nat)) : Int) ≤ q) (hq : q ≤ 1048576) (hq0 : 0 ≤ q) (mD : nD ≤ maxLen) (mE : nE ≤ maxLen) (mL : nL ≤ maxLen) (mF : nF ≤ maxLen) (mR : nR ≤ maxLen) (mE2 : ∀ k, k < nE → ln es k ≤ maxLen) (mL2 : ∀ k, k < nL → ln ls k ≤ maxLen) :
    Calls Tryz.prog 16 #[trn (.slice aD nD cD) (.slice aE nE cE) (.slice aL nL cL) (.slice aF nF cF) (.slice aR nR cR), .int .i64 q] w fun e w' => e = .returned (.int .i64 (-1)) ∧ Below w.heap.size w w' := by
  have B1 := (Below.refl w.heap.size w).alloc (Nat.le_refl _) (.cells #[.slice aD nD cD, .slice aE nE cE, .slice aL nL cL, .slice aF nF cF, .slice aR nR cR] 48)
  by_cases h0 : (nD : Int) ≤ q
  case neg =>
    go_enter Tryz.func16, Tryz.ntmps16
    go_wp2_with fail
    refine (Wl.sz_no aD nD cD q _ (by omega) (by omega) mD).mono ?_
    rintro e w ⟨rfl, rfl⟩
    go_wp2
    go_ret
    exact ⟨rfl, B1⟩
  case pos =>
    by_cases h1 : (nE : Int) + (tot es nE : Int) ≤ (q - (nD : Int))
    case neg =>
      have s1 : decide ((q - (nD : Int)) < 0) = false := by simp; omega
      go_enter Tryz.func16, Tryz.ntmps16
      go_wp2_with fail
      refine (Wl.sz_yes aD nD cD q _ (by omega) (by omega)).mono ?_
      rintro e w ⟨rfl, rfl⟩
      go_wp2_with fail
      refine (Ss.sz_no aE nE cE es _ _ ((rE.later B1 (Nat.le_refl _)).more B1.size) (by omega) (by omega) (by omega) mE mE2).mono ?_
      rintro e w ⟨rfl, rfl⟩
      go_wp2
      go_ret
      exact ⟨rfl, B1⟩
    case pos =>
      by_cases h2 : (nL : Int) + (tot ls nL : Int) ≤ ((q - (nD : Int)) - (nE : Int) - (tot es nE : Int))
      case neg =>
        have s1 : decide ((q - (nD : Int)) < 0) = false := by simp; omega
        have s2 : decide (((q - (nD : Int)) - (nE : Int) - (tot es nE : Int)) < 0) = false := by simp; omega
        go_enter Tryz.func16, Tryz.ntmps16
        go_wp2_with fail
        refine (Wl.sz_yes aD nD cD q _ (by omega) (by omega)).mono ?_
        rintro e w ⟨rfl, rfl⟩
        go_wp2_with fail
        refine (Ss.sz_yes aE nE cE es _ _ ((rE.later B1 (Nat.le_refl _)).more B1.size) (by omega) (by omega)).mono ?_
        rintro e w ⟨rfl, rfl⟩
        go_wp2_with fail
        refine (Ss.sz_no aL nL cL ls _ _ ((rL.later B1 (Nat.le_refl _)).more B1.size) (by omega) (by omega) (by omega) mL mL2).mono ?_
        rintro e w ⟨rfl, rfl⟩
        go_wp2
        go_ret
        exact ⟨rfl, B1⟩
      case pos =>
        by_cases h3 : (nF : Int) ≤ (((q - (nD : Int)) - (nE : Int) - (tot es nE : Int)) - (nL : Int) - (tot ls nL : Int))
        case neg =>
          have s1 : decide ((q - (nD : Int)) < 0) = false := by simp; omega
          have s2 : decide (((q - (nD : Int)) - (nE : Int) - (tot es nE : Int)) < 0) = false := by simp; omega
          have s3 : decide ((((q - (nD : Int)) - (nE : Int) - (tot es nE : Int)) - (nL : Int) - (tot ls nL : Int)) < 0) = false := by simp; omega
          go_enter Tryz.func16, Tryz.ntmps16
          go_wp2_with fail
          refine (Wl.sz_yes aD nD cD q _ (by omega) (by omega)).mono ?_
          rintro e w ⟨rfl, rfl⟩
          go_wp2_with fail
          refine (Ss.sz_yes aE nE cE es _ _ ((rE.later B1 (Nat.le_refl _)).more B1.size) (by omega) (by omega)).mono ?_
          rintro e w ⟨rfl, rfl⟩
          go_wp2_with fail
          refine (Ss.sz_yes aL nL cL ls _ _ ((rL.later B1 (Nat.le_refl _)).more B1.size) (by omega) (by omega)).mono ?_
          rintro e w ⟨rfl, rfl⟩
          go_wp2_with fail
          refine (bz_no aF nF cF _ _ (by omega) (by omega) mF).mono ?_
          rintro e w ⟨rfl, rfl⟩
          go_wp2
          go_ret
          exact ⟨rfl, B1⟩
        case pos =>
          have s1 : decide ((q - (nD : Int)) < 0) = false := by simp; omega
          have s2 : decide (((q - (nD : Int)) - (nE : Int) - (tot es nE : Int)) < 0) = false := by simp; omega
          have s3 : decide ((((q - (nD : Int)) - (nE : Int) - (tot es nE : Int)) - (nL : Int) - (tot ls nL : Int)) < 0) = false := by simp; omega
          have s4 : decide (((((q - (nD : Int)) - (nE : Int) - (tot es nE : Int)) - (nL : Int) - (tot ls nL : Int)) - (nF : Int)) < 0) = false := by simp; omega
          go_enter Tryz.func16, Tryz.ntmps16
          go_wp2_with fail
          refine (Wl.sz_yes aD nD cD q _ (by omega) (by omega)).mono ?_
          rintro e w ⟨rfl, rfl⟩
          go_wp2_with fail
          refine (Ss.sz_yes aE nE cE es _ _ ((rE.later B1 (Nat.le_refl _)).more B1.size) (by omega) (by omega)).mono ?_
          rintro e w ⟨rfl, rfl⟩
          go_wp2_with fail
          refine (Ss.sz_yes aL nL cL ls _ _ ((rL.later B1 (Nat.le_refl _)).more B1.size) (by omega) (by omega)).mono ?_
          rintro e w ⟨rfl, rfl⟩
          go_wp2_with fail
          refine (bz_yes aF nF cF _ _ (by omega) (by omega)).mono ?_
          rintro e w ⟨rfl, rfl⟩
          go_wp2_with fail
          refine (bz_no aR nR cR _ _ (by omega) (by omega) mR).mono ?_
          rintro e w ⟨rfl, rfl⟩
          go_wp2
          go_ret
          exact ⟨rfl, B1⟩

/-- A turn that nothing else holds: its five slices one behind the other, from B to C. -/
def HasT (w : World) (B C g0 g1 g2 g3 g4 nD nE nL nF nR : Nat) (ds : List Int) (es ls : List (List Int)) (fs rs : List Bool) : Prop :=
  ∃ B1 B2 B3 B4, Has w B g0 0 nD ds ∧ g0 < B1 ∧ HasR w B1 B2 g1 nE es ∧ HasR w B2 B3 g2 nL ls ∧ HasB w B3 g3 0 nF fs ∧ g3 < B4 ∧ HasB w B4 g4 0 nR rs ∧ g4 < C ∧ B ≤ B1 ∧ B1 ≤ B2 ∧ B2 ≤ B3 ∧ B3 ≤ B4 ∧ B4 ≤ C ∧ C ≤ w.heap.size
theorem Mid.hasT {X Y : Nat} {w w' : World} (m : Mid X Y w w') {B C g0 g1 g2 g3 g4 nD nE nL nF nR : Nat} {ds : List Int} {es ls : List (List Int)} {fs rs : List Bool} (h : HasT w B C g0 g1 g2 g3 g4 nD nE nL nF nR ds es ls fs rs) (q : C ≤ X ∨ Y ≤ B) : HasT w' B C g0 g1 g2 g3 g4 nD nE nL nF nR ds es ls fs rs := by
  obtain ⟨B1, B2, B3, B4, h0, u0, h1, h2, h3, u3, h4, u4, b1, b2, b3, b4, b5, b6⟩ := h
  have l0 := h0.2.1
  have l3 := h3.2.1
  have l4 := h4.2.1
  exact ⟨B1, B2, B3, B4, m.has h0 (by omega), u0, m.hasR h1 (by omega), m.hasR h2 (by omega), m.hasB h3 (by omega), u3, m.hasB h4 (by omega), u4, b1, b2, b3, b4, b5, by have := m.size; omega⟩
theorem HasT.later {w w' : World} {B C g0 g1 g2 g3 g4 nD nE nL nF nR : Nat} {ds : List Int} {es ls : List (List Int)} {fs rs : List Bool} (h : HasT w B C g0 g1 g2 g3 g4 nD nE nL nF nR ds es ls fs rs) (hb : Below w.heap.size w w') : HasT w' B C g0 g1 g2 g3 g4 nD nE nL nF nR ds es ls fs rs :=
  Mid.hasT (Mid.of_below (B := C) (C := B) hb) h (.inl (Nat.le_refl _))

theorem ret5 {fn : Func} {ts : Array Value} {W : World} {R : Nat} {a0 a1 a2 a3 a4 : Option Addr} {n0 c0 n1 c1 n2 c2 n3 c3 n4 c4 : Nat} (hf : fn.results = #[.cell 2 53]) (h2 : ts[2]? = some (.pointer (some ⟨R, 0, none⟩))) (h : Room W R [.slice a0 n0 c0, .slice a1 n1 c1, .slice a2 n2 c2, .slice a3 n3 c3, .slice a4 n4 c4]) :
    (results fn ts).run Tryz.prog W = .ok (trn (.slice a0 n0 c0) (.slice a1 n1 c1) (.slice a2 n2 c2) (.slice a3 n3 c3) (.slice a4 n4 c4)) W := by
  have q0 := h.cell 0 rfl
  have q1 := h.cell 1 rfl
  have q2 := h.cell 2 rfl
  have q3 := h.cell 3 rfl
  have q4 := h.cell 4 rfl
  simp [results, hf, h2, go_sem, q0, q1, q2, q3, q4]
theorem _root_.Go.Proofs.YtcgcmceobmpdiaaGreat.Bo.HasB.setOther {w : World} {B g off n : Nat} {zs : List Bool} (h : HasB w B g off n zs) {q : Nat} (hne : q ≠ g) (i : Nat) (u : Value) : HasB (w.setCell ⟨q, i, none⟩ u) B g off n zs :=
  ⟨h.1, h.2.1, by simpa using h.2.2.1, fun k hk => by rw [World.cell?_setCell_other _ _ _ _ (by simp <;> omega)]; exact h.2.2.2.1 k hk, fun k hk => by rw [World.frozen?_setCell]; exact h.2.2.2.2 k hk⟩

set_option maxHeartbeats 8000000 in
theorem toTurn (aD aE aL aF aR : Option Addr) (nD cD nE cE nL cL nF cF nR cR : Nat) (ds : List Int) (es ls : List (List Int)) (fs rs : List Bool) (w : World) (rD : Row w w.heap.size aD nD ds) (rE : RowsAt w w.heap.size aE nE es) (rL : RowsAt w w.heap.size aL nL ls) (rF : Flags w w.heap.size aF nF fs) (rR : Flags w w.heap.size aR nR rs) (hz : nD + (nE + tot es nE) + (nL + tot ls nL) + nF + nR ≤ 1048576) :
    Calls Tryz.prog 22 #[trn (.slice aD nD cD) (.slice aE nE cE) (.slice aL nL cL) (.slice aF nF cF) (.slice aR nR cR)] w fun e w' => (∃ g0 g1 g2 g3 g4, e = .returned (trn (.slice (some ⟨g0, 0, none⟩) nD nD) (.slice (some ⟨g1, 0, none⟩) nE nE) (.slice (some ⟨g2, 0, none⟩) nL nL) (.slice (some ⟨g3, 0, none⟩) nF nF) (.slice (some ⟨g4, 0, none⟩) nR nR)) ∧ HasT w' w.heap.size w'.heap.size g0 g1 g2 g3 g4 nD nE nL nF nR ds es ls fs rs) ∧ Below w.heap.size w w' := by
  have R0 := ((Room.new w [.slice aD nD cD, .slice aE nE cE, .slice aL nL cL, .slice aF nF cF, .slice aR nR cR] 48).alloc (.cells z5.toArray 53)).alloc (.cells z5.toArray 53)
  have R1 : Room (((w.alloc (.cells #[.slice aD nD cD, .slice aE nE cE, .slice aL nL cL, .slice aF nF cF, .slice aR nR cR] 48)).alloc (.cells z5.toArray 53)).alloc (.cells z5.toArray 53)) (w.heap.size + 1) z5 := (Room.at _ z5 53 _ (by simp)).alloc _
  have R2 : Room (((w.alloc (.cells #[.slice aD nD cD, .slice aE nE cE, .slice aL nL cL, .slice aF nF cF, .slice aR nR cR] 48)).alloc (.cells z5.toArray 53)).alloc (.cells z5.toArray 53)) (w.heap.size + 1 + 1) z5 := Room.at _ z5 53 _ (by simp)
  have BB := (((Below.refl w.heap.size w).alloc (Nat.le_refl _) (.cells #[.slice aD nD cD, .slice aE nE cE, .slice aL nL cL, .slice aF nF cF, .slice aR nR cR] 48)).alloc (by simp) (.cells z5.toArray 53)).alloc (by simp <;> omega) (.cells z5.toArray 53)
  go_enter Tryz.func22, Tryz.ntmps22
  go_wp2_with fail
  refine (Ow.copied aD nD cD ds _ ((rD.later BB (Nat.le_refl _)).more BB.size) (by omega)).mono ?_
  rintro e w2 ⟨⟨g0, rfl, h0⟩, b0⟩
  have z0 := b0.size
  simp at z0
  simp only [World.size_setCell, World.size_alloc] at h0
  replace R0 := R0.below b0
  replace R1 := R1.below b0
  replace R2 := R2.below b0
  replace BB := BB.trans (b0.mono BB.size)
  have l0 := h0.2.1
  (try simp at l0)
  have u0 := h0.2.2.1
  have c1 := R0.cell 1 rfl
  have f0 := R2.froz 0 rfl
  have d0 := R2.cell 0 rfl
  go_wp2_with fail
  clear c1 f0 d0
  replace R0 := R0.setOther (q := w.heap.size + 1 + 1) (by omega) 0 (.slice (some ⟨g0, 0, none⟩) nD nD)
  replace R1 := R1.setOther (q := w.heap.size + 1 + 1) (by omega) 0 (.slice (some ⟨g0, 0, none⟩) nD nD)
  replace R2 := R2.set 0 (.slice (some ⟨g0, 0, none⟩) nD nD)
  replace BB := BB.setCell (p := ⟨w.heap.size + 1 + 1, 0, none⟩) (by simp <;> omega) (.slice (some ⟨g0, 0, none⟩) nD nD)
  replace h0 := h0.setOther (q := w.heap.size + 1 + 1) (by omega) 0 (.slice (some ⟨g0, 0, none⟩) nD nD)
  refine (Ss.copied aE nE cE es _ ((rE.later BB (Nat.le_refl _)).more BB.size) (by omega) (by omega)).mono ?_
  rintro e w3 ⟨⟨g1, rfl, h1⟩, b1⟩
  have z1 := b1.size
  simp at z1
  simp only [World.size_setCell, World.size_alloc] at h1
  replace R0 := R0.below b1
  replace R1 := R1.below b1
  replace R2 := R2.below b1
  replace BB := BB.trans (b1.mono BB.size)
  replace h0 := h0.later b1 h0.2.2.1
  have l1 := h1.2.1
  (try simp at l1)
  have u1 := h1.2.2.1
  have c2 := R0.cell 2 rfl
  have f1 := R2.froz 1 rfl
  have d1 := R2.cell 1 rfl
  go_wp2_with fail
  clear c2 f1 d1
  replace R0 := R0.setOther (q := w.heap.size + 1 + 1) (by omega) 1 (.slice (some ⟨g1, 0, none⟩) nE nE)
  replace R1 := R1.setOther (q := w.heap.size + 1 + 1) (by omega) 1 (.slice (some ⟨g1, 0, none⟩) nE nE)
  replace R2 := R2.set 1 (.slice (some ⟨g1, 0, none⟩) nE nE)
  replace BB := BB.setCell (p := ⟨w.heap.size + 1 + 1, 1, none⟩) (by simp <;> omega) (.slice (some ⟨g1, 0, none⟩) nE nE)
  replace h0 := h0.setOther (q := w.heap.size + 1 + 1) (by omega) 1 (.slice (some ⟨g1, 0, none⟩) nE nE)
  replace h1 := h1.setOther (q := w.heap.size + 1 + 1) (by omega) 1 (.slice (some ⟨g1, 0, none⟩) nE nE)
  refine (Ss.copied aL nL cL ls _ ((rL.later BB (Nat.le_refl _)).more BB.size) (by omega) (by omega)).mono ?_
  rintro e w4 ⟨⟨g2, rfl, h2⟩, b2⟩
  have z2 := b2.size
  simp at z2
  simp only [World.size_setCell, World.size_alloc] at h2
  replace R0 := R0.below b2
  replace R1 := R1.below b2
  replace R2 := R2.below b2
  replace BB := BB.trans (b2.mono BB.size)
  replace h0 := h0.later b2 h0.2.2.1
  replace h1 := h1.later b2
  have l2 := h2.2.1
  (try simp at l2)
  have u2 := h2.2.2.1
  have c3 := R0.cell 3 rfl
  have f2 := R2.froz 2 rfl
  have d2 := R2.cell 2 rfl
  go_wp2_with fail
  clear c3 f2 d2
  replace R0 := R0.setOther (q := w.heap.size + 1 + 1) (by omega) 2 (.slice (some ⟨g2, 0, none⟩) nL nL)
  replace R1 := R1.setOther (q := w.heap.size + 1 + 1) (by omega) 2 (.slice (some ⟨g2, 0, none⟩) nL nL)
  replace R2 := R2.set 2 (.slice (some ⟨g2, 0, none⟩) nL nL)
  replace BB := BB.setCell (p := ⟨w.heap.size + 1 + 1, 2, none⟩) (by simp <;> omega) (.slice (some ⟨g2, 0, none⟩) nL nL)
  replace h0 := h0.setOther (q := w.heap.size + 1 + 1) (by omega) 2 (.slice (some ⟨g2, 0, none⟩) nL nL)
  replace h1 := h1.setOther (q := w.heap.size + 1 + 1) (by omega) 2 (.slice (some ⟨g2, 0, none⟩) nL nL)
  replace h2 := h2.setOther (q := w.heap.size + 1 + 1) (by omega) 2 (.slice (some ⟨g2, 0, none⟩) nL nL)
  refine (Bo.copied aF nF cF fs _ ((rF.later BB (Nat.le_refl _)).more BB.size) (by omega)).mono ?_
  rintro e w5 ⟨⟨g3, rfl, h3⟩, b3⟩
  have z3 := b3.size
  simp at z3
  simp only [World.size_setCell, World.size_alloc] at h3
  replace R0 := R0.below b3
  replace R1 := R1.below b3
  replace R2 := R2.below b3
  replace BB := BB.trans (b3.mono BB.size)
  replace h0 := h0.later b3 h0.2.2.1
  replace h1 := h1.later b3
  replace h2 := h2.later b3
  have l3 := h3.2.1
  (try simp at l3)
  have u3 := h3.2.2.1
  have c4 := R0.cell 4 rfl
  have f3 := R2.froz 3 rfl
  have d3 := R2.cell 3 rfl
  go_wp2_with fail
  clear c4 f3 d3
  replace R0 := R0.setOther (q := w.heap.size + 1 + 1) (by omega) 3 (.slice (some ⟨g3, 0, none⟩) nF nF)
  replace R1 := R1.setOther (q := w.heap.size + 1 + 1) (by omega) 3 (.slice (some ⟨g3, 0, none⟩) nF nF)
  replace R2 := R2.set 3 (.slice (some ⟨g3, 0, none⟩) nF nF)
  replace BB := BB.setCell (p := ⟨w.heap.size + 1 + 1, 3, none⟩) (by simp <;> omega) (.slice (some ⟨g3, 0, none⟩) nF nF)
  replace h0 := h0.setOther (q := w.heap.size + 1 + 1) (by omega) 3 (.slice (some ⟨g3, 0, none⟩) nF nF)
  replace h1 := h1.setOther (q := w.heap.size + 1 + 1) (by omega) 3 (.slice (some ⟨g3, 0, none⟩) nF nF)
  replace h2 := h2.setOther (q := w.heap.size + 1 + 1) (by omega) 3 (.slice (some ⟨g3, 0, none⟩) nF nF)
  replace h3 := h3.setOther (q := w.heap.size + 1 + 1) (by omega) 3 (.slice (some ⟨g3, 0, none⟩) nF nF)
  refine (Bo.copied aR nR cR rs _ ((rR.later BB (Nat.le_refl _)).more BB.size) (by omega)).mono ?_
  rintro e w6 ⟨⟨g4, rfl, h4⟩, b4⟩
  have z4 := b4.size
  simp at z4
  simp only [World.size_setCell, World.size_alloc] at h4
  replace R0 := R0.below b4
  replace R1 := R1.below b4
  replace R2 := R2.below b4
  replace BB := BB.trans (b4.mono BB.size)
  replace h0 := h0.later b4 h0.2.2.1
  replace h1 := h1.later b4
  replace h2 := h2.later b4
  replace h3 := h3.later b4 h3.2.2.1
  have l4 := h4.2.1
  (try simp at l4)
  have u4 := h4.2.2.1
  have f4 := R2.froz 4 rfl
  have d0 := R2.cell 0 rfl
  have d1 := R2.cell 1 rfl
  have d2 := R2.cell 2 rfl
  have d3 := R2.cell 3 rfl
  have d4 := R2.cell 4 rfl
  have e0 := R1.cell 0 rfl
  have e1 := R1.cell 1 rfl
  have e2 := R1.cell 2 rfl
  have e3 := R1.cell 3 rfl
  have e4 := R1.cell 4 rfl
  have k0 := R1.froz 0 rfl
  have k1 := R1.froz 1 rfl
  have k2 := R1.froz 2 rfl
  have k3 := R1.froz 3 rfl
  have k4 := R1.froz 4 rfl
  go_wp2
  have RQ := ((((((R1.setOther (q := w.heap.size + 1 + 1) (by omega) 4 (.slice (some ⟨g4, 0, none⟩) nR nR)).set 0 (.slice (some ⟨g0, 0, none⟩) nD nD)).set 1 (.slice (some ⟨g1, 0, none⟩) nE nE)).set 2 (.slice (some ⟨g2, 0, none⟩) nL nL)).set 3 (.slice (some ⟨g3, 0, none⟩) nF nF)).set 4 (.slice (some ⟨g4, 0, none⟩) nR nR))
  have BQ := ((((((BB.setCell (p := ⟨w.heap.size + 1 + 1, 4, none⟩) (by simp <;> omega) (.slice (some ⟨g4, 0, none⟩) nR nR)).setCell (p := ⟨w.heap.size + 1, 0, none⟩) (by simp <;> omega) (.slice (some ⟨g0, 0, none⟩) nD nD)).setCell (p := ⟨w.heap.size + 1, 1, none⟩) (by simp <;> omega) (.slice (some ⟨g1, 0, none⟩) nE nE)).setCell (p := ⟨w.heap.size + 1, 2, none⟩) (by simp <;> omega) (.slice (some ⟨g2, 0, none⟩) nL nL)).setCell (p := ⟨w.heap.size + 1, 3, none⟩) (by simp <;> omega) (.slice (some ⟨g3, 0, none⟩) nF nF)).setCell (p := ⟨w.heap.size + 1, 4, none⟩) (by simp <;> omega) (.slice (some ⟨g4, 0, none⟩) nR nR))
  have h0q := ((((((h0.setOther (q := w.heap.size + 1 + 1) (by omega) 4 (.slice (some ⟨g4, 0, none⟩) nR nR)).setOther (q := w.heap.size + 1) (by omega) 0 (.slice (some ⟨g0, 0, none⟩) nD nD)).setOther (q := w.heap.size + 1) (by omega) 1 (.slice (some ⟨g1, 0, none⟩) nE nE)).setOther (q := w.heap.size + 1) (by omega) 2 (.slice (some ⟨g2, 0, none⟩) nL nL)).setOther (q := w.heap.size + 1) (by omega) 3 (.slice (some ⟨g3, 0, none⟩) nF nF)).setOther (q := w.heap.size + 1) (by omega) 4 (.slice (some ⟨g4, 0, none⟩) nR nR))
  have h1q := ((((((h1.setOther (q := w.heap.size + 1 + 1) (by omega) 4 (.slice (some ⟨g4, 0, none⟩) nR nR)).setOther (q := w.heap.size + 1) (by omega) 0 (.slice (some ⟨g0, 0, none⟩) nD nD)).setOther (q := w.heap.size + 1) (by omega) 1 (.slice (some ⟨g1, 0, none⟩) nE nE)).setOther (q := w.heap.size + 1) (by omega) 2 (.slice (some ⟨g2, 0, none⟩) nL nL)).setOther (q := w.heap.size + 1) (by omega) 3 (.slice (some ⟨g3, 0, none⟩) nF nF)).setOther (q := w.heap.size + 1) (by omega) 4 (.slice (some ⟨g4, 0, none⟩) nR nR))
  have h2q := ((((((h2.setOther (q := w.heap.size + 1 + 1) (by omega) 4 (.slice (some ⟨g4, 0, none⟩) nR nR)).setOther (q := w.heap.size + 1) (by omega) 0 (.slice (some ⟨g0, 0, none⟩) nD nD)).setOther (q := w.heap.size + 1) (by omega) 1 (.slice (some ⟨g1, 0, none⟩) nE nE)).setOther (q := w.heap.size + 1) (by omega) 2 (.slice (some ⟨g2, 0, none⟩) nL nL)).setOther (q := w.heap.size + 1) (by omega) 3 (.slice (some ⟨g3, 0, none⟩) nF nF)).setOther (q := w.heap.size + 1) (by omega) 4 (.slice (some ⟨g4, 0, none⟩) nR nR))
  have h3q := ((((((h3.setOther (q := w.heap.size + 1 + 1) (by omega) 4 (.slice (some ⟨g4, 0, none⟩) nR nR)).setOther (q := w.heap.size + 1) (by omega) 0 (.slice (some ⟨g0, 0, none⟩) nD nD)).setOther (q := w.heap.size + 1) (by omega) 1 (.slice (some ⟨g1, 0, none⟩) nE nE)).setOther (q := w.heap.size + 1) (by omega) 2 (.slice (some ⟨g2, 0, none⟩) nL nL)).setOther (q := w.heap.size + 1) (by omega) 3 (.slice (some ⟨g3, 0, none⟩) nF nF)).setOther (q := w.heap.size + 1) (by omega) 4 (.slice (some ⟨g4, 0, none⟩) nR nR))
  have h4q := ((((((h4.setOther (q := w.heap.size + 1 + 1) (by omega) 4 (.slice (some ⟨g4, 0, none⟩) nR nR)).setOther (q := w.heap.size + 1) (by omega) 0 (.slice (some ⟨g0, 0, none⟩) nD nD)).setOther (q := w.heap.size + 1) (by omega) 1 (.slice (some ⟨g1, 0, none⟩) nE nE)).setOther (q := w.heap.size + 1) (by omega) 2 (.slice (some ⟨g2, 0, none⟩) nL nL)).setOther (q := w.heap.size + 1) (by omega) 3 (.slice (some ⟨g3, 0, none⟩) nF nF)).setOther (q := w.heap.size + 1) (by omega) 4 (.slice (some ⟨g4, 0, none⟩) nR nR))
  refine bodyPost_ret (v := trn (.slice (some ⟨g0, 0, none⟩) nD nD) (.slice (some ⟨g1, 0, none⟩) nE nE) (.slice (some ⟨g2, 0, none⟩) nL nL) (.slice (some ⟨g3, 0, none⟩) nF nF) (.slice (some ⟨g4, 0, none⟩) nR nR)) (ret5 Tryz.results22 rfl RQ) rfl ⟨⟨g0, g1, g2, g3, g4, rfl, ?_⟩, BQ⟩
  exact ⟨_, _, _, _, h0q.mono (by omega), u0, h1q, h2q, h3q, u3, h4q, by simpa using u4, by omega, by omega, by omega, by omega, by simp; omega, by simp⟩

set_option maxHeartbeats 4000000 in
theorem eqTurn (aD aE aL aF aR bD bE bL bF bR : Option Addr) (nD cD eD nE cE eE nL cL eL nF cF eF nR cR eR : Nat) (ds : List Int) (es ls : List (List Int)) (fs rs : List Bool) (w : World) (rD : Row w w.heap.size aD nD ds) (rE : RowsAt w w.heap.size aE nE es) (rL : RowsAt w w.heap.size aL nL ls) (rF : Flags w w.heap.size aF nF fs) (rR : Flags w w.heap.size aR nR rs) (sD : Row w w.heap.size bD nD ds) (sE : RowsAt w w.heap.size bE nE es) (sL : RowsAt w w.heap.size bL nL ls) (sF : Flags w w.heap.size bF nF fs) (sR : Flags w w.heap.size bR nR rs) (hz : nD + (nE + tot es nE) + (nL + tot ls nL) + nF + nR ≤ 1048576) :
    Calls Tryz.prog 28 #[trn (.slice aD nD cD) (.slice aE nE cE) (.slice aL nL cL) (.slice aF nF cF) (.slice aR nR cR), trn (.slice bD nD eD) (.slice bE nE eE) (.slice bL nL eL) (.slice bF nF eF) (.slice bR nR eR)] w fun e w' => e = .returned (.bool true) ∧ Below w.heap.size w w' := by
  have R0 := (Room.new w [.slice aD nD cD, .slice aE nE cE, .slice aL nL cL, .slice aF nF cF, .slice aR nR cR] 53).alloc (.cells #[.slice bD nD eD, .slice bE nE eE, .slice bL nL eL, .slice bF nF eF, .slice bR nR eR] 53)
  have R1 : Room ((w.alloc (.cells #[.slice aD nD cD, .slice aE nE cE, .slice aL nL cL, .slice aF nF cF, .slice aR nR cR] 53)).alloc (.cells #[.slice bD nD eD, .slice bE nE eE, .slice bL nL eL, .slice bF nF eF, .slice bR nR eR] 53)) (w.heap.size + 1) [.slice bD nD eD, .slice bE nE eE, .slice bL nL eL, .slice bF nF eF, .slice bR nR eR] := Room.at _ [.slice bD nD eD, .slice bE nE eE, .slice bL nL eL, .slice bF nF eF, .slice bR nR eR] 53 _ (by simp)
  have BB := ((Below.refl w.heap.size w).alloc (Nat.le_refl _) (.cells #[.slice aD nD cD, .slice aE nE cE, .slice aL nL cL, .slice aF nF cF, .slice aR nR cR] 53)).alloc (by simp) (.cells #[.slice bD nD eD, .slice bE nE eE, .slice bL nL eL, .slice bF nF eF, .slice bR nR eR] 53)
  go_enter Tryz.func28, Tryz.ntmps28
  go_wp2_with fail
  refine (Ls.eqInt64S aD bD nD cD eD ds _ ((rD.later BB (Nat.le_refl _)).more BB.size) ((sD.later BB (Nat.le_refl _)).more BB.size) (by omega)).mono ?_
  rintro e w2 ⟨rfl, b0⟩
  replace R0 := R0.below b0
  replace R1 := R1.below b0
  replace BB := BB.trans (b0.mono BB.size)
  have c0 := R0.cell 1 rfl
  have d0 := R1.cell 1 rfl
  go_wp2_with fail
  clear c0 d0
  refine (Ss.eqInt64SS aE bE nE cE eE es _ ((rE.later BB (Nat.le_refl _)).more BB.size) ((sE.later BB (Nat.le_refl _)).more BB.size) (by omega) (by omega)).mono ?_
  rintro e w3 ⟨rfl, b1⟩
  replace R0 := R0.below b1
  replace R1 := R1.below b1
  replace BB := BB.trans (b1.mono BB.size)
  have c1 := R0.cell 2 rfl
  have d1 := R1.cell 2 rfl
  go_wp2_with fail
  clear c1 d1
  refine (Ss.eqInt64SS aL bL nL cL eL ls _ ((rL.later BB (Nat.le_refl _)).more BB.size) ((sL.later BB (Nat.le_refl _)).more BB.size) (by omega) (by omega)).mono ?_
  rintro e w4 ⟨rfl, b2⟩
  replace R0 := R0.below b2
  replace R1 := R1.below b2
  replace BB := BB.trans (b2.mono BB.size)
  have c2 := R0.cell 3 rfl
  have d2 := R1.cell 3 rfl
  go_wp2_with fail
  clear c2 d2
  refine (Bo.eqBoolS aF bF nF cF eF fs _ ((rF.later BB (Nat.le_refl _)).more BB.size) ((sF.later BB (Nat.le_refl _)).more BB.size) (by omega)).mono ?_
  rintro e w5 ⟨rfl, b3⟩
  replace R0 := R0.below b3
  replace R1 := R1.below b3
  replace BB := BB.trans (b3.mono BB.size)
  have c3 := R0.cell 4 rfl
  have d3 := R1.cell 4 rfl
  go_wp2_with fail
  clear c3 d3
  refine (Bo.eqBoolS aR bR nR cR eR rs _ ((rR.later BB (Nat.le_refl _)).more BB.size) ((sR.later BB (Nat.le_refl _)).more BB.size) (by omega)).mono ?_
  rintro e w6 ⟨rfl, b4⟩
  replace R0 := R0.below b4
  replace R1 := R1.below b4
  replace BB := BB.trans (b4.mono BB.size)
  go_wp2
  go_ret
  exact ⟨rfl, BB⟩

end Go.Proofs.YtcgcmceobmpdiaaGreat.Tu
