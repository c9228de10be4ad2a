/-
  Worlds of the laws: a copy of one, whether two are alike, one that is marked, one whose marks are held.
-/
import Derived.Test.YtcgcmceobmpdiaaGreatWl
namespace Go.Proofs.YtcgcmceobmpdiaaGreat.Wl
open Go.ChangeShapes Go.WideShapes Go.ChangeAt Go.RowKit
open Ls (el Row)
open Rm (Room)
open Ow (Has Own)
open Cf (cfg)
set_option linter.unusedVariables false

abbrev z9 : List Value := c9 0 0 0 0 0 0 (.slice none 0 0) (.slice none 0 0) 0

set_option maxHeartbeats 4000000 in
theorem toWorld (n l d r p s t : Int) (a b : Option Addr) (k ka m mb : Nat) (ks os : List Int) (w : World) (hr : Row w w.heap.size a k ks) (hs : Row w w.heap.size b m os) (hk : k ≤ 1048576) (hm : m ≤ 1048576) :
    Calls Tryz.prog 7 #[wld n l d r p s (.slice a k ka) (.slice b m mb) t] w fun e w' => (∃ g h, e = .returned (wld n l d r p s (.slice (some ⟨g, 0, none⟩) k k) (.slice (some ⟨h, 0, none⟩) m m) t) ∧ Has w' w.heap.size g 0 k ks ∧ Has w' w.heap.size h 0 m os ∧ g < h) ∧ Below w.heap.size w w' := by
  go_enter Tryz.func7, Tryz.ntmps7
  go_wp2_with fail
  refine (Cf.toConfig _ _ _ _ _ _ _).mono ?_
  rintro e w2 ⟨rfl, b2⟩
  have z2 := b2.size
  simp at z2
  have R0 : Room w2 w.heap.size (c9 n l d r p s (.slice a k ka) (.slice b m mb) t) := (((Room.new w _ _).alloc _).alloc _).below b2
  have R1 : Room w2 (w.heap.size + 1) z9 := ((Room.at _ z9 32 _ (by simp)).alloc _).below b2
  have R2 : Room w2 (w.heap.size + 1 + 1) z9 := (Room.at _ z9 32 _ (by simp)).below b2
  have B2 : Below w.heap.size w w2 := ((((Below.refl _ w).alloc (Nat.le_refl _) _).alloc (by simp) _).alloc (by simp <;> omega) _).trans (b2.mono (by simp <;> omega))
  have c6 := R0.cell 6 rfl
  have f0 := R2.froz 0 rfl
  have f1 := R2.froz 1 rfl
  have f2 := R2.froz 2 rfl
  have f3 := R2.froz 3 rfl
  have f4 := R2.froz 4 rfl
  have f5 := R2.froz 5 rfl
  have d0 := R2.cell 0 rfl
  have d1 := R2.cell 1 rfl
  have d2 := R2.cell 2 rfl
  have d3 := R2.cell 3 rfl
  have d4 := R2.cell 4 rfl
  have d5 := R2.cell 5 rfl
  go_wp2_with fail
  replace R0 := ((((((R0.setOther (q := w.heap.size + 1 + 1) (by omega) 0 (.int .i64 n)).setOther (q := w.heap.size + 1 + 1) (by omega) 1 (.int .i64 l)).setOther (q := w.heap.size + 1 + 1) (by omega) 2 (.int .i64 d)).setOther (q := w.heap.size + 1 + 1) (by omega) 3 (.int .i64 r)).setOther (q := w.heap.size + 1 + 1) (by omega) 4 (.int .i64 p)).setOther (q := w.heap.size + 1 + 1) (by omega) 5 (.int .i64 s))
  replace R1 := ((((((R1.setOther (q := w.heap.size + 1 + 1) (by omega) 0 (.int .i64 n)).setOther (q := w.heap.size + 1 + 1) (by omega) 1 (.int .i64 l)).setOther (q := w.heap.size + 1 + 1) (by omega) 2 (.int .i64 d)).setOther (q := w.heap.size + 1 + 1) (by omega) 3 (.int .i64 r)).setOther (q := w.heap.size + 1 + 1) (by omega) 4 (.int .i64 p)).setOther (q := w.heap.size + 1 + 1) (by omega) 5 (.int .i64 s))
  replace R2 := ((((((R2.set 0 (.int .i64 n)).set 1 (.int .i64 l)).set 2 (.int .i64 d)).set 3 (.int .i64 r)).set 4 (.int .i64 p)).set 5 (.int .i64 s))
  replace B2 := ((((((B2.setCell (p := ⟨w.heap.size + 1 + 1, 0, none⟩) (by simp <;> omega) (.int .i64 n)).setCell (p := ⟨w.heap.size + 1 + 1, 1, none⟩) (by simp <;> omega) (.int .i64 l)).setCell (p := ⟨w.heap.size + 1 + 1, 2, none⟩) (by simp <;> omega) (.int .i64 d)).setCell (p := ⟨w.heap.size + 1 + 1, 3, none⟩) (by simp <;> omega) (.int .i64 r)).setCell (p := ⟨w.heap.size + 1 + 1, 4, none⟩) (by simp <;> omega) (.int .i64 p)).setCell (p := ⟨w.heap.size + 1 + 1, 5, none⟩) (by simp <;> omega) (.int .i64 s))
  clear c6 f0 f1 f2 f3 f4 f5 d0 d1 d2 d3 d4 d5
  refine (Ow.copied a k ka ks _ ((hr.later B2 (Nat.le_refl _)).more B2.size) hk).mono ?_
  rintro e w3 ⟨⟨g, rfl, h3⟩, b3⟩
  have z3 := b3.size
  simp at z3
  replace R0 := R0.below b3
  replace R1 := R1.below b3
  replace R2 := R2.below b3
  have B3 := B2.trans (b3.mono B2.size)
  have c7 := R0.cell 7 rfl
  have f6 := R2.froz 6 rfl
  have d6 := R2.cell 6 rfl
  go_wp2_with fail
  replace R0 := (R0.setOther (q := w.heap.size + 1 + 1) (by omega) 6 (.slice (some ⟨g, 0, none⟩) k k))
  replace R1 := (R1.setOther (q := w.heap.size + 1 + 1) (by omega) 6 (.slice (some ⟨g, 0, none⟩) k k))
  replace R2 := (R2.set 6 (.slice (some ⟨g, 0, none⟩) k k))
  replace B3 := (B3.setCell (p := ⟨w.heap.size + 1 + 1, 6, none⟩) (by simp <;> omega) (.slice (some ⟨g, 0, none⟩) k k))
  clear c7 f6 d6
  have u3 := h3.2.1
  simp at u3
  replace h3 := h3.setOther (q := w.heap.size + 1 + 1) (by omega) 6 (.slice (some ⟨g, 0, none⟩) k k)
  refine (Ow.copied b m mb os _ ((hs.later B3 (Nat.le_refl _)).more B3.size) hm).mono ?_
  rintro e w4 ⟨⟨h, rfl, h4⟩, b4⟩
  have z4 := b4.size
  simp at z4
  replace R0 := R0.below b4
  replace R1 := R1.below b4
  replace R2 := R2.below b4
  have B4 := B3.trans (b4.mono B3.size)
  have u4 := h4.2.1
  simp at u4
  have v3 := h3.2.2.1
  simp at v3
  replace h3 := h3.later b4 h3.2.2.1
  have c8 := R0.cell 8 rfl
  have f7 := R2.froz 7 rfl
  have f8 := R2.froz 8 rfl
  have d0 := R2.cell 0 rfl
  have d1 := R2.cell 1 rfl
  have d2 := R2.cell 2 rfl
  have d3 := R2.cell 3 rfl
  have d4 := R2.cell 4 rfl
  have d5 := R2.cell 5 rfl
  have d6 := R2.cell 6 rfl
  have d7 := R2.cell 7 rfl
  have d8 := R2.cell 8 rfl
  have g0 := R1.froz 0 rfl
  have g1 := R1.froz 1 rfl
  have g2 := R1.froz 2 rfl
  have g3 := R1.froz 3 rfl
  have g4 := R1.froz 4 rfl
  have g5 := R1.froz 5 rfl
  have g6 := R1.froz 6 rfl
  have g7 := R1.froz 7 rfl
  have g8 := R1.froz 8 rfl
  have e0 := R1.cell 0 rfl
  have e1 := R1.cell 1 rfl
  have e2 := R1.cell 2 rfl
  have e3 := R1.cell 3 rfl
  have e4 := R1.cell 4 rfl
  have e5 := R1.cell 5 rfl
  have e6 := R1.cell 6 rfl
  have e7 := R1.cell 7 rfl
  have e8 := R1.cell 8 rfl
  go_wp2
  replace R1 := ((R1.setOther (q := w.heap.size + 1 + 1) (by omega) 7 (.slice (some ⟨h, 0, none⟩) m m)).setOther (q := w.heap.size + 1 + 1) (by omega) 8 (.int .i64 t))
  replace R1 := (((((((((R1.set 0 (.int .i64 n)).set 1 (.int .i64 l)).set 2 (.int .i64 d)).set 3 (.int .i64 r)).set 4 (.int .i64 p)).set 5 (.int .i64 s)).set 6 (.slice (some ⟨g, 0, none⟩) k k)).set 7 (.slice (some ⟨h, 0, none⟩) m m)).set 8 (.int .i64 t))
  have q0 := R1.cell 0 rfl
  have q1 := R1.cell 1 rfl
  have q2 := R1.cell 2 rfl
  have q3 := R1.cell 3 rfl
  have q4 := R1.cell 4 rfl
  have q5 := R1.cell 5 rfl
  have q6 := R1.cell 6 rfl
  have q7 := R1.cell 7 rfl
  have q8 := R1.cell 8 rfl
  refine bodyPost_ret (v := wld n l d r p s (.slice (some ⟨g, 0, none⟩) k k) (.slice (some ⟨h, 0, none⟩) m m) t) (by simp [results, Tryz.results7, go_sem, q0, q1, q2, q3, q4, q5, q6, q7, q8]) rfl ⟨⟨g, h, rfl, ?_, ?_, by omega⟩, ?_⟩
  · exact ((((((((((((h3.mono (by simp; omega)).setOther (q := w.heap.size + 1 + 1) (by omega) 7 (.slice (some ⟨h, 0, none⟩) m m)).setOther (q := w.heap.size + 1 + 1) (by omega) 8 (.int .i64 t)).setOther (q := w.heap.size + 1) (by omega) 0 (.int .i64 n)).setOther (q := w.heap.size + 1) (by omega) 1 (.int .i64 l)).setOther (q := w.heap.size + 1) (by omega) 2 (.int .i64 d)).setOther (q := w.heap.size + 1) (by omega) 3 (.int .i64 r)).setOther (q := w.heap.size + 1) (by omega) 4 (.int .i64 p)).setOther (q := w.heap.size + 1) (by omega) 5 (.int .i64 s)).setOther (q := w.heap.size + 1) (by omega) 6 (.slice (some ⟨g, 0, none⟩) k k)).setOther (q := w.heap.size + 1) (by omega) 7 (.slice (some ⟨h, 0, none⟩) m m)).setOther (q := w.heap.size + 1) (by omega) 8 (.int .i64 t))
  · exact ((((((((((((h4.mono (by simp; omega)).setOther (q := w.heap.size + 1 + 1) (by omega) 7 (.slice (some ⟨h, 0, none⟩) m m)).setOther (q := w.heap.size + 1 + 1) (by omega) 8 (.int .i64 t)).setOther (q := w.heap.size + 1) (by omega) 0 (.int .i64 n)).setOther (q := w.heap.size + 1) (by omega) 1 (.int .i64 l)).setOther (q := w.heap.size + 1) (by omega) 2 (.int .i64 d)).setOther (q := w.heap.size + 1) (by omega) 3 (.int .i64 r)).setOther (q := w.heap.size + 1) (by omega) 4 (.int .i64 p)).setOther (q := w.heap.size + 1) (by omega) 5 (.int .i64 s)).setOther (q := w.heap.size + 1) (by omega) 6 (.slice (some ⟨g, 0, none⟩) k k)).setOther (q := w.heap.size + 1) (by omega) 7 (.slice (some ⟨h, 0, none⟩) m m)).setOther (q := w.heap.size + 1) (by omega) 8 (.int .i64 t))
  · exact (((((((((((B4.setCell (p := ⟨w.heap.size + 1 + 1, 7, none⟩) (by simp <;> omega) (.slice (some ⟨h, 0, none⟩) m m)).setCell (p := ⟨w.heap.size + 1 + 1, 8, none⟩) (by simp <;> omega) (.int .i64 t)).setCell (p := ⟨w.heap.size + 1, 0, none⟩) (by simp <;> omega) (.int .i64 n)).setCell (p := ⟨w.heap.size + 1, 1, none⟩) (by simp <;> omega) (.int .i64 l)).setCell (p := ⟨w.heap.size + 1, 2, none⟩) (by simp <;> omega) (.int .i64 d)).setCell (p := ⟨w.heap.size + 1, 3, none⟩) (by simp <;> omega) (.int .i64 r)).setCell (p := ⟨w.heap.size + 1, 4, none⟩) (by simp <;> omega) (.int .i64 p)).setCell (p := ⟨w.heap.size + 1, 5, none⟩) (by simp <;> omega) (.int .i64 s)).setCell (p := ⟨w.heap.size + 1, 6, none⟩) (by simp <;> omega) (.slice (some ⟨g, 0, none⟩) k k)).setCell (p := ⟨w.heap.size + 1, 7, none⟩) (by simp <;> omega) (.slice (some ⟨h, 0, none⟩) m m)).setCell (p := ⟨w.heap.size + 1, 8, none⟩) (by simp <;> omega) (.int .i64 t))

set_option maxHeartbeats 1000000 in
theorem eqConfig (n l d r p s : Int) (w : World) :
    Calls Tryz.prog 26 #[cfg n l d r p s, cfg n l d r p s] w fun e w' => e = .returned (.bool true) ∧ Below w.heap.size w w' := by
  go_enter Tryz.func26, Tryz.ntmps26
  go_wp2
  go_ret
  exact ⟨rfl, ((Below.refl _ _).alloc (Nat.le_refl _) _).alloc (by simp) _⟩

set_option maxHeartbeats 2000000 in
theorem eqWorld (n l d r p s t : Int) (a b a' b' : Option Addr) (k ka ka' m mb mb' : Nat) (ks os : List Int) (w : World) (hr : Row w w.heap.size a k ks) (hr' : Row w w.heap.size a' k ks) (hs : Row w w.heap.size b m os) (hs' : Row w w.heap.size b' m os) (hk : k ≤ 1048576) (hm : m ≤ 1048576) :
    Calls Tryz.prog 10 #[wld n l d r p s (.slice a k ka) (.slice b m mb) t, wld n l d r p s (.slice a' k ka') (.slice b' m mb') t] w fun e w' => e = .returned (.bool true) ∧ Below w.heap.size w w' := by
  go_enter Tryz.func10, Tryz.ntmps10
  go_wp2_with fail
  refine (eqConfig _ _ _ _ _ _ _).mono ?_
  rintro e w2 ⟨rfl, b2⟩
  have z2 := b2.size
  simp at z2
  have R0 : Room w2 w.heap.size (c9 n l d r p s (.slice a k ka) (.slice b m mb) t) := ((Room.new w _ _).alloc _).below b2
  have R1 : Room w2 (w.heap.size + 1) (c9 n l d r p s (.slice a' k ka') (.slice b' m mb') t) := (Room.at _ (c9 n l d r p s (.slice a' k ka') (.slice b' m mb') t) 32 _ (by simp)).below b2
  have B2 : Below w.heap.size w w2 := (((Below.refl _ w).alloc (Nat.le_refl _) _).alloc (by simp) _).trans (b2.mono (by simp <;> omega))
  have c6 := R0.cell 6 rfl
  have d6 := R1.cell 6 rfl
  go_wp2_with fail
  refine (Ls.eqInt64S a a' k ka ka' ks _ ((hr.later B2 (Nat.le_refl _)).more B2.size) ((hr'.later B2 (Nat.le_refl _)).more B2.size) hk).mono ?_
  rintro e w3 ⟨rfl, b3⟩
  have z3 := b3.size
  replace R0 := R0.below b3
  replace R1 := R1.below b3
  have B3 := B2.trans (b3.mono B2.size)
  clear c6 d6
  have c7 := R0.cell 7 rfl
  have d7 := R1.cell 7 rfl
  go_wp2_with fail
  refine (Ls.eqInt64S b b' m mb mb' os _ ((hs.later B3 (Nat.le_refl _)).more B3.size) ((hs'.later B3 (Nat.le_refl _)).more B3.size) hm).mono ?_
  rintro e w4 ⟨rfl, b4⟩
  have z4 := b4.size
  replace R0 := R0.below b4
  replace R1 := R1.below b4
  have B4 := B3.trans (b4.mono B3.size)
  clear c7 d7
  have c8 := R0.cell 8 rfl
  have d8 := R1.cell 8 rfl
  go_wp2
  go_ret
  exact ⟨rfl, B4⟩

set_option maxHeartbeats 2000000 in
theorem markWorld (n l d r p s t : Int) (B g o h o' k ka m mb : Nat) (ks os : List Int) (w : World) (hg : Has w B g o k ks) (hh : Has w B h o' m os) (hne : g ≠ h) (hk : k ≤ 1048576) (hm : m ≤ 1048576) :
    Calls Tryz.prog 12 #[wld n l d r p s (.slice (some ⟨g, o, none⟩) k ka) (.slice (some ⟨h, o', none⟩) m mb) t, .int .i64 1] w fun e w' => e = .returned (.int .i64 (1 + (k : Int) + (m : Int))) ∧ Has w' B g o k (Ow.marks 1 k) ∧ Has w' B h o' m (Ow.marks (1 + k) m) ∧ ∃ w2 w3, Below w.heap.size w w2 ∧ w2.grownBy w3 (some g) ∧ w3.grownBy w' (some h) := by
  have B1 : Below w.heap.size w (w.alloc (.cells #[.int .i64 n, .int .i64 l, .int .i64 d, .int .i64 r, .int .i64 p, .int .i64 s, .slice (some ⟨g, o, none⟩) k ka, .slice (some ⟨h, o', none⟩) m mb, .int .i64 t] 32)) := (Below.refl _ w).alloc (Nat.le_refl _) _
  have ug := hg.2.2.1
  have uh := hh.2.2.1
  have hg2 := hg.later B1 hg.2.2.1
  have hh2 := hh.later B1 hh.2.2.1
  have hg3 : Hid (Has _ _ _ _ _ _) := hg2
  have hh3 : Hid (Has _ _ _ _ _ _) := hh2
  clear hg hh hg2 hh2
  go_enter Tryz.func12, Tryz.ntmps12
  go_wp2_with fail
  refine (Ow.mark 1 B g o k ka ks _ hg3.out hk (by omega) (by omega)).mono ?_
  rintro e w2 ⟨rfl, m2, g2⟩
  have R0 : Room w2 w.heap.size (c9 n l d r p s (.slice (some ⟨g, o, none⟩) k ka) (.slice (some ⟨h, o', none⟩) m mb) t) := (Room.new w _ _).other g2 (by omega)
  have c7 := R0.cell 7 rfl
  have hh4 := hh3.out.kept g2 (by omega)
  have s2 := g2.size
  simp at s2
  go_wp2_with fail
  refine (Ow.mark (1 + k) B h o' m mb os _ hh4 hm (by omega) (by omega)).mono ?_
  rintro e w3 ⟨rfl, m3, g3⟩
  go_wp2
  go_ret
  exact ⟨rfl, m2.kept g3 (by omega), m3, _, _, B1, g2, g3⟩

set_option maxHeartbeats 2000000 in
theorem heldWorld (n l d r p s t : Int) (B g o h o' k ka m mb : Nat) (w : World) (hg : Has w B g o k (Ow.marks 1 k)) (hh : Has w B h o' m (Ow.marks (1 + k) m)) (hk : k ≤ 1048576) (hm : m ≤ 1048576) :
    Calls Tryz.prog 14 #[wld n l d r p s (.slice (some ⟨g, o, none⟩) k ka) (.slice (some ⟨h, o', none⟩) m mb) t, .int .i64 1] w fun e w' => e = .returned (.int .i64 (1 + (k : Int) + (m : Int))) ∧ Below w.heap.size w w' := by
  have B1 : Below w.heap.size w (w.alloc (.cells #[.int .i64 n, .int .i64 l, .int .i64 d, .int .i64 r, .int .i64 p, .int .i64 s, .slice (some ⟨g, o, none⟩) k ka, .slice (some ⟨h, o', none⟩) m mb, .int .i64 t] 32)) := (Below.refl _ w).alloc (Nat.le_refl _) _
  have hg3 : Hid (Has _ _ _ _ _ _) := hg.later B1 hg.2.2.1
  have hh3 : Hid (Has _ _ _ _ _ _) := hh.later B1 hh.2.2.1
  have h1 : decide ((1 : Int) + (k : Int) < 0) = false := by simp; omega
  have h2 : decide ((1 : Int) + (k : Int) + (m : Int) < 0) = false := by simp; omega
  clear hg hh
  go_enter Tryz.func14, Tryz.ntmps14
  go_wp2_with fail
  refine (Ow.held 1 B g o k ka _ hg3.out hk (by omega) (by omega)).mono ?_
  rintro e w ⟨rfl, rfl⟩
  go_wp2_with fail
  refine (Ow.held (1 + k) B h o' m mb _ hh3.out hm (by omega) (by omega)).mono ?_
  rintro e w ⟨rfl, rfl⟩
  go_wp2
  go_ret
  exact ⟨rfl, B1⟩

end Go.Proofs.YtcgcmceobmpdiaaGreat.Wl
