/-
  laws.likeWorld of worlds that are alike: true. · Rows of numbers, of flags and of rows, of which no more is known than what kind of cells they are: what becomes of them behind a step, a call, a store of the same kind. · spec.l6DrawAny: a world and a turn that are drawn, right ones and others: rows in memory. · spec.DrawTurned: a world and a turn out of bytes, rows in memory; laws.likeWorld of worlds that are alike. · Any world and any turn in memory, and Turned over them: no world, no right turn, a right one. · What FnValid looks at: what was drawn, in memory; the offs in the middle, and those that are up behind the turn (plain).
-/
import Derived.Test.YtloicicgcdfgnaaGreatPlainV
import Derived.Test.YtloicicgcdfgnaaGreatWok
import Derived.Test.YtloicicgcdfgnaaGreatWdAll
import Derived.Test.YtloicicgcdfgnaaGreatTn6All
import Derived.Test.YtloicicgcdfgnaaGreatD5All
import Derived.Test.YtloicicgcdfgnaaGreatTurnAll
namespace Go.Proofs.YtloicicgcdfgnaaGreat.Wl
open Go.ChangeShapes Go.WideShapes Go.ChangeAt Go.RowKit
open Ls (el Row)
set_option linter.unusedVariables false
set_option linter.unusedSimpArgs false

set_option maxHeartbeats 8000000 in
set_option maxRecDepth 100000 in
theorem likeWorld (n l d r p s t : Int) (aK aO aK' aO' : Option Addr) (k cK m cO cK' cO' : Nat) (ks os : List Int) (w : World) (h1 : Row w w.heap.size aK k ks) (h2 : Row w w.heap.size aK' k ks) (h3 : Row w w.heap.size aO m os) (h4 : Row w w.heap.size aO' m os) (hk : k ≤ 1048576) (hm : m ≤ 1048576) :
    Calls Tryz.prog 14 #[wld n l d r p s (.slice aK k cK) (.slice aO m cO) t, wld n l d r p s (.slice aK' k cK') (.slice aO' m cO') t] w fun e w' => e = .returned (.bool true) ∧ Below w.heap.size w w' := by
  have BB := ((Below.refl w.heap.size w).alloc (Nat.le_refl _) (.cells #[.int .i64 n, .int .i64 l, .int .i64 d, .int .i64 r, .int .i64 p, .int .i64 s, .slice aK k cK, .slice aO m cO, .int .i64 t] 31)).alloc (by simp) (.cells #[.int .i64 n, .int .i64 l, .int .i64 d, .int .i64 r, .int .i64 p, .int .i64 s, .slice aK' k cK', .slice aO' m cO', .int .i64 t] 31)
  have R1 := (Rm.Room.new w [.int .i64 n, .int .i64 l, .int .i64 d, .int .i64 r, .int .i64 p, .int .i64 s, .slice aK k cK, .slice aO m cO, .int .i64 t] 31).alloc (.cells #[.int .i64 n, .int .i64 l, .int .i64 d, .int .i64 r, .int .i64 p, .int .i64 s, .slice aK' k cK', .slice aO' m cO', .int .i64 t] 31)
  have R2 : Rm.Room ((w.alloc (.cells #[.int .i64 n, .int .i64 l, .int .i64 d, .int .i64 r, .int .i64 p, .int .i64 s, .slice aK k cK, .slice aO m cO, .int .i64 t] 31)).alloc (.cells #[.int .i64 n, .int .i64 l, .int .i64 d, .int .i64 r, .int .i64 p, .int .i64 s, .slice aK' k cK', .slice aO' m cO', .int .i64 t] 31)) (w.heap.size + 1) [.int .i64 n, .int .i64 l, .int .i64 d, .int .i64 r, .int .i64 p, .int .i64 s, .slice aK' k cK', .slice aO' m cO', .int .i64 t] := Rm.Room.at _ [.int .i64 n, .int .i64 l, .int .i64 d, .int .i64 r, .int .i64 p, .int .i64 s, .slice aK' k cK', .slice aO' m cO', .int .i64 t] 31 _ (by simp)
  go_enter Tryz.func14, Tryz.ntmps14
  go_wp2_with fail
  refine (Ls.likeInts _ _ _ _ _ ks _ ((h1.later BB (Nat.le_refl _)).more BB.size) ((h2.later BB (Nat.le_refl _)).more BB.size) hk).mono ?_
  rintro e w1 ⟨rfl, b1⟩
  replace R1 := R1.below b1
  replace R2 := R2.below b1
  replace BB := BB.trans (b1.mono BB.size)
  clear b1
  have c1 := R1.cell 7 rfl
  have c2 := R2.cell 7 rfl
  go_wp2_with fail
  refine (Ls.likeInts _ _ _ _ _ os _ ((h3.later BB (Nat.le_refl _)).more BB.size) ((h4.later BB (Nat.le_refl _)).more BB.size) hm).mono ?_
  rintro e w2 ⟨rfl, b2⟩
  go_wp2
  go_ret
  exact ⟨rfl, BB.trans (b2.mono BB.size)⟩

end Go.Proofs.YtloicicgcdfgnaaGreat.Wl

namespace Go.Proofs.YtloicicgcdfgnaaGreat.L6
open Go.ChangeShapes Go.WideShapes Go.ChangeAt Go.RowKit
open Ls (el Row)
open Ow (Has ints)
open Rd (Flags)
open Bo (eb HasB)
open Ss (RowsAt ln rw_)
open Lw (OSS)
set_option linter.unusedVariables false
set_option linter.unusedSimpArgs false

def IC (w : World) (p : Addr) : Prop := (∃ x, w.cell? p = some (.int .i64 x)) ∧ w.frozen? p = false
def BC (w : World) (p : Addr) : Prop := (∃ y, w.cell? p = some (.bool y)) ∧ w.frozen? p = false
/-- A row of n numbers, its block from lo on and below hi. -/
def RI (w : World) (lo hi : Nat) (a : Option Addr) (n : Nat) : Prop := n = 0 ∨ ∃ b off, a = some ⟨b, off, none⟩ ∧ lo ≤ b ∧ b < hi ∧ ∀ j, j < n → IC w ⟨b, off + j, none⟩
def RB (w : World) (lo hi : Nat) (a : Option Addr) (n : Nat) : Prop := n = 0 ∨ ∃ b off, a = some ⟨b, off, none⟩ ∧ lo ≤ b ∧ b < hi ∧ ∀ j, j < n → BC w ⟨b, off + j, none⟩
def RR (w : World) (lo hi : Nat) (a : Option Addr) (n k : Nat) : Prop := n = 0 ∨ ∃ b off, a = some ⟨b, off, none⟩ ∧ lo ≤ b ∧ b < hi ∧ ∀ j, j < n → ∃ ai ci, w.cell? ⟨b, off + j, none⟩ = some (.slice ai k ci) ∧ RI w lo hi ai k

/-- All cells of the blocks from lo on and below hi are as they were. -/
def Kp (lo hi : Nat) (w w' : World) : Prop := ∀ b o, lo ≤ b → b < hi → w'.cell? ⟨b, o, none⟩ = w.cell? ⟨b, o, none⟩ ∧ w'.frozen? ⟨b, o, none⟩ = w.frozen? ⟨b, o, none⟩
theorem Kp.blocks {lo hi : Nat} {w w' : World} (h : ∀ b, lo ≤ b → b < hi → w'.heap[b]? = w.heap[b]?) : Kp lo hi w w' := fun b o h1 h2 =>
  ⟨World.cell?_of_block (a := ⟨b, o, none⟩) (h b h1 h2), World.frozen?_of_block (a := ⟨b, o, none⟩) (h b h1 h2)⟩
theorem Kp.step {lo hi p : Nat} {w w' : World} (s : Dr.Step p w w') (hp : p < lo ∨ hi ≤ p) (hh : hi ≤ w.heap.size) : Kp lo hi w w' := Kp.blocks fun b h1 h2 => s.block b (by omega) (by omega)
theorem Kp.below {lo hi : Nat} {w w' : World} (s : Below w.heap.size w w') (hh : hi ≤ w.heap.size) : Kp lo hi w w' := Kp.blocks fun b h1 h2 => s.block b (by omega)
theorem Kp.set {lo hi q i : Nat} {w : World} {u : Value} (h : q < lo ∨ hi ≤ q) : Kp lo hi w (w.setCell ⟨q, i, none⟩ u) := Kp.blocks fun b h1 h2 => Below.heap_setCell _ _ _ _ (by simp; omega)
theorem RI.kp {w w' : World} {lo hi : Nat} {a : Option Addr} {n : Nat} (h : RI w lo hi a n) (k : Kp lo hi w w') : RI w' lo hi a n := by
  rcases h with h | ⟨b, off, e, h1, h2, h3⟩
  · exact .inl h
  · refine .inr ⟨b, off, e, h1, h2, fun j hj => ?_⟩
    obtain ⟨⟨x, c⟩, f⟩ := h3 j hj
    obtain ⟨e1, e2⟩ := k b (off + j) h1 h2
    exact ⟨⟨x, e1.trans c⟩, e2.trans f⟩
theorem RB.kp {w w' : World} {lo hi : Nat} {a : Option Addr} {n : Nat} (h : RB w lo hi a n) (k : Kp lo hi w w') : RB w' lo hi a n := by
  rcases h with h | ⟨b, off, e, h1, h2, h3⟩
  · exact .inl h
  · refine .inr ⟨b, off, e, h1, h2, fun j hj => ?_⟩
    obtain ⟨⟨x, c⟩, f⟩ := h3 j hj
    obtain ⟨e1, e2⟩ := k b (off + j) h1 h2
    exact ⟨⟨x, e1.trans c⟩, e2.trans f⟩
theorem RR.kp {w w' : World} {lo hi : Nat} {a : Option Addr} {n q : Nat} (h : RR w lo hi a n q) (k : Kp lo hi w w') : RR w' lo hi a n q := by
  rcases h with h | ⟨b, off, e, h1, h2, h3⟩
  · exact .inl h
  · refine .inr ⟨b, off, e, h1, h2, fun j hj => ?_⟩
    obtain ⟨ai, ci, c, r⟩ := h3 j hj
    exact ⟨ai, ci, (k b (off + j) h1 h2).1.trans c, r.kp k⟩
/-- A number is written over a number. -/
theorem IC.putI {w : World} {p : Addr} (hp : IC w p) (x : Int) {p' : Addr} (h : IC w p') : IC (w.setCell p (.int .i64 x)) p' := by
  obtain ⟨⟨y, c⟩, f⟩ := h
  refine ⟨?_, by rw [World.frozen?_setCell]; exact f⟩
  by_cases e : p' = p
  · subst e; exact ⟨x, World.cell?_setCell_same _ _ _ c⟩
  · exact ⟨y, by rw [World.cell?_setCell_other _ _ _ _ (fun z => e z.symm)]; exact c⟩
theorem other_of {w : World} {p p' : Addr} {u v v' : Value} (hp : w.cell? p = some v) (h : w.cell? p' = some v') (hne : v ≠ v') : (w.setCell p u).cell? p' = some v' := by
  have e : p' ≠ p := fun e => by subst e; rw [hp] at h; exact hne (Option.some.inj h)
  rw [World.cell?_setCell_other _ _ _ _ (fun z => e z.symm)]; exact h
theorem BC.putI {w : World} {p : Addr} (hp : IC w p) (x : Int) {p' : Addr} (h : BC w p') : BC (w.setCell p (.int .i64 x)) p' := by
  obtain ⟨⟨y, c⟩, f⟩ := h
  obtain ⟨⟨z, d⟩, g⟩ := hp
  exact ⟨⟨y, other_of d c (by simp)⟩, by rw [World.frozen?_setCell]; exact f⟩
theorem IC.putB {w : World} {p : Addr} (hp : BC w p) (x : Bool) {p' : Addr} (h : IC w p') : IC (w.setCell p (.bool x)) p' := by
  obtain ⟨⟨y, c⟩, f⟩ := h
  obtain ⟨⟨z, d⟩, g⟩ := hp
  exact ⟨⟨y, other_of d c (by simp)⟩, by rw [World.frozen?_setCell]; exact f⟩
theorem BC.putB {w : World} {p : Addr} (hp : BC w p) (x : Bool) {p' : Addr} (h : BC w p') : BC (w.setCell p (.bool x)) p' := by
  obtain ⟨⟨y, c⟩, f⟩ := h
  refine ⟨?_, by rw [World.frozen?_setCell]; exact f⟩
  by_cases e : p' = p
  · subst e; exact ⟨x, World.cell?_setCell_same _ _ _ c⟩
  · exact ⟨y, by rw [World.cell?_setCell_other _ _ _ _ (fun z => e z.symm)]; exact c⟩
theorem RI.all {w w' : World} {lo hi : Nat} {a : Option Addr} {n : Nat} (h : RI w lo hi a n) (k : ∀ p, IC w p → IC w' p) : RI w' lo hi a n := by
  rcases h with h | ⟨b, off, e, h1, h2, h3⟩
  · exact .inl h
  · exact .inr ⟨b, off, e, h1, h2, fun j hj => k _ (h3 j hj)⟩
theorem RB.all {w w' : World} {lo hi : Nat} {a : Option Addr} {n : Nat} (h : RB w lo hi a n) (k : ∀ p, BC w p → BC w' p) : RB w' lo hi a n := by
  rcases h with h | ⟨b, off, e, h1, h2, h3⟩
  · exact .inl h
  · exact .inr ⟨b, off, e, h1, h2, fun j hj => k _ (h3 j hj)⟩
theorem RR.all {w w' : World} {lo hi : Nat} {a : Option Addr} {n q : Nat} (h : RR w lo hi a n q) (k : ∀ p, IC w p → IC w' p) (ks : ∀ p ai ci, w.cell? p = some (.slice ai q ci) → w'.cell? p = some (.slice ai q ci)) : RR w' lo hi a n q := by
  rcases h with h | ⟨b, off, e, h1, h2, h3⟩
  · exact .inl h
  · refine .inr ⟨b, off, e, h1, h2, fun j hj => ?_⟩
    obtain ⟨ai, ci, c, r⟩ := h3 j hj
    exact ⟨ai, ci, ks _ _ _ c, r.all k⟩
theorem sl_putI {w : World} {p : Addr} (hp : IC w p) (x : Int) {p' : Addr} {v : Value} (h : w.cell? p' = some v) (hv : ∀ z, v ≠ .int .i64 z) : (w.setCell p (.int .i64 x)).cell? p' = some v := by
  obtain ⟨⟨z, d⟩, g⟩ := hp
  exact other_of d h (fun e => hv z e.symm)
theorem sl_putB {w : World} {p : Addr} (hp : BC w p) (x : Bool) {p' : Addr} {v : Value} (h : w.cell? p' = some v) (hv : ∀ z, v ≠ .bool z) : (w.setCell p (.bool x)).cell? p' = some v := by
  obtain ⟨⟨z, d⟩, g⟩ := hp
  exact other_of d h (fun e => hv z e.symm)
theorem RI.of {w : World} {lo hi g k c : Nat} {zs : List Int} (h : Ow.Own w lo g k c zs) (hg : g < hi) : RI w lo hi (some ⟨g, 0, none⟩) k :=
  .inr ⟨g, 0, rfl, h.data.2.1, hg, fun j hj => ⟨⟨_, h.has.2.2.2.1 j hj⟩, h.has.2.2.2.2 j hj⟩⟩
theorem RB.of {w : World} {lo hi g k : Nat} {bs : List Bool} (h : HasB w lo g 0 k bs) (hg : g < hi) : RB w lo hi (some ⟨g, 0, none⟩) k :=
  .inr ⟨g, 0, rfl, h.2.1, hg, fun j hj => ⟨⟨_, h.2.2.2.1 j hj⟩, h.2.2.2.2 j hj⟩⟩
theorem RR.of {w : World} {lo k : Nat} {v : Value} {zss : List (List Int)} (h : OSS w lo v k k zss) (hk : 0 < k) : ∃ g c, v = .slice (some ⟨g, 0, none⟩) k c ∧ RR w lo w.heap.size (some ⟨g, 0, none⟩) k k ∧ k ≤ c := by
  obtain ⟨vs, ho, hz, hi⟩ := h
  rcases ho.2 with ⟨_, h0⟩ | ⟨g, cap, cur, rfl, hB, hg, q1, q2, q3, q4⟩
  · omega
  · refine ⟨g, cap, rfl, .inr ⟨g, 0, rfl, hB, (Array.getElem?_eq_some_iff.1 hg).1, fun j hj => ?_⟩, q1⟩
    obtain ⟨g1, c1, e1, o1⟩ := hi j hj
    refine ⟨some ⟨g1, 0, none⟩, c1, ?_, RI.of o1 o1.lt⟩
    simp only [World.cell?, hg, Nat.zero_add]
    have e2 : cur.toList[j]? = some (.slice (some ⟨g1, 0, none⟩) k c1) := by
      rw [← q4] at e1
      rw [List.getElem?_take] at e1
      split at e1
      · exact e1
      · cases e1
    simpa using e2
/-- What such rows hold. -/
theorem RI.row {w : World} {lo hi : Nat} {a : Option Addr} {n : Nat} (h : RI w lo hi a n) (hh : hi ≤ w.heap.size) : ∃ zs, Row w w.heap.size a n zs := by
  rcases h with h | ⟨b, off, e, h1, h2, h3⟩
  · subst h; exact ⟨[], rfl, .inl rfl⟩
  · have key : ∀ m, m ≤ n → ∃ zs : List Int, zs.length = m ∧ ∀ j, j < m → w.cell? ⟨b, off + j, none⟩ = some (.int .i64 (el zs j)) := by
      intro m
      induction m with
      | zero => intro _; exact ⟨[], rfl, fun j hj => by omega⟩
      | succ m ih =>
        intro hm
        obtain ⟨zs, hz, hc⟩ := ih (by omega)
        obtain ⟨⟨x, c⟩, _⟩ := h3 m (by omega)
        refine ⟨zs ++ [x], by simp [hz], fun j hj => ?_⟩
        by_cases q : j < m
        · rw [hc j q]; simp [el, List.getD, List.getElem?_append_left (by omega : j < zs.length)]
        · have : j = m := by omega
          subst this
          rw [c]; simp [el, List.getD, ← hz]
    obtain ⟨zs, hz, hc⟩ := key n (Nat.le_refl _)
    exact ⟨zs, hz, .inr ⟨b, off, e, by omega, hc⟩⟩
theorem RB.row {w : World} {lo hi : Nat} {a : Option Addr} {n : Nat} (h : RB w lo hi a n) (hh : hi ≤ w.heap.size) : ∃ bs, Flags w w.heap.size a n bs := by
  rcases h with h | ⟨b, off, e, h1, h2, h3⟩
  · subst h; exact ⟨[], rfl, .inl rfl⟩
  · have key : ∀ m, m ≤ n → ∃ zs : List Bool, zs.length = m ∧ ∀ j, j < m → w.cell? ⟨b, off + j, none⟩ = some (.bool (zs.getD j false)) := by
      intro m
      induction m with
      | zero => intro _; exact ⟨[], rfl, fun j hj => by omega⟩
      | succ m ih =>
        intro hm
        obtain ⟨zs, hz, hc⟩ := ih (by omega)
        obtain ⟨⟨x, c⟩, _⟩ := h3 m (by omega)
        refine ⟨zs ++ [x], by simp [hz], fun j hj => ?_⟩
        by_cases q : j < m
        · rw [hc j q]; simp [List.getD, List.getElem?_append_left (by omega : j < zs.length)]
        · have : j = m := by omega
          subst this
          rw [c]; simp [List.getD, ← hz]
    obtain ⟨zs, hz, hc⟩ := key n (Nat.le_refl _)
    exact ⟨zs, hz, .inr ⟨b, off, e, by omega, hc⟩⟩
theorem RR.rows {w : World} {lo hi : Nat} {a : Option Addr} {n k : Nat} (h : RR w lo hi a n k) (hh : hi ≤ w.heap.size) : ∃ zss, RowsAt w w.heap.size a n zss ∧ ∀ i, i < n → ln zss i = k := by
  rcases h with h | ⟨b, off, e, h1, h2, h3⟩
  · subst h; exact ⟨[], ⟨rfl, .inl rfl⟩, fun i hi => by omega⟩
  · have key : ∀ m, m ≤ n → ∃ zss : List (List Int), zss.length = m ∧ ∀ j, j < m → ∃ ai ci, w.cell? ⟨b, off + j, none⟩ = some (.slice ai k ci) ∧ Row w w.heap.size ai k (rw_ zss j) := by
      intro m
      induction m with
      | zero => intro _; exact ⟨[], rfl, fun j hj => by omega⟩
      | succ m ih =>
        intro hm
        obtain ⟨zss, hz, hc⟩ := ih (by omega)
        obtain ⟨ai, ci, c, r⟩ := h3 m (by omega)
        obtain ⟨zs, hr⟩ := r.row hh
        refine ⟨zss ++ [zs], by simp [hz], fun j hj => ?_⟩
        by_cases q : j < m
        · obtain ⟨aj, cj, e1, e2⟩ := hc j q
          refine ⟨aj, cj, e1, ?_⟩
          have : rw_ (zss ++ [zs]) j = rw_ zss j := by simp [rw_, List.getElem?_append_left (by omega : j < zss.length)]
          rw [this]; exact e2
        · have : j = m := by omega
          subst this
          refine ⟨ai, ci, c, ?_⟩
          have : rw_ (zss ++ [zs]) j = zs := by simp [rw_, ← hz]
          rw [this]; exact hr
    obtain ⟨zss, hz, hc⟩ := key n (Nat.le_refl _)
    have hl : ∀ i, i < n → ln zss i = k := fun i hi => by
      obtain ⟨ai, ci, _, hr⟩ := hc i hi
      exact hr.1
    exact ⟨zss, ⟨hz, .inr ⟨b, off, e, by omega, fun i hi => by
      obtain ⟨ai, ci, c, hr⟩ := hc i hi
      exact ⟨ai, ci, by rw [hl i hi]; exact c, by rw [hl i hi]; exact hr⟩⟩⟩, hl⟩
theorem RI.at {w : World} {lo hi g o n i : Nat} (h : RI w lo hi (some ⟨g, o, none⟩) n) (hi' : i < n) : IC w ⟨g, o + i, none⟩ ∧ lo ≤ g ∧ g < hi := by
  rcases h with h | ⟨b, off, e, h1, h2, h3⟩
  · omega
  · cases e; exact ⟨h3 i hi', h1, h2⟩
theorem RB.at {w : World} {lo hi g o n i : Nat} (h : RB w lo hi (some ⟨g, o, none⟩) n) (hi' : i < n) : BC w ⟨g, o + i, none⟩ ∧ lo ≤ g ∧ g < hi := by
  rcases h with h | ⟨b, off, e, h1, h2, h3⟩
  · omega
  · cases e; exact ⟨h3 i hi', h1, h2⟩
theorem RR.at {w : World} {lo hi g o n k i : Nat} (h : RR w lo hi (some ⟨g, o, none⟩) n k) (hi' : i < n) (hk : 0 < k) : ∃ g1 o1 c1, (w.cell? ⟨g, o + i, none⟩ = some (.slice (some ⟨g1, o1, none⟩) k c1) ∧ IC w ⟨g1, o1, none⟩) ∧ (lo ≤ g ∧ g < hi) ∧ lo ≤ g1 ∧ g1 < hi := by
  rcases h with h | ⟨b, off, e, h1, h2, h3⟩
  · omega
  · cases e
    obtain ⟨ai, ci, c, r⟩ := h3 i hi'
    rcases r with r | ⟨b1, off1, rfl, q1, q2, q3⟩
    · omega
    · exact ⟨b1, off1, ci, ⟨c, by simpa using q3 0 hk⟩, ⟨h1, h2⟩, q1, q2⟩
theorem IC.step {w w' : World} {p b o : Nat} (h : IC w ⟨b, o, none⟩) (s : Dr.Step p w w') (hb : b < w.heap.size) (hn : b ≠ p) : IC w' ⟨b, o, none⟩ := by
  obtain ⟨⟨x, c⟩, f⟩ := h
  have e := s.block b hb hn
  exact ⟨⟨x, by rw [World.cell?_of_block (a := ⟨b, o, none⟩) e]; exact c⟩, by rw [World.frozen?_of_block (a := ⟨b, o, none⟩) e]; exact f⟩
/-- Without the first. -/
theorem RR.tail {w : World} {lo hi b off n k : Nat} (h : RR w lo hi (some ⟨b, off, none⟩) (n + 1) k) : RR w lo hi (some ⟨b, off + 1, none⟩) n k := by
  rcases h with h | ⟨b', off', e, h1, h2, h3⟩
  · omega
  · cases e
    refine .inr ⟨b, off + 1, rfl, h1, h2, fun j hj => ?_⟩
    have := h3 (j + 1) (by omega)
    rwa [show off + (j + 1) = off + 1 + j by omega] at this

end Go.Proofs.YtloicicgcdfgnaaGreat.L6

namespace Go.Proofs.YtloicicgcdfgnaaGreat.L6
open Go.ChangeShapes Go.WideShapes Go.ChangeAt Go.RowKit
open Ls (el Row)
open Ow (Has ints)
open Rd (Flags)
open Bo (eb HasB)
open Wl (z9 c9 wld)
open Tu (trn)
open Ss (RowsAt ln rw_)
open Lw (rm_step has_step step_cut OSS own_move)
open Dr (St)
set_option linter.unusedVariables false
set_option linter.unusedSimpArgs false

/-- What lies there while a world and a turn are drawn: the world at gX, the turn at gY. -/
structure Za (w0 w : World) (B p : Nat) (a : Option Addr) (len cap gX gY lo hi lk hk : Nat) (n l d r q s t : Int) (aK : Option Addr) (k cK : Nat) (aO : Option Addr) (m cO : Nat) (aD : Option Addr) (j cD : Nat) (aE : Option Addr) (nE cE : Nat) (aL : Option Addr) (cL : Nat) (aF : Option Addr) (cF : Nat) (aR : Option Addr) (cR : Nat) (w' : World) : Prop where
  st : St w0 B p a len cap w'
  sp : Dr.Step p w w'
  RW : Rm.Room w' w.heap.size z9
  RT : Rm.Room w' (w.heap.size + 1) Z5
  XW : Rm.Room w' gX [.int .i64 n, .int .i64 l, .int .i64 d, .int .i64 r, .int .i64 q, .int .i64 s, .slice aK k cK, .slice aO m cO, .int .i64 t]
  XT : Rm.Room w' gY [.slice aD j cD, .slice aE nE cE, .slice aL j cL, .slice aF j cF, .slice aR j cR]
  K : RI w' lk hk aK k
  O : RI w' lk hk aO m
  D : RI w' lo hi aD j
  E : RR w' lo hi aE nE j
  L : RR w' lo hi aL j j
  F : RB w' lo hi aF j
  R : RB w' lo hi aR j
  b1 : w.heap.size + 2 ≤ gX ∧ gX < lo ∧ lo ≤ hi ∧ hi ≤ gY ∧ w.heap.size + 2 ≤ lk
  b2 : (gX < lk ∨ hk ≤ gX) ∧ (gY < lk ∨ hk ≤ gY)
  b3 : hk ≤ w'.heap.size ∧ hi ≤ w'.heap.size
section
variable {w0 w w' w'' : World} {B p : Nat} {a : Option Addr} {len cap gX gY lo hi lk hk : Nat} {n l d r q s t : Int} {aK : Option Addr} {k cK : Nat} {aO : Option Addr} {m cO : Nat} {aD : Option Addr} {j cD : Nat} {aE : Option Addr} {nE cE : Nat} {aL : Option Addr} {cL : Nat} {aF : Option Addr} {cF : Nat} {aR : Option Addr} {cR : Nat}
theorem Za.step (z : Za w0 w B p a len cap gX gY lo hi lk hk n l d r q s t aK k cK aO m cO aD j cD aE nE cE aL cL aF cF aR cR w') (hp : p < w.heap.size) (sx : Dr.Step p w' w'') (bs : St w' B p a len cap w'') : Za w0 w B p a len cap gX gY lo hi lk hk n l d r q s t aK k cK aO m cO aD j cD aE nE cE aL cL aF cF aR cR w'' :=
  have h1 := z.b1
  have h3 := z.b3
  have hs := sx.size
  have k1 : Kp lo hi w' w'' := Kp.step sx (by omega) (by omega)
  have k2 : Kp lk hk w' w'' := Kp.step sx (by omega) (by omega)
  { st := ⟨bs.cur, z.st.step.trans sx⟩, sp := z.sp.trans sx
    RW := rm_step z.RW sx (by omega) (by decide), RT := rm_step z.RT sx (by omega) (by decide)
    XW := rm_step z.XW sx (by omega) (by simp), XT := rm_step z.XT sx (by omega) (by simp)
    K := z.K.kp k2, O := z.O.kp k2, D := z.D.kp k1, E := z.E.kp k1, L := z.L.kp k1, F := z.F.kp k1, R := z.R.kp k1
    b1 := h1, b2 := z.b2, b3 := ⟨by omega, by omega⟩ }
theorem Za.drew (z : Za w0 w B p a len cap gX gY lo hi lk hk n l d r q s t aK k cK aO m cO aD j cD aE nE cE aL cL aF cF aR cR w') (hp : p < w.heap.size) : Za w0 w B p a len cap gX gY lo hi lk hk n l d r q s t aK k cK aO m cO aD j cD aE nE cE aL cL aF cF aR cR w'.drew := z.step hp (Dr.Step.of_below (Below.refl _ _).drew) (St.drew' ⟨z.st.cur, Dr.Step.refl _ _⟩)
theorem Za.putI (z : Za w0 w B p a len cap gX gY lo hi lk hk n l d r q s t aK k cK aO m cO aD j cD aE nE cE aL cL aF cF aR cR w') (hp : p < w.heap.size) (hB : B ≤ p) (h0 : w0.heap.size ≤ w.heap.size) {g o : Nat} (h : IC w' ⟨g, o, none⟩) (hl : lo ≤ g) (hh : g < hi) (x : Int) : Za w0 w B p a len cap gX gY lo hi lk hk n l d r q s t aK k cK aO m cO aD j cD aE nE cE aL cL aF cF aR cR (w'.setCell ⟨g, o, none⟩ (.int .i64 x)) :=
  have h1 := z.b1
  { st := z.st.setNew o (by omega) (by omega) (by omega) _, sp := z.sp.setNew o (by omega) _
    RW := z.RW.setOther (by omega) o _, RT := z.RT.setOther (by omega) o _, XW := z.XW.setOther (by omega) o _, XT := z.XT.setOther (by omega) o _
    K := z.K.all (fun _ => IC.putI h x), O := z.O.all (fun _ => IC.putI h x), D := z.D.all (fun _ => IC.putI h x)
    E := z.E.all (fun _ => IC.putI h x) (fun _ _ _ e => sl_putI h x e (fun z e => by cases e)), L := z.L.all (fun _ => IC.putI h x) (fun _ _ _ e => sl_putI h x e (fun z e => by cases e))
    F := z.F.all (fun _ => BC.putI h x), R := z.R.all (fun _ => BC.putI h x)
    b1 := h1, b2 := z.b2, b3 := by simpa [World.setCell] using z.b3 }
theorem Za.putB (z : Za w0 w B p a len cap gX gY lo hi lk hk n l d r q s t aK k cK aO m cO aD j cD aE nE cE aL cL aF cF aR cR w') (hp : p < w.heap.size) (hB : B ≤ p) (h0 : w0.heap.size ≤ w.heap.size) {g o : Nat} (h : BC w' ⟨g, o, none⟩) (hl : lo ≤ g) (hh : g < hi) (x : Bool) : Za w0 w B p a len cap gX gY lo hi lk hk n l d r q s t aK k cK aO m cO aD j cD aE nE cE aL cL aF cF aR cR (w'.setCell ⟨g, o, none⟩ (.bool x)) :=
  have h1 := z.b1
  { st := z.st.setNew o (by omega) (by omega) (by omega) _, sp := z.sp.setNew o (by omega) _
    RW := z.RW.setOther (by omega) o _, RT := z.RT.setOther (by omega) o _, XW := z.XW.setOther (by omega) o _, XT := z.XT.setOther (by omega) o _
    K := z.K.all (fun _ => IC.putB h x), O := z.O.all (fun _ => IC.putB h x), D := z.D.all (fun _ => IC.putB h x)
    E := z.E.all (fun _ => IC.putB h x) (fun _ _ _ e => sl_putB h x e (fun z e => by cases e)), L := z.L.all (fun _ => IC.putB h x) (fun _ _ _ e => sl_putB h x e (fun z e => by cases e))
    F := z.F.all (fun _ => BC.putB h x), R := z.R.all (fun _ => BC.putB h x)
    b1 := h1, b2 := z.b2, b3 := by simpa [World.setCell] using z.b3 }
/-- The turn's errors are others. -/
theorem Za.setE (z : Za w0 w B p a len cap gX gY lo hi lk hk n l d r q s t aK k cK aO m cO aD j cD aE nE cE aL cL aF cF aR cR w') (hp : p < w.heap.size) (hB : B ≤ p) (h0 : w0.heap.size ≤ w.heap.size) {aE' : Option Addr} {nE' cE' : Nat} (h : RR w' lo hi aE' nE' j) : Za w0 w B p a len cap gX gY lo hi lk hk n l d r q s t aK k cK aO m cO aD j cD aE' nE' cE' aL cL aF cF aR cR (w'.setCell ⟨gY, 1, none⟩ (.slice aE' nE' cE')) :=
  have h1 := z.b1
  have k1 : Kp lo hi w' (w'.setCell ⟨gY, 1, none⟩ (.slice aE' nE' cE')) := Kp.set (by omega)
  have k2 : Kp lk hk w' (w'.setCell ⟨gY, 1, none⟩ (.slice aE' nE' cE')) := Kp.set z.b2.2
  { st := z.st.setNew 1 (by omega) (by omega) (by omega) _, sp := z.sp.setNew 1 (by omega) _
    RW := z.RW.setOther (by omega) 1 _, RT := z.RT.setOther (by omega) 1 _, XW := z.XW.setOther (by omega) 1 _, XT := z.XT.set 1 _
    K := z.K.kp k2, O := z.O.kp k2, D := z.D.kp k1, E := h.kp k1, L := z.L.kp k1, F := z.F.kp k1, R := z.R.kp k1
    b1 := h1, b2 := z.b2, b3 := by simpa [World.setCell] using z.b3 }
end

section
variable {w0 w w' w'' : World} {B p : Nat} {a : Option Addr} {len cap gX gY lo hi lk hk : Nat} {n l d r q s t : Int} {aK : Option Addr} {k cK : Nat} {aO : Option Addr} {m cO : Nat} {aD : Option Addr} {j cD : Nat} {aE : Option Addr} {nE cE : Nat} {aL : Option Addr} {cL : Nat} {aF : Option Addr} {cF : Nat} {aR : Option Addr} {cR : Nat} {n' l' d' r' q' s' t' : Int} {aK' : Option Addr} {k' cK' : Nat} {aO' : Option Addr} {m' cO' : Nat}
theorem kp9 {lo hi : Nat} {w' : World} {g : Nat} (h : g < lo ∨ hi ≤ g) (x0 x1 x2 x3 x4 x5 x6 x7 x8 : Value) : Kp lo hi w' (((((((((w'.setCell ⟨g, 0, none⟩ x0).setCell ⟨g, 1, none⟩ x1).setCell ⟨g, 2, none⟩ x2).setCell ⟨g, 3, none⟩ x3).setCell ⟨g, 4, none⟩ x4).setCell ⟨g, 5, none⟩ x5).setCell ⟨g, 6, none⟩ x6).setCell ⟨g, 7, none⟩ x7).setCell ⟨g, 8, none⟩ x8) :=
  Kp.blocks fun b h1 h2 => (Below.heap_setCell _ _ _ _ (by simp; omega)).trans ((Below.heap_setCell _ _ _ _ (by simp; omega)).trans ((Below.heap_setCell _ _ _ _ (by simp; omega)).trans ((Below.heap_setCell _ _ _ _ (by simp; omega)).trans ((Below.heap_setCell _ _ _ _ (by simp; omega)).trans ((Below.heap_setCell _ _ _ _ (by simp; omega)).trans ((Below.heap_setCell _ _ _ _ (by simp; omega)).trans ((Below.heap_setCell _ _ _ _ (by simp; omega)).trans ((Below.heap_setCell _ _ _ _ (by simp; omega)).trans (rfl)))))))))
theorem Kp.trans {lo hi : Nat} {w1 w2 w3 : World} (h : Kp lo hi w1 w2) (k : Kp lo hi w2 w3) : Kp lo hi w1 w3 := fun b o h1 h2 => ⟨(k b o h1 h2).1.trans (h b o h1 h2).1, (k b o h1 h2).2.trans (h b o h1 h2).2⟩
theorem ret14 {fn : Func} {ts : Array Value} {W : World} {R R2 c1 c2 : Nat} {n l d r q s t : Int} {aK aO : Option Addr} {k cK m cO : Nat} {a1 a2 a3 a4 a5 : Option Addr} {n1 d1 n2 d2 n3 d3 n4 d4 n5 d5 : Nat} (hf : fn.results = #[.cell c1 31, .cell c2 37]) (h1 : ts[c1]? = some (.pointer (some ⟨R, 0, none⟩))) (h2 : ts[c2]? = some (.pointer (some ⟨R2, 0, none⟩))) (h : Rm.Room W R (c9 n l d r q s (.slice aK k cK) (.slice aO m cO) t)) (g : Rm.Room W R2 [.slice a1 n1 d1, .slice a2 n2 d2, .slice a3 n3 d3, .slice a4 n4 d4, .slice a5 n5 d5]) :
    (results fn ts).run Tryz.prog W = .ok (.tuple #[wld n l d r q s (.slice aK k cK) (.slice aO m cO) t, trn (.slice a1 n1 d1) (.slice a2 n2 d2) (.slice a3 n3 d3) (.slice a4 n4 d4) (.slice a5 n5 d5)]) W := by
  have q0 := h.cell 0 rfl
  have q1 := h.cell 1 rfl
  have q2 := h.cell 2 rfl
  have q3 := h.cell 3 rfl
  have q4 := h.cell 4 rfl
  have q5 := h.cell 5 rfl
  have q6 := h.cell 6 rfl
  have q7 := h.cell 7 rfl
  have q8 := h.cell 8 rfl
  have p0 := g.cell 0 rfl
  have p1 := g.cell 1 rfl
  have p2 := g.cell 2 rfl
  have p3 := g.cell 3 rfl
  have p4 := g.cell 4 rfl
  simp [results, hf, h1, h2, go_sem, q0, q1, q2, q3, q4, q5, q6, q7, q8, p0, p1, p2, p3, p4]
/-- The world is another one. -/
theorem Za.setW (z : Za w0 w B p a len cap gX gY lo hi lk hk n l d r q s t aK k cK aO m cO aD j cD aE nE cE aL cL aF cF aR cR w') (hp : p < w.heap.size) (hB : B ≤ p) (h0 : w0.heap.size ≤ w.heap.size) {lk' hk' : Nat} (hK : RI w' lk' hk' aK' k') (hO : RI w' lk' hk' aO' m') (e1 : gY < lk') (e2 : hk' ≤ w'.heap.size) :
    Za w0 w B p a len cap gX gY lo hi lk' hk' n' l' d' r' q' s' t' aK' k' cK' aO' m' cO' aD j cD aE nE cE aL cL aF cF aR cR (((((((((w'.setCell ⟨gX, 0, none⟩ (.int .i64 n')).setCell ⟨gX, 1, none⟩ (.int .i64 l')).setCell ⟨gX, 2, none⟩ (.int .i64 d')).setCell ⟨gX, 3, none⟩ (.int .i64 r')).setCell ⟨gX, 4, none⟩ (.int .i64 q')).setCell ⟨gX, 5, none⟩ (.int .i64 s')).setCell ⟨gX, 6, none⟩ (.slice aK' k' cK')).setCell ⟨gX, 7, none⟩ (.slice aO' m' cO')).setCell ⟨gX, 8, none⟩ (.int .i64 t')) :=
  have h1 := z.b1
  have k1 : Kp lo hi w' _ := kp9 (g := gX) (by omega) (.int .i64 n') (.int .i64 l') (.int .i64 d') (.int .i64 r') (.int .i64 q') (.int .i64 s') (.slice aK' k' cK') (.slice aO' m' cO') (.int .i64 t')
  have k2 : Kp lk' hk' w' _ := kp9 (g := gX) (by omega) (.int .i64 n') (.int .i64 l') (.int .i64 d') (.int .i64 r') (.int .i64 q') (.int .i64 s') (.slice aK' k' cK') (.slice aO' m' cO') (.int .i64 t')
  { st := Dr.St.setNew (Dr.St.setNew (Dr.St.setNew (Dr.St.setNew (Dr.St.setNew (Dr.St.setNew (Dr.St.setNew (Dr.St.setNew (Dr.St.setNew (z.st) 0 (by omega) (by omega) (by omega) _) 1 (by omega) (by omega) (by omega) _) 2 (by omega) (by omega) (by omega) _) 3 (by omega) (by omega) (by omega) _) 4 (by omega) (by omega) (by omega) _) 5 (by omega) (by omega) (by omega) _) 6 (by omega) (by omega) (by omega) _) 7 (by omega) (by omega) (by omega) _) 8 (by omega) (by omega) (by omega) _
    sp := Dr.Step.setNew (Dr.Step.setNew (Dr.Step.setNew (Dr.Step.setNew (Dr.Step.setNew (Dr.Step.setNew (Dr.Step.setNew (Dr.Step.setNew (Dr.Step.setNew (z.sp) 0 (by omega) _) 1 (by omega) _) 2 (by omega) _) 3 (by omega) _) 4 (by omega) _) 5 (by omega) _) 6 (by omega) _) 7 (by omega) _) 8 (by omega) _
    RW := Rm.Room.setOther (Rm.Room.setOther (Rm.Room.setOther (Rm.Room.setOther (Rm.Room.setOther (Rm.Room.setOther (Rm.Room.setOther (Rm.Room.setOther (Rm.Room.setOther (z.RW) (by omega) 0 _) (by omega) 1 _) (by omega) 2 _) (by omega) 3 _) (by omega) 4 _) (by omega) 5 _) (by omega) 6 _) (by omega) 7 _) (by omega) 8 _
    RT := Rm.Room.setOther (Rm.Room.setOther (Rm.Room.setOther (Rm.Room.setOther (Rm.Room.setOther (Rm.Room.setOther (Rm.Room.setOther (Rm.Room.setOther (Rm.Room.setOther (z.RT) (by omega) 0 _) (by omega) 1 _) (by omega) 2 _) (by omega) 3 _) (by omega) 4 _) (by omega) 5 _) (by omega) 6 _) (by omega) 7 _) (by omega) 8 _
    XW := Rm.Room.set (Rm.Room.set (Rm.Room.set (Rm.Room.set (Rm.Room.set (Rm.Room.set (Rm.Room.set (Rm.Room.set (Rm.Room.set (z.XW) 0 _) 1 _) 2 _) 3 _) 4 _) 5 _) 6 _) 7 _) 8 _
    XT := Rm.Room.setOther (Rm.Room.setOther (Rm.Room.setOther (Rm.Room.setOther (Rm.Room.setOther (Rm.Room.setOther (Rm.Room.setOther (Rm.Room.setOther (Rm.Room.setOther (z.XT) (by omega) 0 _) (by omega) 1 _) (by omega) 2 _) (by omega) 3 _) (by omega) 4 _) (by omega) 5 _) (by omega) 6 _) (by omega) 7 _) (by omega) 8 _
    K := hK.kp k2, O := hO.kp k2, D := z.D.kp k1, E := z.E.kp k1, L := z.L.kp k1, F := z.F.kp k1, R := z.R.kp k1
    b1 := ⟨h1.1, h1.2.1, h1.2.2.1, h1.2.2.2.1, by omega⟩, b2 := ⟨by omega, by omega⟩, b3 := ⟨by simpa [World.setCell] using e2, by simpa [World.setCell] using z.b3.2⟩ }
theorem RI.of_has {w : World} {B lo hi g n : Nat} {zs : List Int} (h : Has w B g 0 n zs) (hl : lo ≤ g) (hg : g < hi) : RI w lo hi (some ⟨g, 0, none⟩) n :=
  .inr ⟨g, 0, rfl, hl, hg, fun j hj => ⟨⟨_, h.2.2.2.1 j hj⟩, h.2.2.2.2 j hj⟩⟩
/-- What is known of a world and of a turn that were drawn. -/
def AT (B0 : Nat) (w : World) (aK : Option Addr) (k : Nat) (aO : Option Addr) (m : Nat) (aD : Option Addr) (j : Nat) (aE : Option Addr) (nE : Nat) (aL aF aR : Option Addr) : Prop :=
  ∃ lo hi lk hk, (RI w lk hk aK k ∧ RI w lk hk aO m ∧ RI w lo hi aD j ∧ RR w lo hi aE nE j ∧ RR w lo hi aL j j ∧ RB w lo hi aF j ∧ RB w lo hi aR j) ∧ (hk ≤ w.heap.size ∧ hi ≤ w.heap.size) ∧ (B0 ≤ lo ∧ B0 ≤ lk) ∧ k ≤ 17 ∧ m ≤ 17 ∧ j ≤ 16 ∧ nE ≤ 16 ∧ 0 < k
end
set_option maxHeartbeats 16000000 in
set_option maxRecDepth 100000 in
theorem drawAny (B p : Nat) (a : Option Addr) (len cap : Nat) (w0 w : World) (st : St w0 B p a len cap w) :
    Calls Tryz.prog 53 #[.pointer (some ⟨p, 0, none⟩)] w fun e w' => (∃ (n l d r q s t : Int) (aK : Option Addr) (k cK : Nat) (aO : Option Addr) (m cO : Nat) (aD : Option Addr) (j cD : Nat) (aE : Option Addr) (nE cE : Nat) (aL : Option Addr) (cL : Nat) (aF : Option Addr) (cF : Nat) (aR : Option Addr) (cR : Nat), e = .returned (.tuple #[wld n l d r q s (.slice aK k cK) (.slice aO m cO) t, trn (.slice aD j cD) (.slice aE nE cE) (.slice aL j cL) (.slice aF j cF) (.slice aR j cR)]) ∧ AT w.heap.size w' aK k aO m aD j aE nE aL aF aR) ∧ St w0 B p a len cap w' ∧ Dr.Step p w w'  := by
  have hpl := st.lt
  have hle := st.le
  have h0w := st.step.size
  have RW0 := (Rm.Room.new w z9 31).alloc (.cells Z5.toArray 37)
  have RZ0 : Rm.Room ((w.alloc (.cells z9.toArray 31)).alloc (.cells Z5.toArray 37)) (w.heap.size + 1) Z5 := Rm.Room.at _ Z5 37 _ (by simp)
  have stA : St w0 B p a len cap ((w.alloc (.cells z9.toArray 31)).alloc (.cells Z5.toArray 37)) := (st.obj _).obj _
  have spA : Dr.Step p w ((w.alloc (.cells z9.toArray 31)).alloc (.cells Z5.toArray 37)) := ((Dr.Step.refl p w).alloc _).alloc _
  have hzA : ((w.alloc (.cells z9.toArray 31)).alloc (.cells Z5.toArray 37)).heap.size = w.heap.size + 2 := by simp
  go_enter Tryz.func53, Tryz.ntmps53
  go_wp2_with fail
  refine (Dr.l5Draw w0 B p a len cap _ stA).mono ?_
  rintro e w1 ⟨⟨n, l, d, r, q, s, k, gK, cK, gO, cO, rfl, HD⟩, st1, s1⟩
  obtain ⟨⟨ks, os, pK, pO⟩, k0, k1, nKO, dd, rr⟩ := HD.out
  clear HD stA
  rw [hzA] at pK pO
  have z1 := s1.size
  rw [hzA] at z1
  clear hzA
  replace RW0 := rm_step RW0 s1 (by omega) (by decide)
  replace RZ0 := rm_step RZ0 s1 (by omega) (by decide)
  have sp1 := spA.trans s1
  clear spA s1
  have RX := Rm.Room.new w1 [.int .i64 n, .int .i64 l, .int .i64 d, .int .i64 r, .int .i64 q, .int .i64 s, .slice (some ⟨gK, 0, none⟩) k cK, .slice (some ⟨gO, 0, none⟩) k cO, .int .i64 0] 31
  have b1 : Below w1.heap.size w1 (w1.alloc (.cells #[.int .i64 n, .int .i64 l, .int .i64 d, .int .i64 r, .int .i64 q, .int .i64 s, .slice (some ⟨gK, 0, none⟩) k cK, .slice (some ⟨gO, 0, none⟩) k cO, .int .i64 0] 31)) := (Below.refl _ w1).alloc (Nat.le_refl _) _
  have uK := pK.2.2.1
  have uO := pO.lt
  have lK := pK.2.1
  have lO := pO.data.2.1
  have st2 := st1.below b1
  replace pK := pK.later b1 uK
  replace pO := pO.later b1 uO
  replace RW0 := RW0.below b1
  replace RZ0 := RZ0.below b1
  have sp2 := step_cut sp1 b1 sp1.size
  have z2 : w1.heap.size < (w1.alloc (.cells #[.int .i64 n, .int .i64 l, .int .i64 d, .int .i64 r, .int .i64 q, .int .i64 s, .slice (some ⟨gK, 0, none⟩) k cK, .slice (some ⟨gO, 0, none⟩) k cO, .int .i64 0] 31)).heap.size := RX.lt (by simp)
  clear st1 sp1 b1
  go_wp2_with fail
  generalize (w1.alloc (.cells #[.int .i64 n, .int .i64 l, .int .i64 d, .int .i64 r, .int .i64 q, .int .i64 s, .slice (some ⟨gK, 0, none⟩) k cK, .slice (some ⟨gO, 0, none⟩) k cO, .int .i64 0] 31)) = w2 at RX RW0 RZ0 st2 pK pO sp2 z2 ⊢
  refine (draw B p a len cap n l d r q s 0 _ gK k cK (some ⟨gO, 0, none⟩) k cO ks w0 w2 st2 pK (by omega) dd.1 dd.2 rr.1 rr.2 k1).mono ?_
  rintro e w3 ⟨⟨gD, cD, gF, gR, cE, cL, aE, aL, rfl, ds, es, ls, fs, rs, HT⟩, st3, s3⟩
  obtain ⟨HT, -, -⟩ := HT
  obtain ⟨gE, cE, eE, rE, hcE⟩ := RR.of HT.E k0
  cases eE
  obtain ⟨gL, cL, eL, rL, -⟩ := RR.of HT.L k0
  cases eL
  have rD := RI.of HT.D HT.D.lt
  have rF := RB.of HT.F HT.F.2.2.1
  have rR := RB.of HT.R HT.R.2.2.1
  have lD := HT.D.data.2.1
  have uD := HT.D.lt
  clear HT
  have z3 := s3.size
  have kK : Kp (w.heap.size + 2) w1.heap.size w2 w3 := Kp.step s3 (by omega) (by omega)
  have rK := (RI.of_has pK lK uK).kp kK
  have rO := (RI.of pO uO).kp kK
  clear pK pO kK
  replace RX := rm_step RX s3 (by omega) (by simp)
  replace RW0 := rm_step RW0 s3 (by omega) (by decide)
  replace RZ0 := rm_step RZ0 s3 (by omega) (by decide)
  have sp3 := sp2.trans s3
  clear s3 sp2 st2
  have RY := Rm.Room.new w3 [.slice (some ⟨gD, 0, none⟩) k cD, .slice (some ⟨gE, 0, none⟩) k cE, .slice (some ⟨gL, 0, none⟩) k cL, .slice (some ⟨gF, 0, none⟩) k k, .slice (some ⟨gR, 0, none⟩) k k] 37
  have b4 : Below w3.heap.size w3 (w3.alloc (.cells #[.slice (some ⟨gD, 0, none⟩) k cD, .slice (some ⟨gE, 0, none⟩) k cE, .slice (some ⟨gL, 0, none⟩) k cL, .slice (some ⟨gF, 0, none⟩) k k, .slice (some ⟨gR, 0, none⟩) k k] 37)) := (Below.refl _ w3).alloc (Nat.le_refl _) _
  have q4 : Kp (w2.heap.size + 2) w3.heap.size w3 _ := Kp.below b4 (Nat.le_refl _)
  have q5 : Kp (w.heap.size + 2) w1.heap.size w3 _ := Kp.below b4 (by omega)
  have z : Za w0 w B p a len cap w1.heap.size w3.heap.size (w2.heap.size + 2) w3.heap.size (w.heap.size + 2) w1.heap.size n l d r q s 0 (some ⟨gK, 0, none⟩) k cK (some ⟨gO, 0, none⟩) k cO (some ⟨gD, 0, none⟩) k cD (some ⟨gE, 0, none⟩) k cE (some ⟨gL, 0, none⟩) cL (some ⟨gF, 0, none⟩) k (some ⟨gR, 0, none⟩) k _ := ⟨st3.below b4, step_cut sp3 b4 sp3.size, RW0.below b4, RZ0.below b4, RX.below b4, RY, rK.kp q5, rO.kp q5, rD.kp q4, rE.kp q4, rL.kp q4, rF.kp q4, rR.kp q4, ⟨by omega, by omega, by omega, by omega, by omega⟩, ⟨by omega, by omega⟩, ⟨by have := b4.size; omega, b4.size⟩⟩
  clear st3 sp3 RW0 RZ0 RX RY rK rO rD rE rL rF rR q4 q5
  go_wp2_with fail
  generalize (w3.alloc (.cells #[.slice (some ⟨gD, 0, none⟩) k cD, .slice (some ⟨gE, 0, none⟩) k cE, .slice (some ⟨gL, 0, none⟩) k cL, .slice (some ⟨gF, 0, none⟩) k k, .slice (some ⟨gR, 0, none⟩) k k] 37)) = w4 at z b4 ⊢
  refine (Dr.l1Once' w0 B p a len cap 20 (by omega) (by omega) _ z.st).mono ?_
  rintro e w5 ⟨⟨tb, rfl⟩, bs, b⟩
  replace z := z.step hpl b ⟨bs.cur, b⟩
  clear bs b b4
  obtain ⟨gX, hgX⟩ : ∃ x, x = w1.heap.size := ⟨_, rfl⟩
  obtain ⟨gY, hgY⟩ : ∃ x, x = w3.heap.size := ⟨_, rfl⟩
  obtain ⟨lo, hlo⟩ : ∃ x, x = w2.heap.size + 2 := ⟨_, rfl⟩
  rw [← hgX, ← hgY, ← hlo] at z
  rw [← hgX, ← hgY]
  clear hgX hgY hlo z1 z2 z3 lD uD lK lO uK uO
  obtain ⟨gH, hgH⟩ : ∃ x, x = gY := ⟨_, rfl⟩
  go_upto_if 13 with fail
  go_cut [4] from 7 (fun p4 wc => ∃ (n l d r q s t : Int) (aK : Option Addr) (k' cK : Nat) (aO : Option Addr) (m cO lk hk : Nat), p4 = .pointer (some ⟨gX, 0, none⟩) ∧ Hid (Za w0 w B p a len cap gX gY lo gY lk hk n l d r q s t aK k' cK aO m cO (some ⟨gD, 0, none⟩) k cD (some ⟨gE, 0, none⟩) k cE (some ⟨gL, 0, none⟩) cL (some ⟨gF, 0, none⟩) k (some ⟨gR, 0, none⟩) k wc ∧ k' ≤ 17 ∧ m ≤ 17 ∧ 0 < k'))
  case first =>
    cases tb with
    | false =>
      go_wp2_with fail
      go_meet
      case rel => exact ⟨_, _, _, _, _, _, _, _, _, _, _, _, _, _, _, rfl, z, by omega, by omega, by omega⟩
    | true =>
      go_wp2_with fail
      have hz5 := z.XT.lt (by simp)
      refine (Dr.l5DrawAny w0 B p a len cap _ z.st).mono ?_
      rintro e w6 ⟨⟨n2, l2, d2, r2, q2, s2, t2, k2, gK2, cK2, m2, gO2, cO2, rfl, HD⟩, bs, b⟩
      obtain ⟨⟨ks2, os2, pK, pO⟩, m0, m1, k2b, k2c⟩ := HD.out
      clear HD
      replace z := z.step hpl b ⟨bs.cur, b⟩
      clear bs b
      have e0 := z.XW.cell 0 rfl
      have e1 := z.XW.cell 1 rfl
      have e2 := z.XW.cell 2 rfl
      have e3 := z.XW.cell 3 rfl
      have e4 := z.XW.cell 4 rfl
      have e5 := z.XW.cell 5 rfl
      have e6 := z.XW.cell 6 rfl
      have e7 := z.XW.cell 7 rfl
      have e8 := z.XW.cell 8 rfl
      have f0 := z.XW.froz 0 rfl
      have f1 := z.XW.froz 1 rfl
      have f2 := z.XW.froz 2 rfl
      have f3 := z.XW.froz 3 rfl
      have f4 := z.XW.froz 4 rfl
      have f5 := z.XW.froz 5 rfl
      have f6 := z.XW.froz 6 rfl
      have f7 := z.XW.froz 7 rfl
      have f8 := z.XW.froz 8 rfl
      go_wp2_with fail
      clear e0 f0 e1 f1 e2 f2 e3 f3 e4 f4 e5 f5 e6 f6 e7 f7 e8 f8
      have z6 := z.setW hpl hle h0w (RI.of_has pK pK.2.1 pK.2.2.1) (RI.of pO pO.lt) hz5 (Nat.le_refl _) (n' := n2) (l' := l2) (d' := d2) (r' := r2) (q' := q2) (s' := s2) (t' := t2) (cK' := cK2) (cO' := cO2)
      go_meet
      case rel => exact ⟨_, _, _, _, _, _, _, _, _, _, _, _, _, _, _, rfl, z6, by omega, by omega, by omega⟩
  case rest =>
    clear z
    obtain ⟨n, l, d, r, q, s, t, aK, k', cK, aO, m, cO, lk, hk, rfl, H⟩ := hcut
    obtain ⟨z, k17, m17, kp0⟩ := H.out
    clear H
    go_wp2_with fail
    refine (Dr.l1Once' w0 B p a len cap 6 (by omega) (by omega) _ z.st).mono ?_
    rintro e w5 ⟨⟨tb, rfl⟩, bs, b⟩
    replace z := z.step hpl b ⟨bs.cur, b⟩
    clear bs b
    go_upto_if 17 with fail
    go_cut [6] from 18 (fun _ wc => ∃ (aE : Option Addr) (nE cE : Nat), Hid (Za w0 w B p a len cap gX gY lo gY lk hk n l d r q s t aK k' cK aO m cO (some ⟨gD, 0, none⟩) k cD aE nE cE (some ⟨gL, 0, none⟩) cL (some ⟨gF, 0, none⟩) k (some ⟨gR, 0, none⟩) k wc ∧ nE ≤ 16))
    case first =>
      cases tb with
      | false =>
        go_wp2_with fail
        go_meet
        case rel => exact ⟨_, _, _, z, by omega⟩
      | true =>
        have c0 := z.XT.cell 0 rfl
        go_wp2_with fail
        clear c0
        refine (Dr.l1Below' w0 B p a len cap k (by omega) (by omega) _ z.st).mono ?_
        rintro e w6 ⟨⟨i, rfl, i0, i1⟩, bs, b⟩
        replace z := z.step hpl b ⟨bs.cur, b⟩
        clear bs b
        obtain ⟨ii, rfl⟩ := Int.eq_ofNat_of_zero_le i0
        have hii : ii < k := by omega
        have hi4 : (ii : Int) < (k : Int) := by omega
        go_wp2_with fail
        refine (Dr.l1Below' w0 B p a len cap 6 (by omega) (by omega) _ z.st).mono ?_
        rintro e w7 ⟨⟨y, rfl, y0, y1⟩, bs, b⟩
        replace z := z.step hpl b ⟨bs.cur, b⟩
        clear bs b
        by_cases h0 : y = 0
        · subst h0
          go_wp2_with fail
          refine wp_region_noPanic ?_
          refine wp_region_held_drew (S := (fun w' => w'.cell? ⟨gY, 0, none⟩ = some (.slice (some ⟨gD, 0, none⟩) k cD) ∧ w'.cell? ⟨gX, 2, none⟩ = some (.int .i64 d))) (by kernel_rfl) ⟨(z.drew hpl).XT.cell 0 rfl, (z.drew hpl).XW.cell 2 rfl⟩ (fun hHeld => ?_)
          replace z := z.drew hpl
          generalize w7.drew = wd at hHeld z ⊢
          refine Tk.W 0 (some 27) (.fieldAddr 37 (.tmp 5) 0) 0 none ?_
          refine Tk.W 1 (some 28) (.load 29 (.tmp 27)) 29 none ?_
          refine Tk.W 2 (some 29) (.move (.tmp 6)) 2 none ?_
          refine Tk.W 3 (some 30) (.fieldAddr 31 (.tmp 4) 0) 0 none ?_
          refine Tk.W 4 (some 31) (.fieldAddr 28 (.tmp 30) 2) 0 none ?_
          refine Tk.W 5 (some 32) (.load 2 (.tmp 31)) 2 none ?_
          refine Tk.W 6 (some 33) (.move (.tmp 0)) 83 none ?_
          refine Tk.R 7 (some 34) (.call ⟨.value (.func 95), #[.tmp 33, .const (.int .i64 2)], #[83, 2]⟩) 2 none (fun K hK => ?_)
          go_simp
          refine (Dr.l1Below' w0 B p a len cap 2 (by omega) (by omega) _ z.st).mono ?_
          rintro e wB ⟨⟨x, rfl, x0, x1⟩, bs, b⟩
          replace z := z.step hpl b ⟨bs.cur, b⟩
          clear bs b
          obtain ⟨V, hV⟩ : ∃ V, IntKind.i64.wrap (d + x) = V := ⟨_, rfl⟩
          refine hK.out _ _ ⟨z.XT.cell 0 rfl, z.XW.cell 2 rfl⟩ ?_; clear hK K hHeld; intro hHeld; try simp only [Act.put, List.setIfInBounds_toArray, List.set_cons_zero, List.set_cons_succ]
          refine Tk.W 8 (some 35) (.binOp .add 2 (.tmp 32) (.tmp 34) 2) 2 none ?_
          refine Tk.W 9 (some 36) (.indexAddr 29 (.tmp 28) (.tmp 29)) 0 none ?_
          refine Tk.R 10 none (.store 2 (.tmp 36) (.tmp 35)) 0 none (fun K hK => ?_)
          have hq := z.D.at hii
          obtain ⟨⟨⟨y_, hc⟩, hf⟩, hl, hh⟩ := id hq
          rw [Nat.zero_add] at hc hf hq
          go_simp
          clear hc hf
          replace z := z.putI hpl hle h0w hq.1 hl hh V
          refine hK.out _ _ ⟨z.XT.cell 0 rfl, z.XW.cell 2 rfl⟩ ?_; clear hK K hHeld; intro hHeld; try simp only [Act.put, List.setIfInBounds_toArray, List.set_cons_zero, List.set_cons_succ]
          refine wpAnyH_done (by decide +kernel) ?_ _
          refine NoPanic.normal ?_
          clear hHeld
          go_wp2_with fail
          go_meet
          case rel => exact ⟨_, _, _, z, by omega⟩
        · have n0 : (y == 0) = false := by simp; omega
          by_cases h1 : y = 1
          · subst h1
            obtain ⟨g1, o1, c1, ⟨hce, hic⟩, ⟨lE_, hE_⟩, l1_, h1_⟩ := z.E.at hii (by omega)
            rw [Nat.zero_add] at hce
            go_wp2_with fail
            refine wp_region_noPanic ?_
            refine wp_region_held_drew (S := (fun w' => w'.cell? ⟨gY, 1, none⟩ = some (.slice (some ⟨gE, 0, none⟩) k cE) ∧ w'.cell? ⟨gE, ii, none⟩ = some (.slice (some ⟨g1, o1, none⟩) k c1) ∧ w'.cell? ⟨gX, 3, none⟩ = some (.int .i64 r))) (by kernel_rfl) ⟨(z.drew hpl).XT.cell 1 rfl, hce, (z.drew hpl).XW.cell 3 rfl⟩ (fun hHeld => ?_)
            replace z := z.drew hpl
            replace hce : w7.drew.cell? ⟨gE, ii, none⟩ = some (.slice (some ⟨g1, o1, none⟩) k c1) := hce
            replace hic : IC w7.drew ⟨g1, o1, none⟩ := hic
            generalize w7.drew = wd at hHeld z hce hic ⊢
            refine Tk.W 0 (some 39) (.fieldAddr 37 (.tmp 5) 1) 0 none ?_
            refine Tk.W 1 (some 40) (.load 34 (.tmp 39)) 34 none ?_
            refine Tk.W 2 (some 41) (.move (.tmp 6)) 2 none ?_
            refine Tk.W 3 (some 42) (.indexAddr 34 (.tmp 40) (.tmp 41)) 0 none ?_
            refine Tk.W 4 (some 43) (.load 29 (.tmp 42)) 29 none ?_
            refine Tk.W 5 (some 44) (.fieldAddr 31 (.tmp 4) 0) 0 none ?_
            refine Tk.W 6 (some 45) (.fieldAddr 28 (.tmp 44) 3) 0 none ?_
            refine Tk.W 7 (some 46) (.load 2 (.tmp 45)) 2 none ?_
            refine Tk.W 8 (some 47) (.unOp .neg 2 (.tmp 46)) 2 none ?_
            refine Tk.W 9 (some 48) (.move (.tmp 0)) 83 none ?_
            refine Tk.R 10 (some 49) (.call ⟨.value (.func 95), #[.tmp 48, .const (.int .i64 2)], #[83, 2]⟩) 2 none (fun K hK => ?_)
            go_simp
            have b3 := z.b3
            refine (Dr.l1Below' w0 B p a len cap 2 (by omega) (by omega) _ z.st).mono ?_
            rintro e wB ⟨⟨x, rfl, x0, x1⟩, bs, b⟩
            replace hce := (b.cell (o := ii) (show gE < _ by have := z.b1; omega) (by have := z.b1; omega)).trans hce
            replace hic := hic.step b (by omega) (by have := z.b1; omega)
            replace z := z.step hpl b ⟨bs.cur, b⟩
            clear bs b b3
            obtain ⟨V, hV⟩ : ∃ V, IntKind.i64.wrap (IntKind.i64.wrap (-r) - x) = V := ⟨_, rfl⟩
            refine hK.out _ _ ⟨z.XT.cell 1 rfl, hce, z.XW.cell 3 rfl⟩ ?_; clear hK K hHeld; intro hHeld; try simp only [Act.put, List.setIfInBounds_toArray, List.set_cons_zero, List.set_cons_succ]
            refine Tk.W 11 (some 50) (.binOp .sub 2 (.tmp 47) (.tmp 49) 2) 2 none ?_
            refine Tk.W 12 (some 51) (.indexAddr 29 (.tmp 43) (.const (.int .i64 0))) 0 none ?_
            refine Tk.R 13 none (.store 2 (.tmp 51) (.tmp 50)) 0 none (fun K hK => ?_)
            obtain ⟨⟨y_, hc⟩, hf⟩ := id hic
            go_simp
            clear hc hf
            replace hce := sl_putI hic V hce (fun z e => by cases e)
            replace z := z.putI hpl hle h0w hic l1_ h1_ V
            clear hic
            refine hK.out _ _ ⟨z.XT.cell 1 rfl, hce, z.XW.cell 3 rfl⟩ ?_; clear hK K hHeld; intro hHeld; try simp only [Act.put, List.setIfInBounds_toArray, List.set_cons_zero, List.set_cons_succ]
            refine wpAnyH_done (by decide +kernel) ?_ _
            refine NoPanic.normal ?_
            clear hHeld
            go_wp2_with fail
            go_meet
            case rel => exact ⟨_, _, _, z, by omega⟩
          · have n1 : (y == 1) = false := by simp; omega
            by_cases h2 : y = 2
            · subst h2
              obtain ⟨g1, o1, c1, ⟨hce, hic⟩, ⟨lE_, hE_⟩, l1_, h1_⟩ := z.L.at hii (by omega)
              rw [Nat.zero_add] at hce
              go_wp2_with fail
              refine wp_region_noPanic ?_
              refine wp_region_held_drew (S := (fun w' => w'.cell? ⟨gY, 2, none⟩ = some (.slice (some ⟨gL, 0, none⟩) k cL) ∧ w'.cell? ⟨gL, ii, none⟩ = some (.slice (some ⟨g1, o1, none⟩) k c1))) (by kernel_rfl) ⟨(z.drew hpl).XT.cell 2 rfl, hce⟩ (fun hHeld => ?_)
              replace z := z.drew hpl
              replace hce : w7.drew.cell? ⟨gL, ii, none⟩ = some (.slice (some ⟨g1, o1, none⟩) k c1) := hce
              replace hic : IC w7.drew ⟨g1, o1, none⟩ := hic
              generalize w7.drew = wd at hHeld z hce hic ⊢
              refine Tk.W 0 (some 54) (.fieldAddr 37 (.tmp 5) 2) 0 none ?_
              refine Tk.W 1 (some 55) (.load 34 (.tmp 54)) 34 none ?_
              refine Tk.W 2 (some 56) (.move (.tmp 6)) 2 none ?_
              refine Tk.W 3 (some 57) (.indexAddr 34 (.tmp 55) (.tmp 56)) 0 none ?_
              refine Tk.W 4 (some 58) (.load 29 (.tmp 57)) 29 none ?_
              refine Tk.W 5 (some 59) (.move (.tmp 0)) 83 none ?_
              refine Tk.R 6 (some 60) (.call ⟨.value (.func 95), #[.tmp 59, .const (.int .i64 2)], #[83, 2]⟩) 2 none (fun K hK => ?_)
              go_simp
              have b3 := z.b3
              refine (Dr.l1Below' w0 B p a len cap 2 (by omega) (by omega) _ z.st).mono ?_
              rintro e wB ⟨⟨x, rfl, x0, x1⟩, bs, b⟩
              replace hce := (b.cell (o := ii) (show gL < _ by have := z.b1; omega) (by have := z.b1; omega)).trans hce
              replace hic := hic.step b (by omega) (by have := z.b1; omega)
              replace z := z.step hpl b ⟨bs.cur, b⟩
              clear bs b b3
              obtain ⟨V, hV⟩ : ∃ V, IntKind.i64.wrap (1000000000000000 + x) = V := ⟨_, rfl⟩
              refine hK.out _ _ ⟨z.XT.cell 2 rfl, hce⟩ ?_; clear hK K hHeld; intro hHeld; try simp only [Act.put, List.setIfInBounds_toArray, List.set_cons_zero, List.set_cons_succ]
              refine Tk.W 7 (some 61) (.binOp .add 2 (.const (.int .i64 1000000000000000)) (.tmp 60) 2) 2 none ?_
              refine Tk.W 8 (some 62) (.indexAddr 29 (.tmp 58) (.const (.int .i64 0))) 0 none ?_
              refine Tk.R 9 none (.store 2 (.tmp 62) (.tmp 61)) 0 none (fun K hK => ?_)
              obtain ⟨⟨y_, hc⟩, hf⟩ := id hic
              go_simp
              clear hc hf
              replace hce := sl_putI hic V hce (fun z e => by cases e)
              replace z := z.putI hpl hle h0w hic l1_ h1_ V
              clear hic
              refine hK.out _ _ ⟨z.XT.cell 2 rfl, hce⟩ ?_; clear hK K hHeld; intro hHeld; try simp only [Act.put, List.setIfInBounds_toArray, List.set_cons_zero, List.set_cons_succ]
              refine wpAnyH_done (by decide +kernel) ?_ _
              refine NoPanic.normal ?_
              clear hHeld
              go_wp2_with fail
              go_meet
              case rel => exact ⟨_, _, _, z, by omega⟩
            · have n2 : (y == 2) = false := by simp; omega
              by_cases h3 : y = 3
              · subst h3
                have c4 := z.XT.cell 3 rfl
                have hq := z.F.at hii
                obtain ⟨⟨⟨y_, hc⟩, hf⟩, hl, hh⟩ := id hq
                rw [Nat.zero_add] at hc hf hq
                go_wp2_with fail
                clear c4 hc hf
                replace z := z.putB hpl hle h0w hq.1 hl hh true
                go_meet
                case rel => exact ⟨_, _, _, z, by omega⟩
              · have n3 : (y == 3) = false := by simp; omega
                by_cases h4 : y = 4
                · subst h4
                  have c4 := z.XT.cell 4 rfl
                  have hq := z.R.at hii
                  obtain ⟨⟨⟨y_, hc⟩, hf⟩, hl, hh⟩ := id hq
                  rw [Nat.zero_add] at hc hf hq
                  go_wp2_with fail
                  clear c4 hc hf
                  replace z := z.putB hpl hle h0w hq.1 hl hh true
                  go_meet
                  case rel => exact ⟨_, _, _, z, by omega⟩
                · have n4 : (y == 4) = false := by simp; omega
                  have h5 : y = 5 := by omega
                  subst h5
                  obtain ⟨kk, hkk⟩ : ∃ kk, k = kk + 1 := ⟨k - 1, by omega⟩
                  have c1 := z.XT.cell 1 rfl
                  have f1 := z.XT.froz 1 rfl
                  have hk1 : (1 : Int) ≤ (k : Int) := by omega
                  have q : RR w7 lo gY (some ⟨gE, 0, none⟩) (kk + 1) k := by rw [← hkk]; exact z.E
                  by_cases hc1 : cE = 1
                  · have hk9 : kk = 0 := by omega
                    replace z := z.setE hpl hle h0w (aE' := some ⟨gE, 0, none⟩) (nE' := 0) (cE' := 0) (.inl rfl)
                    go_wp2_with fail
                    go_meet
                    case rel => exact ⟨_, _, _, z, by omega⟩
                  · replace z := z.setE hpl hle h0w (cE' := cE - 1) q.tail
                    go_wp2_with fail
                    go_meet
                    case rel => exact ⟨_, _, _, z, by omega⟩
    case rest =>
      clear z
      obtain ⟨aE, nE, cE, H⟩ := hcut
      obtain ⟨z, n16⟩ := H.out
      clear H
      go_wp2_with fail
      refine wp_region_noPanic ?_
      refine wp_region_held_drew (S := (fun w' => w'.cell? ⟨gX, 0, none⟩ = some (.int .i64 n) ∧ w'.cell? ⟨gX, 1, none⟩ = some (.int .i64 l) ∧ w'.cell? ⟨gX, 2, none⟩ = some (.int .i64 d) ∧ w'.cell? ⟨gX, 3, none⟩ = some (.int .i64 r) ∧ w'.cell? ⟨gX, 4, none⟩ = some (.int .i64 q) ∧ w'.cell? ⟨gX, 5, none⟩ = some (.int .i64 s) ∧ w'.cell? ⟨gX, 6, none⟩ = some (.slice aK k' cK) ∧ w'.cell? ⟨gX, 7, none⟩ = some (.slice aO m cO) ∧ w'.cell? ⟨gX, 8, none⟩ = some (.int .i64 t) ∧ w'.cell? ⟨gY, 0, none⟩ = some (.slice (some ⟨gD, 0, none⟩) k cD) ∧ w'.cell? ⟨gY, 1, none⟩ = some (.slice aE nE cE) ∧ w'.cell? ⟨gY, 2, none⟩ = some (.slice (some ⟨gL, 0, none⟩) k cL) ∧ w'.cell? ⟨gY, 3, none⟩ = some (.slice (some ⟨gF, 0, none⟩) k k) ∧ w'.cell? ⟨gY, 4, none⟩ = some (.slice (some ⟨gR, 0, none⟩) k k))) (by kernel_rfl) ⟨(z.drew hpl).XW.cell 0 rfl, (z.drew hpl).XW.cell 1 rfl, (z.drew hpl).XW.cell 2 rfl, (z.drew hpl).XW.cell 3 rfl, (z.drew hpl).XW.cell 4 rfl, (z.drew hpl).XW.cell 5 rfl, (z.drew hpl).XW.cell 6 rfl, (z.drew hpl).XW.cell 7 rfl, (z.drew hpl).XW.cell 8 rfl, (z.drew hpl).XT.cell 0 rfl, (z.drew hpl).XT.cell 1 rfl, (z.drew hpl).XT.cell 2 rfl, (z.drew hpl).XT.cell 3 rfl, (z.drew hpl).XT.cell 4 rfl⟩ (fun hHeld => ?_)
      replace z := z.drew hpl
      generalize wc.drew = wd at hHeld z ⊢
      obtain ⟨zst, zsp, zR, zT, zX, zY, zK, zO, zD, zE, zL, zF, zRr, zb1, zb2, zb3⟩ := z
      obtain ⟨b1_, b2_, b3_, b4_, b5_⟩ := zb1
      obtain ⟨c1_, c2_⟩ := zb2
      refine Tk.W 0 (some 81) (.load 31 (.tmp 4)) 31 none ?_
      refine Tk.W 1 (some 82) (.load 37 (.tmp 5)) 37 none ?_
      refine Tk.R 2 none (.store 31 (.tmp 2) (.tmp 81)) 0 none (fun K hK => ?_)
      have e0 := zR.cell 0 rfl
      have e1 := zR.cell 1 rfl
      have e2 := zR.cell 2 rfl
      have e3 := zR.cell 3 rfl
      have e4 := zR.cell 4 rfl
      have e5 := zR.cell 5 rfl
      have e6 := zR.cell 6 rfl
      have e7 := zR.cell 7 rfl
      have e8 := zR.cell 8 rfl
      have f0 := zR.froz 0 rfl
      have f1 := zR.froz 1 rfl
      have f2 := zR.froz 2 rfl
      have f3 := zR.froz 3 rfl
      have f4 := zR.froz 4 rfl
      have f5 := zR.froz 5 rfl
      have f6 := zR.froz 6 rfl
      have f7 := zR.froz 7 rfl
      have f8 := zR.froz 8 rfl
      go_simp
      clear e0 f0 e1 f1 e2 f2 e3 f3 e4 f4 e5 f5 e6 f6 e7 f7 e8 f8
      have z9_ := Rm.Room.set (Rm.Room.set (Rm.Room.set (Rm.Room.set (Rm.Room.set (Rm.Room.set (Rm.Room.set (Rm.Room.set (Rm.Room.set (zR) 0 (.int .i64 n)) 1 (.int .i64 l)) 2 (.int .i64 d)) 3 (.int .i64 r)) 4 (.int .i64 q)) 5 (.int .i64 s)) 6 (.slice aK k' cK)) 7 (.slice aO m cO)) 8 (.int .i64 t)
      have t9 := Rm.Room.setOther (q := w.heap.size) (Rm.Room.setOther (q := w.heap.size) (Rm.Room.setOther (q := w.heap.size) (Rm.Room.setOther (q := w.heap.size) (Rm.Room.setOther (q := w.heap.size) (Rm.Room.setOther (q := w.heap.size) (Rm.Room.setOther (q := w.heap.size) (Rm.Room.setOther (q := w.heap.size) (Rm.Room.setOther (q := w.heap.size) (zT) (by omega) 0 (.int .i64 n)) (by omega) 1 (.int .i64 l)) (by omega) 2 (.int .i64 d)) (by omega) 3 (.int .i64 r)) (by omega) 4 (.int .i64 q)) (by omega) 5 (.int .i64 s)) (by omega) 6 (.slice aK k' cK)) (by omega) 7 (.slice aO m cO)) (by omega) 8 (.int .i64 t)
      have x9 := Rm.Room.setOther (q := w.heap.size) (Rm.Room.setOther (q := w.heap.size) (Rm.Room.setOther (q := w.heap.size) (Rm.Room.setOther (q := w.heap.size) (Rm.Room.setOther (q := w.heap.size) (Rm.Room.setOther (q := w.heap.size) (Rm.Room.setOther (q := w.heap.size) (Rm.Room.setOther (q := w.heap.size) (Rm.Room.setOther (q := w.heap.size) (zX) (by omega) 0 (.int .i64 n)) (by omega) 1 (.int .i64 l)) (by omega) 2 (.int .i64 d)) (by omega) 3 (.int .i64 r)) (by omega) 4 (.int .i64 q)) (by omega) 5 (.int .i64 s)) (by omega) 6 (.slice aK k' cK)) (by omega) 7 (.slice aO m cO)) (by omega) 8 (.int .i64 t)
      have y9 := Rm.Room.setOther (q := w.heap.size) (Rm.Room.setOther (q := w.heap.size) (Rm.Room.setOther (q := w.heap.size) (Rm.Room.setOther (q := w.heap.size) (Rm.Room.setOther (q := w.heap.size) (Rm.Room.setOther (q := w.heap.size) (Rm.Room.setOther (q := w.heap.size) (Rm.Room.setOther (q := w.heap.size) (Rm.Room.setOther (q := w.heap.size) (zY) (by omega) 0 (.int .i64 n)) (by omega) 1 (.int .i64 l)) (by omega) 2 (.int .i64 d)) (by omega) 3 (.int .i64 r)) (by omega) 4 (.int .i64 q)) (by omega) 5 (.int .i64 s)) (by omega) 6 (.slice aK k' cK)) (by omega) 7 (.slice aO m cO)) (by omega) 8 (.int .i64 t)
      have st9 := Dr.St.setNew (q := w.heap.size) (Dr.St.setNew (q := w.heap.size) (Dr.St.setNew (q := w.heap.size) (Dr.St.setNew (q := w.heap.size) (Dr.St.setNew (q := w.heap.size) (Dr.St.setNew (q := w.heap.size) (Dr.St.setNew (q := w.heap.size) (Dr.St.setNew (q := w.heap.size) (Dr.St.setNew (q := w.heap.size) (zst) 0 (by omega) (by omega) (by omega) (.int .i64 n)) 1 (by omega) (by omega) (by omega) (.int .i64 l)) 2 (by omega) (by omega) (by omega) (.int .i64 d)) 3 (by omega) (by omega) (by omega) (.int .i64 r)) 4 (by omega) (by omega) (by omega) (.int .i64 q)) 5 (by omega) (by omega) (by omega) (.int .i64 s)) 6 (by omega) (by omega) (by omega) (.slice aK k' cK)) 7 (by omega) (by omega) (by omega) (.slice aO m cO)) 8 (by omega) (by omega) (by omega) (.int .i64 t)
      have sp9 := Dr.Step.setNew (q := w.heap.size) (Dr.Step.setNew (q := w.heap.size) (Dr.Step.setNew (q := w.heap.size) (Dr.Step.setNew (q := w.heap.size) (Dr.Step.setNew (q := w.heap.size) (Dr.Step.setNew (q := w.heap.size) (Dr.Step.setNew (q := w.heap.size) (Dr.Step.setNew (q := w.heap.size) (Dr.Step.setNew (q := w.heap.size) (zsp) 0 (by omega) (.int .i64 n)) 1 (by omega) (.int .i64 l)) 2 (by omega) (.int .i64 d)) 3 (by omega) (.int .i64 r)) 4 (by omega) (.int .i64 q)) 5 (by omega) (.int .i64 s)) 6 (by omega) (.slice aK k' cK)) 7 (by omega) (.slice aO m cO)) 8 (by omega) (.int .i64 t)
      have ka9 := kp9 (lo := lo) (hi := gY) (w' := wd) (g := w.heap.size) (by omega) (.int .i64 n) (.int .i64 l) (.int .i64 d) (.int .i64 r) (.int .i64 q) (.int .i64 s) (.slice aK k' cK) (.slice aO m cO) (.int .i64 t)
      have kb9 := kp9 (lo := lk) (hi := hk) (w' := wd) (g := w.heap.size) (by omega) (.int .i64 n) (.int .i64 l) (.int .i64 d) (.int .i64 r) (.int .i64 q) (.int .i64 s) (.slice aK k' cK) (.slice aO m cO) (.int .i64 t)
      clear zR zT zX zY zst zsp
      refine hK.out _ _ ⟨x9.cell 0 rfl, x9.cell 1 rfl, x9.cell 2 rfl, x9.cell 3 rfl, x9.cell 4 rfl, x9.cell 5 rfl, x9.cell 6 rfl, x9.cell 7 rfl, x9.cell 8 rfl, y9.cell 0 rfl, y9.cell 1 rfl, y9.cell 2 rfl, y9.cell 3 rfl, y9.cell 4 rfl⟩ ?_; clear hK K hHeld; intro hHeld; try simp only [Act.put, List.setIfInBounds_toArray, List.set_cons_zero, List.set_cons_succ]
      refine Tk.R 3 none (.store 37 (.tmp 3) (.tmp 82)) 0 none (fun K hK => ?_)
      have e0 := t9.cell 0 rfl
      have e1 := t9.cell 1 rfl
      have e2 := t9.cell 2 rfl
      have e3 := t9.cell 3 rfl
      have e4 := t9.cell 4 rfl
      have f0 := t9.froz 0 rfl
      have f1 := t9.froz 1 rfl
      have f2 := t9.froz 2 rfl
      have f3 := t9.froz 3 rfl
      have f4 := t9.froz 4 rfl
      go_simp
      clear e0 f0 e1 f1 e2 f2 e3 f3 e4 f4
      have T10 := Rm.Room.set (Rm.Room.set (Rm.Room.set (Rm.Room.set (Rm.Room.set (t9) 0 (.slice (some ⟨gD, 0, none⟩) k cD)) 1 (.slice aE nE cE)) 2 (.slice (some ⟨gL, 0, none⟩) k cL)) 3 (.slice (some ⟨gF, 0, none⟩) k k)) 4 (.slice (some ⟨gR, 0, none⟩) k k)
      have R10 := Rm.Room.setOther (q := w.heap.size + 1) (Rm.Room.setOther (q := w.heap.size + 1) (Rm.Room.setOther (q := w.heap.size + 1) (Rm.Room.setOther (q := w.heap.size + 1) (Rm.Room.setOther (q := w.heap.size + 1) (z9_) (by omega) 0 (.slice (some ⟨gD, 0, none⟩) k cD)) (by omega) 1 (.slice aE nE cE)) (by omega) 2 (.slice (some ⟨gL, 0, none⟩) k cL)) (by omega) 3 (.slice (some ⟨gF, 0, none⟩) k k)) (by omega) 4 (.slice (some ⟨gR, 0, none⟩) k k)
      have x10 := Rm.Room.setOther (q := w.heap.size + 1) (Rm.Room.setOther (q := w.heap.size + 1) (Rm.Room.setOther (q := w.heap.size + 1) (Rm.Room.setOther (q := w.heap.size + 1) (Rm.Room.setOther (q := w.heap.size + 1) (x9) (by omega) 0 (.slice (some ⟨gD, 0, none⟩) k cD)) (by omega) 1 (.slice aE nE cE)) (by omega) 2 (.slice (some ⟨gL, 0, none⟩) k cL)) (by omega) 3 (.slice (some ⟨gF, 0, none⟩) k k)) (by omega) 4 (.slice (some ⟨gR, 0, none⟩) k k)
      have y10 := Rm.Room.setOther (q := w.heap.size + 1) (Rm.Room.setOther (q := w.heap.size + 1) (Rm.Room.setOther (q := w.heap.size + 1) (Rm.Room.setOther (q := w.heap.size + 1) (Rm.Room.setOther (q := w.heap.size + 1) (y9) (by omega) 0 (.slice (some ⟨gD, 0, none⟩) k cD)) (by omega) 1 (.slice aE nE cE)) (by omega) 2 (.slice (some ⟨gL, 0, none⟩) k cL)) (by omega) 3 (.slice (some ⟨gF, 0, none⟩) k k)) (by omega) 4 (.slice (some ⟨gR, 0, none⟩) k k)
      have st10 := Dr.St.setNew (q := w.heap.size + 1) (Dr.St.setNew (q := w.heap.size + 1) (Dr.St.setNew (q := w.heap.size + 1) (Dr.St.setNew (q := w.heap.size + 1) (Dr.St.setNew (q := w.heap.size + 1) (st9) 0 (by omega) (by omega) (by omega) (.slice (some ⟨gD, 0, none⟩) k cD)) 1 (by omega) (by omega) (by omega) (.slice aE nE cE)) 2 (by omega) (by omega) (by omega) (.slice (some ⟨gL, 0, none⟩) k cL)) 3 (by omega) (by omega) (by omega) (.slice (some ⟨gF, 0, none⟩) k k)) 4 (by omega) (by omega) (by omega) (.slice (some ⟨gR, 0, none⟩) k k)
      have sp10 := Dr.Step.setNew (q := w.heap.size + 1) (Dr.Step.setNew (q := w.heap.size + 1) (Dr.Step.setNew (q := w.heap.size + 1) (Dr.Step.setNew (q := w.heap.size + 1) (Dr.Step.setNew (q := w.heap.size + 1) (sp9) 0 (by omega) (.slice (some ⟨gD, 0, none⟩) k cD)) 1 (by omega) (.slice aE nE cE)) 2 (by omega) (.slice (some ⟨gL, 0, none⟩) k cL)) 3 (by omega) (.slice (some ⟨gF, 0, none⟩) k k)) 4 (by omega) (.slice (some ⟨gR, 0, none⟩) k k)
      have ka10 := Kp.trans (Kp.trans (Kp.trans (Kp.trans (Kp.trans (ka9) (Kp.set (q := w.heap.size + 1) (i := 0) (u := .slice (some ⟨gD, 0, none⟩) k cD) (by omega))) (Kp.set (q := w.heap.size + 1) (i := 1) (u := .slice aE nE cE) (by omega))) (Kp.set (q := w.heap.size + 1) (i := 2) (u := .slice (some ⟨gL, 0, none⟩) k cL) (by omega))) (Kp.set (q := w.heap.size + 1) (i := 3) (u := .slice (some ⟨gF, 0, none⟩) k k) (by omega))) (Kp.set (q := w.heap.size + 1) (i := 4) (u := .slice (some ⟨gR, 0, none⟩) k k) (by omega))
      have kb10 := Kp.trans (Kp.trans (Kp.trans (Kp.trans (Kp.trans (kb9) (Kp.set (q := w.heap.size + 1) (i := 0) (u := .slice (some ⟨gD, 0, none⟩) k cD) (by omega))) (Kp.set (q := w.heap.size + 1) (i := 1) (u := .slice aE nE cE) (by omega))) (Kp.set (q := w.heap.size + 1) (i := 2) (u := .slice (some ⟨gL, 0, none⟩) k cL) (by omega))) (Kp.set (q := w.heap.size + 1) (i := 3) (u := .slice (some ⟨gF, 0, none⟩) k k) (by omega))) (Kp.set (q := w.heap.size + 1) (i := 4) (u := .slice (some ⟨gR, 0, none⟩) k k) (by omega))
      clear t9 z9_ x9 y9 st9 sp9 ka9 kb9
      have HAT : AT w.heap.size _ aK k' aO m (some ⟨gD, 0, none⟩) k aE nE (some ⟨gL, 0, none⟩) (some ⟨gF, 0, none⟩) (some ⟨gR, 0, none⟩) := ⟨lo, gY, lk, hk, ⟨zK.kp kb10, zO.kp kb10, zD.kp ka10, zE.kp ka10, zL.kp ka10, zF.kp ka10, zRr.kp ka10⟩, ⟨by simpa [World.setCell] using zb3.1, by simpa [World.setCell] using zb3.2⟩, ⟨by omega, by omega⟩, k17, m17, k1, n16, kp0⟩
      refine hK.out _ _ ⟨x10.cell 0 rfl, x10.cell 1 rfl, x10.cell 2 rfl, x10.cell 3 rfl, x10.cell 4 rfl, x10.cell 5 rfl, x10.cell 6 rfl, x10.cell 7 rfl, x10.cell 8 rfl, y10.cell 0 rfl, y10.cell 1 rfl, y10.cell 2 rfl, y10.cell 3 rfl, y10.cell 4 rfl⟩ ?_; clear hK K hHeld; intro hHeld; try simp only [Act.put, List.setIfInBounds_toArray, List.set_cons_zero, List.set_cons_succ]
      refine wpAnyH_done (by decide +kernel) ?_ _
      refine NoPanic.normal ?_
      clear hHeld
      go_wp2_with fail
      refine bodyPost_ret (v := .tuple #[wld n l d r q s (.slice aK k' cK) (.slice aO m cO) t, trn (.slice (some ⟨gD, 0, none⟩) k cD) (.slice aE nE cE) (.slice (some ⟨gL, 0, none⟩) k cL) (.slice (some ⟨gF, 0, none⟩) k k) (.slice (some ⟨gR, 0, none⟩) k k)]) (ret14 Tryz.results53 rfl rfl R10 T10) rfl ⟨⟨n, l, d, r, q, s, t, aK, k', cK, aO, m, cO, _, k, cD, aE, nE, cE, _, cL, _, k, _, k, rfl, HAT⟩, st10, sp10⟩

end Go.Proofs.YtloicicgcdfgnaaGreat.L6

namespace Go.Proofs.YtloicicgcdfgnaaGreat.L6
open Go.ChangeShapes Go.WideShapes Go.ChangeAt Go.RowKit
open Ls (el Row)
open Ow (Has ints)
open Wl (z9 c9 wld)
open Tu (trn)
open Lw (rm_step step_cut)
open Dr (St)
set_option linter.unusedVariables false
set_option linter.unusedSimpArgs false

theorem AT.kp {B0 B1 : Nat} {w w' : World} {aK aO aD aE aL aF aR : Option Addr} {k m j nE : Nat} (h : AT B0 w aK k aO m aD j aE nE aL aF aR) (hB : B1 ≤ B0) (hs : w.heap.size ≤ w'.heap.size) (kp : ∀ lo hi, B0 ≤ lo → hi ≤ w.heap.size → Kp lo hi w w') : AT B1 w' aK k aO m aD j aE nE aL aF aR := by
  obtain ⟨lo, hi, lk, hk, ⟨h1, h2, h3, h4, h5, h6, h7⟩, ⟨b1, b2⟩, ⟨c1, c2⟩, b⟩ := h
  exact ⟨lo, hi, lk, hk, ⟨h1.kp (kp _ _ c2 b1), h2.kp (kp _ _ c2 b1), h3.kp (kp _ _ c1 b2), h4.kp (kp _ _ c1 b2), h5.kp (kp _ _ c1 b2), h6.kp (kp _ _ c1 b2), h7.kp (kp _ _ c1 b2)⟩, ⟨by omega, by omega⟩, ⟨by omega, by omega⟩, b⟩

set_option maxHeartbeats 8000000 in
set_option maxRecDepth 100000 in
theorem drawTurned (B : Nat) (a : Option Addr) (len cap : Nat) (w : World) (hB : B ≤ w.heap.size) (hc : Dr.Code w B a len) :
    Calls Tryz.prog 17 #[.slice a len cap] w fun e w' => (∃ (n l d r q s t : Int) (aK : Option Addr) (k cK : Nat) (aO : Option Addr) (m cO : Nat) (aD : Option Addr) (j cD : Nat) (aE : Option Addr) (nE cE : Nat) (aL : Option Addr) (cL : Nat) (aF : Option Addr) (cF : Nat) (aR : Option Addr) (cR : Nat), e = .returned (.tuple #[wld n l d r q s (.slice aK k cK) (.slice aO m cO) t, trn (.slice aD j cD) (.slice aE nE cE) (.slice aL j cL) (.slice aF j cF) (.slice aR j cR)]) ∧ AT w.heap.size w' aK k aO m aD j aE nE aL aF aR) ∧ Below w.heap.size w w' := by
  have RW0 := (Rm.Room.new w z9 31).alloc (.cells Z5.toArray 37)
  have RZ0 : Rm.Room ((w.alloc (.cells z9.toArray 31)).alloc (.cells Z5.toArray 37)) (w.heap.size + 1) Z5 := Rm.Room.at _ Z5 37 _ (by simp)
  have bA : Below w.heap.size w ((w.alloc (.cells z9.toArray 31)).alloc (.cells Z5.toArray 37)) := ((Below.refl w.heap.size w).alloc (Nat.le_refl _) _).alloc (by simp) _
  have hzA : ((w.alloc (.cells z9.toArray 31)).alloc (.cells Z5.toArray 37)).heap.size = w.heap.size + 2 := by simp
  have code1 := hc.later (bA.mono hB)
  go_enter Tryz.func17, Tryz.ntmps17
  go_wp2_with fail
  have hzB : ((w.alloc (.cells z9.toArray 31)).alloc (.cells Z5.toArray 37)).heap.size ≤ w.heap.size + 2 := Nat.le_of_eq hzA
  have hzC : w.heap.size + 2 ≤ ((w.alloc (.cells z9.toArray 31)).alloc (.cells Z5.toArray 37)).heap.size := Nat.le_of_eq hzA.symm
  clear hzA
  generalize ((w.alloc (.cells z9.toArray 31)).alloc (.cells Z5.toArray 37)) = wA at RW0 RZ0 bA hzB hzC code1 ⊢
  refine (Dr.l1New B a len cap _ (by omega) code1).mono ?_
  rintro e w1 ⟨rfl, st1⟩
  have z1 := st1.step.size
  have hp1 := st1.lt
  have s1 := st1.step
  replace RW0 := rm_step RW0 s1 (by omega) (by decide)
  replace RZ0 := rm_step RZ0 s1 (by omega) (by decide)
  have b1 := bA.trans ((s1.fresh (Nat.le_refl _)).mono (by omega))
  clear s1 bA code1
  go_wp2_with fail
  refine (drawAny B wA.heap.size a len cap w1 w1 st1.here).mono ?_
  rintro e w2 ⟨⟨n, l, d, r, q, s, t, aK, k, cK, aO, m, cO, aD, j, cD, aE, nE, cE, aL, cL, aF, cF, aR, cR, rfl, hA⟩, st2, s2⟩
  have z2 := s2.size
  replace RW0 := rm_step RW0 s2 (by omega) (by decide)
  replace RZ0 := rm_step RZ0 s2 (by omega) (by decide)
  have b2 : Below w.heap.size w w2 := ⟨s2.os.trans b1.os, s2.tape.trans b1.tape, s2.output.trans b1.output, Nat.le_trans b1.size s2.size, fun x hx => (s2.block x (by omega) (by omega)).trans (b1.block x hx)⟩
  clear s2 st2 st1 b1
  have e0 := RW0.cell 0 rfl
  have e1 := RW0.cell 1 rfl
  have e2 := RW0.cell 2 rfl
  have e3 := RW0.cell 3 rfl
  have e4 := RW0.cell 4 rfl
  have e5 := RW0.cell 5 rfl
  have e6 := RW0.cell 6 rfl
  have e7 := RW0.cell 7 rfl
  have e8 := RW0.cell 8 rfl
  have f0 := RW0.froz 0 rfl
  have f1 := RW0.froz 1 rfl
  have f2 := RW0.froz 2 rfl
  have f3 := RW0.froz 3 rfl
  have f4 := RW0.froz 4 rfl
  have f5 := RW0.froz 5 rfl
  have f6 := RW0.froz 6 rfl
  have f7 := RW0.froz 7 rfl
  have f8 := RW0.froz 8 rfl
  have g0 := RZ0.cell 0 rfl
  have g1 := RZ0.cell 1 rfl
  have g2 := RZ0.cell 2 rfl
  have g3 := RZ0.cell 3 rfl
  have g4 := RZ0.cell 4 rfl
  have h0 := RZ0.froz 0 rfl
  have h1 := RZ0.froz 1 rfl
  have h2 := RZ0.froz 2 rfl
  have h3 := RZ0.froz 3 rfl
  have h4 := RZ0.froz 4 rfl
  go_wp2_with fail
  clear e0 f0 e1 f1 e2 f2 e3 f3 e4 f4 e5 f5 e6 f6 e7 f7 e8 f8 g0 h0 g1 h1 g2 h2 g3 h3 g4 h4
  have R9 := Rm.Room.set (Rm.Room.set (Rm.Room.set (Rm.Room.set (Rm.Room.set (Rm.Room.set (Rm.Room.set (Rm.Room.set (Rm.Room.set (RW0) 0 (.int .i64 n)) 1 (.int .i64 l)) 2 (.int .i64 d)) 3 (.int .i64 r)) 4 (.int .i64 q)) 5 (.int .i64 s)) 6 (.slice aK k cK)) 7 (.slice aO m cO)) 8 (.int .i64 t)
  have R14 := Rm.Room.setOther (q := w.heap.size + 1) (Rm.Room.setOther (q := w.heap.size + 1) (Rm.Room.setOther (q := w.heap.size + 1) (Rm.Room.setOther (q := w.heap.size + 1) (Rm.Room.setOther (q := w.heap.size + 1) (R9) (by omega) 0 (.slice aD j cD)) (by omega) 1 (.slice aE nE cE)) (by omega) 2 (.slice aL j cL)) (by omega) 3 (.slice aF j cF)) (by omega) 4 (.slice aR j cR)
  have T9 := Rm.Room.setOther (q := w.heap.size) (Rm.Room.setOther (q := w.heap.size) (Rm.Room.setOther (q := w.heap.size) (Rm.Room.setOther (q := w.heap.size) (Rm.Room.setOther (q := w.heap.size) (Rm.Room.setOther (q := w.heap.size) (Rm.Room.setOther (q := w.heap.size) (Rm.Room.setOther (q := w.heap.size) (Rm.Room.setOther (q := w.heap.size) (RZ0) (by omega) 0 (.int .i64 n)) (by omega) 1 (.int .i64 l)) (by omega) 2 (.int .i64 d)) (by omega) 3 (.int .i64 r)) (by omega) 4 (.int .i64 q)) (by omega) 5 (.int .i64 s)) (by omega) 6 (.slice aK k cK)) (by omega) 7 (.slice aO m cO)) (by omega) 8 (.int .i64 t)
  have T14 := Rm.Room.set (Rm.Room.set (Rm.Room.set (Rm.Room.set (Rm.Room.set (T9) 0 (.slice aD j cD)) 1 (.slice aE nE cE)) 2 (.slice aL j cL)) 3 (.slice aF j cF)) 4 (.slice aR j cR)
  have b9 := Below.setCell (Below.setCell (Below.setCell (Below.setCell (Below.setCell (Below.setCell (Below.setCell (Below.setCell (Below.setCell (b2) (p := ⟨w.heap.size, 0, none⟩) (Nat.le_refl _) (.int .i64 n)) (p := ⟨w.heap.size, 1, none⟩) (Nat.le_refl _) (.int .i64 l)) (p := ⟨w.heap.size, 2, none⟩) (Nat.le_refl _) (.int .i64 d)) (p := ⟨w.heap.size, 3, none⟩) (Nat.le_refl _) (.int .i64 r)) (p := ⟨w.heap.size, 4, none⟩) (Nat.le_refl _) (.int .i64 q)) (p := ⟨w.heap.size, 5, none⟩) (Nat.le_refl _) (.int .i64 s)) (p := ⟨w.heap.size, 6, none⟩) (Nat.le_refl _) (.slice aK k cK)) (p := ⟨w.heap.size, 7, none⟩) (Nat.le_refl _) (.slice aO m cO)) (p := ⟨w.heap.size, 8, none⟩) (Nat.le_refl _) (.int .i64 t)
  have b14 := Below.setCell (Below.setCell (Below.setCell (Below.setCell (Below.setCell (b9) (p := ⟨w.heap.size + 1, 0, none⟩) (by simp) (.slice aD j cD)) (p := ⟨w.heap.size + 1, 1, none⟩) (by simp) (.slice aE nE cE)) (p := ⟨w.heap.size + 1, 2, none⟩) (by simp) (.slice aL j cL)) (p := ⟨w.heap.size + 1, 3, none⟩) (by simp) (.slice aF j cF)) (p := ⟨w.heap.size + 1, 4, none⟩) (by simp) (.slice aR j cR)
  refine bodyPost_ret (v := .tuple #[wld n l d r q s (.slice aK k cK) (.slice aO m cO) t, trn (.slice aD j cD) (.slice aE nE cE) (.slice aL j cL) (.slice aF j cF) (.slice aR j cR)]) (ret14 Tryz.results17 rfl rfl R14 T14) rfl ⟨⟨n, l, d, r, q, s, t, aK, k, cK, aO, m, cO, aD, j, cD, aE, nE, cE, aL, cL, aF, cF, aR, cR, rfl, ?_⟩, b14⟩
  refine AT.kp hA (by omega) (by simp [World.setCell]) (fun lo hi h1 h2 => ?_)
  exact Kp.trans (Kp.trans (Kp.trans (Kp.trans (Kp.trans (kp9 (w' := w2) (g := w.heap.size) (by omega) (.int .i64 n) (.int .i64 l) (.int .i64 d) (.int .i64 r) (.int .i64 q) (.int .i64 s) (.slice aK k cK) (.slice aO m cO) (.int .i64 t)) (Kp.set (q := w.heap.size + 1) (i := 0) (u := .slice aD j cD) (by omega))) (Kp.set (q := w.heap.size + 1) (i := 1) (u := .slice aE nE cE) (by omega))) (Kp.set (q := w.heap.size + 1) (i := 2) (u := .slice aL j cL) (by omega))) (Kp.set (q := w.heap.size + 1) (i := 3) (u := .slice aF j cF) (by omega))) (Kp.set (q := w.heap.size + 1) (i := 4) (u := .slice aR j cR) (by omega))

end Go.Proofs.YtloicicgcdfgnaaGreat.L6

namespace Go.Proofs.YtloicicgcdfgnaaGreat.Lw
open Go.ChangeShapes Go.WideShapes Go.ChangeAt Go.RowKit
open Ls (el Row)
open Ow (Has ints)
open Rd (Flags)
open Bo (eb HasB)
open Wl (WO wld c9)
open Tu (trn FK TO CB CV TK TF RB RK RO RU GO to_facts wo_more wo_bounds r1_facts rs_facts)
open Ss (RowsAt ln rw_ tot)
set_option linter.unusedVariables false
set_option linter.unusedSimpArgs false

/-- A world at X and a turn at Y. -/
structure Vt (X Y : Nat) (n l d r q s t : Int) (b off k cK : Nat) (aO : Option Addr) (m cO : Nat) (aD : Option Addr) (j cD : Nat) (aE : Option Addr) (nE cE : Nat) (aL : Option Addr) (cL : Nat) (aF : Option Addr) (cF : Nat) (aR : Option Addr) (cR : Nat) (ks os ds : List Int) (es ls : List (List Int)) (fs rs : List Bool) (w : World) : Prop where
  R : Rm.Room w X [.int .i64 n, .int .i64 l, .int .i64 d, .int .i64 r, .int .i64 q, .int .i64 s, .slice (some ⟨b, off, none⟩) k cK, .slice aO m cO, .int .i64 t]
  T : Rm.Room w Y [.slice aD j cD, .slice aE nE cE, .slice aL j cL, .slice aF j cF, .slice aR j cR]
  K : Row w w.heap.size (some ⟨b, off, none⟩) k ks
  kc : ∀ i, i < k → w.cell? ⟨b, off + i, none⟩ = some (.int .i64 (el ks i))
  kb : b < w.heap.size
  O : Row w w.heap.size aO m os
  D : Row w w.heap.size aD j ds
  E : RowsAt w w.heap.size aE nE es
  L : RowsAt w w.heap.size aL j ls
  F : Flags w w.heap.size aF j fs
  G : Flags w w.heap.size aR j rs
  k17 : k ≤ 17
  m17 : m ≤ 17
  j16 : j ≤ 16
  n16 : nE ≤ 16
  kp : 0 < k
  tE : tot es nE ≤ 1048576
  tL : tot ls j ≤ 1048576

section
variable {w' : World} {X Y : Nat} {n l d r q s t : Int} {b off k cK : Nat} {aO : Option Addr} {m cO : Nat} {aD : Option Addr} {j cD : Nat} {aE : Option Addr} {nE cE : Nat} {aL : Option Addr} {cL : Nat} {aF : Option Addr} {cF : Nat} {aR : Option Addr} {cR : Nat} {ks os ds : List Int} {es ls : List (List Int)} {fs rs : List Bool} {w : World}
theorem Vt.below (h : Vt X Y n l d r q s t b off k cK aO m cO aD j cD aE nE cE aL cL aF cF aR cR ks os ds es ls fs rs w) (e : Below w.heap.size w w') : Vt X Y n l d r q s t b off k cK aO m cO aD j cD aE nE cE aL cL aF cF aR cR ks os ds es ls fs rs w' :=
  ⟨h.R.below e, h.T.below e, (h.K.later e (Nat.le_refl _)).more e.size, fun i hi => by rw [e.cell (p := ⟨b, off + i, none⟩) h.kb]; exact h.kc i hi, Nat.lt_of_lt_of_le h.kb e.size, (h.O.later e (Nat.le_refl _)).more e.size, (h.D.later e (Nat.le_refl _)).more e.size, (h.E.later e (Nat.le_refl _)).more e.size, (h.L.later e (Nat.le_refl _)).more e.size, (h.F.later e (Nat.le_refl _)).more e.size, (h.G.later e (Nat.le_refl _)).more e.size, h.k17, h.m17, h.j16, h.n16, h.kp, h.tE, h.tL⟩
theorem Vt.i_tok (h : Vt X Y n l d r q s t b off k cK aO m cO aD j cD aE nE cE aL cL aF cF aR cR ks os ds es ls fs rs w) : Calls Tryz.prog 18 #[wld n l d r q s (.slice (some ⟨b, off, none⟩) k cK) (.slice aO m cO) t, trn (.slice aD j cD) (.slice aE nE cE) (.slice aL j cL) (.slice aF j cF) (.slice aR j cR)] w fun e w' => e = .returned (.bool (TO n l d r q s ks k os m t ds es ls fs rs j j)) ∧ Below w.heap.size w w' :=
  Tu.i_TurnOk n l d r q s t b off k cK aO m cO aD aE aL aF aR j cD nE cE j cL j cF j cR ks os ds es ls fs rs w h.K.1 h.kc h.kb h.O h.D h.E h.L h.F h.G (by have := h.k17; omega) (by have := h.m17; omega) (by have := h.j16; omega) (by have := h.n16; omega) (by have := h.j16; omega) h.tE h.tL (by have := h.j16; omega) (by have := h.j16; omega)
theorem Vt.s_tok (h : Vt X Y n l d r q s t b off k cK aO m cO aD j cD aE nE cE aL cL aF cF aR cR ks os ds es ls fs rs w) : Calls Tryz.prog 19 #[wld n l d r q s (.slice (some ⟨b, off, none⟩) k cK) (.slice aO m cO) t, trn (.slice aD j cD) (.slice aE nE cE) (.slice aL j cL) (.slice aF j cF) (.slice aR j cR)] w fun e w' => e = .returned (.bool (TO n l d r q s ks k os m t ds es ls fs rs j j)) ∧ Below w.heap.size w w' :=
  Tu.s_TurnOk n l d r q s t b off k cK aO m cO aD aE aL aF aR j cD nE cE j cL j cF j cR ks os ds es ls fs rs w h.K.1 h.kc h.kb h.O h.D h.E h.L h.F h.G (by have := h.k17; omega) (by have := h.m17; omega) (by have := h.j16; omega) (by have := h.j16; omega)

theorem Vt.s_wok (h : Vt X Y n l d r q s t b off k cK aO m cO aD j cD aE nE cE aL cL aF cF aR cR ks os ds es ls fs rs w) : Calls Tryz.prog 20 #[wld n l d r q s (.slice (some ⟨b, off, none⟩) k cK) (.slice aO m cO) t] w fun e w' => e = .returned (.bool (WO n l d r q s ks k os m t)) ∧ Below w.heap.size w w' :=
  Wl.s_WorldOk n l d r q s t _ _ k cK m cO ks os w h.K h.O (by have := h.k17; omega) (by have := h.m17; omega)

theorem Vt.i_none (h : Vt X Y n l d r q s t b off k cK aO m cO aD j cD aE nE cE aL cL aF cF aR cR ks os ds es ls fs rs w) (hw : WO n l d r q s ks k os m t = false) :
    Calls Tryz.prog 12 #[wld n l d r q s (.slice (some ⟨b, off, none⟩) k cK) (.slice aO m cO) t, trn (.slice aD j cD) (.slice aE nE cE) (.slice aL j cL) (.slice aF j cF) (.slice aR j cR)] w fun e w' => e = .returned (.tuple #[.agg #[.int .i64 0, .int .i64 0, .int .i64 0, .int .i64 0, .int .i64 0, .int .i64 0, .slice none 0 0, .slice none 0 0, .int .i64 0], .bool false]) ∧ Below w.heap.size w w' :=
  Tu.it_a n l d r q s t b off k cK aO m cO aD aE aL aF aR j cD nE cE j cL j cF j cR ks os ds es ls fs rs w h.K.1 h.kc h.kb h.O h.D h.E h.L h.F h.G (by have := h.k17; omega) (by have := h.m17; omega) (by have := h.j16; omega) (by have := h.j16; omega) (by have := h.j16; omega) (by have := h.n16; omega) (by have := h.j16; omega) h.tE h.tL hw

theorem Vt.s_none (h : Vt X Y n l d r q s t b off k cK aO m cO aD j cD aE nE cE aL cL aF cF aR cR ks os ds es ls fs rs w) (hw : WO n l d r q s ks k os m t = false) :
    Calls Tryz.prog 13 #[wld n l d r q s (.slice (some ⟨b, off, none⟩) k cK) (.slice aO m cO) t, trn (.slice aD j cD) (.slice aE nE cE) (.slice aL j cL) (.slice aF j cF) (.slice aR j cR)] w fun e w' => e = .returned (.tuple #[.agg #[.int .i64 0, .int .i64 0, .int .i64 0, .int .i64 0, .int .i64 0, .int .i64 0, .slice none 0 0, .slice none 0 0, .int .i64 0], .bool false]) ∧ Below w.heap.size w w' :=
  Tu.st_a n l d r q s t b off k cK aO m cO aD aE aL aF aR j cD nE cE j cL j cF j cR ks os ds es ls fs rs w h.K.1 h.kc h.kb h.O h.D h.E h.L h.F h.G (by have := h.k17; omega) (by have := h.m17; omega) (by have := h.j16; omega) (by have := h.j16; omega) hw

theorem Vt.i_copy (h : Vt X Y n l d r q s t b off k cK aO m cO aD j cD aE nE cE aL cL aF cF aR cR ks os ds es ls fs rs w) (hw : WO n l d r q s ks k os m t = true) (hb : RB n l d r q s ks k os m t ds es ls fs rs j j = false) :
    Calls Tryz.prog 12 #[wld n l d r q s (.slice (some ⟨b, off, none⟩) k cK) (.slice aO m cO) t, trn (.slice aD j cD) (.slice aE nE cE) (.slice aL j cL) (.slice aF j cF) (.slice aR j cR)] w fun e w' => (∃ gK cK' gO cO', e = .returned (.tuple #[wld n l d r q s (.slice (some ⟨gK, 0, none⟩) k cK') (.slice (some ⟨gO, 0, none⟩) m cO') t, .bool false]) ∧ Has w' w.heap.size gK 0 k ks ∧ Has w' w.heap.size gO 0 m os ∧ gK ≠ gO) ∧ Below w.heap.size w w' := by
  obtain ⟨en, em, k0, hO⟩ := wo_more hw
  obtain rfl : k = m := em.symm
  obtain rfl : (k : Int) = n := en.symm
  obtain ⟨zO, hO2 | ⟨bo, oo, rfl, hBo, hco⟩⟩ := id h.O
  · omega
  cases ht : TO (k : Int) l d r q s ks k os k t ds es ls fs rs j j with
  | false =>
    refine (Tu.it_b l d r q s t b off k cK bo oo cO aD aE aL aF aR j cD nE cE j cL j cF j cR ks os ds es ls fs rs w h.K.1 h.kc h.kb zO hco hBo h.D h.E h.L h.F h.G (by have := h.k17; omega) (by have := h.j16; omega) (by have := h.j16; omega) (by have := h.j16; omega) (by have := h.n16; omega) (by have := h.j16; omega) h.tE h.tL hw ht).mono ?_
    rintro e w2 ⟨⟨gK, cK', gO, cO', rfl, oK, oO, hne⟩, b2⟩
    exact ⟨⟨gK, cK', gO, cO', rfl, oK.has, oO.has, hne⟩, b2⟩
  | true =>
    obtain ⟨-, eF, eR, h1, h2, h3⟩ := to_facts ht
    obtain ⟨⟨d0, d1⟩, ⟨e0, e1⟩, k16⟩ := wo_bounds hw
    have ⟨zD, hD⟩ := r1_facts h1
    have ⟨zE, hE⟩ := rs_facts h2
    obtain rfl : k = j := eF.symm
    obtain rfl : k = nE := by rw [← h.E.1]; exact zE.symm
    have t9 := Tu.wo_liars hw
    have e1 : RU (k : Int) l d r q s ks k os k t ds es ls fs rs k k = t := by unfold RU; rw [hb]; rfl
    have e2 : RK (k : Int) l d r q s ks k os k t ds es ls fs rs k k = ks := by unfold RK; rw [hb]; rfl
    have e3 : RO (k : Int) l d r q s ks k os k t ds es ls fs rs k k = os := by unfold RO; rw [hb]; rfl
    have key := Tu.it_c l d r q s t b off k cK bo oo cO aD aE aL aF aR cD cE cL cF cR ks os ds es ls fs rs w h.K.1 h.kc h.kb zO hco hBo h.D h.E h.L h.F h.G (by have := h.k17; omega) h.tE h.tL hw ht hO (fun i hi => by have := hD i hi; omega) ⟨t9.2.2.1, t9.2.2.2⟩
    rw [hb, e1, e2, e3] at key
    refine key.mono ?_
    rintro e w2 ⟨⟨gK, cK', gO, cO', rfl, oK, oO, hne⟩, b2⟩
    exact ⟨⟨gK, cK', gO, cO', rfl, oK.has, oO.has, hne⟩, b2⟩

theorem Vt.i_right (h : Vt X Y n l d r q s t b off k cK aO m cO aD j cD aE nE cE aL cL aF cF aR cR ks os ds es ls fs rs w) (hb : RB n l d r q s ks k os m t ds es ls fs rs j j = true) :
    Calls Tryz.prog 12 #[wld n l d r q s (.slice (some ⟨b, off, none⟩) k cK) (.slice aO m cO) t, trn (.slice aD j cD) (.slice aE nE cE) (.slice aL j cL) (.slice aF j cF) (.slice aR j cR)] w fun e w' => (∃ gK cK' gO cO', e = .returned (.tuple #[wld n l d r q s (.slice (some ⟨gK, 0, none⟩) k cK') (.slice (some ⟨gO, 0, none⟩) m cO') (t + 1), .bool true]) ∧ Has w' w.heap.size gK 0 k (TK n l d r q s ks k os m t ds es ls fs rs j j) ∧ Has w' w.heap.size gO 0 m (TF n l d r q s ks k os m t ds es ls fs rs j j) ∧ gK ≠ gO) ∧ Below w.heap.size w w' := by
  have hb2 := hb
  unfold RB at hb2
  rw [Bool.and_eq_true] at hb2
  obtain ⟨ht, -⟩ := hb2
  have hw := (to_facts ht).1
  obtain ⟨en, em, k0, hO⟩ := wo_more hw
  obtain rfl : k = m := em.symm
  obtain rfl : (k : Int) = n := en.symm
  obtain ⟨zO, hO2 | ⟨bo, oo, rfl, hBo, hco⟩⟩ := id h.O
  · omega
  obtain ⟨-, eF, eR, h1, h2, h3⟩ := to_facts ht
  obtain ⟨⟨d0, d1⟩, ⟨e0, e1⟩, k16⟩ := wo_bounds hw
  have ⟨zD, hD⟩ := r1_facts h1
  have ⟨zE, hE⟩ := rs_facts h2
  obtain rfl : k = j := eF.symm
  obtain rfl : k = nE := by rw [← h.E.1]; exact zE.symm
  have t9 := Tu.wo_liars hw
  have e1 : RU (k : Int) l d r q s ks k os k t ds es ls fs rs k k = t + 1 := by unfold RU; rw [if_pos hb]
  have e2 : RK (k : Int) l d r q s ks k os k t ds es ls fs rs k k = TK (k : Int) l d r q s ks k os k t ds es ls fs rs k k := by unfold RK; rw [if_pos hb]
  have e3 : RO (k : Int) l d r q s ks k os k t ds es ls fs rs k k = TF (k : Int) l d r q s ks k os k t ds es ls fs rs k k := by unfold RO; rw [if_pos hb]
  have key := Tu.it_c l d r q s t b off k cK bo oo cO aD aE aL aF aR cD cE cL cF cR ks os ds es ls fs rs w h.K.1 h.kc h.kb zO hco hBo h.D h.E h.L h.F h.G (by have := h.k17; omega) h.tE h.tL hw ht hO (fun i hi => by have := hD i hi; omega) ⟨t9.2.2.1, t9.2.2.2⟩
  rw [hb, e1, e2, e3] at key
  refine key.mono ?_
  rintro e w2 ⟨⟨gK, cK', gO, cO', rfl, oK, oO, hne⟩, b2⟩
  exact ⟨⟨gK, cK', gO, cO', rfl, oK.has, oO.has, hne⟩, b2⟩

theorem Vt.s_copy (h : Vt X Y n l d r q s t b off k cK aO m cO aD j cD aE nE cE aL cL aF cF aR cR ks os ds es ls fs rs w) (hw : WO n l d r q s ks k os m t = true) (hb : RB n l d r q s ks k os m t ds es ls fs rs j j = false) :
    Calls Tryz.prog 13 #[wld n l d r q s (.slice (some ⟨b, off, none⟩) k cK) (.slice aO m cO) t, trn (.slice aD j cD) (.slice aE nE cE) (.slice aL j cL) (.slice aF j cF) (.slice aR j cR)] w fun e w' => (∃ gK cK' gO cO', e = .returned (.tuple #[wld n l d r q s (.slice (some ⟨gK, 0, none⟩) k cK') (.slice (some ⟨gO, 0, none⟩) m cO') t, .bool false]) ∧ Has w' w.heap.size gK 0 k ks ∧ Has w' w.heap.size gO 0 m os ∧ gK ≠ gO) ∧ Below w.heap.size w w' := by
  obtain ⟨en, em, k0, hO⟩ := wo_more hw
  obtain rfl : k = m := em.symm
  obtain rfl : (k : Int) = n := en.symm
  obtain ⟨zO, hO2 | ⟨bo, oo, rfl, hBo, hco⟩⟩ := id h.O
  · omega
  cases ht : TO (k : Int) l d r q s ks k os k t ds es ls fs rs j j with
  | false =>
    refine (Tu.st_b l d r q s t b off k cK bo oo cO aD aE aL aF aR j cD nE cE j cL j cF j cR ks os ds es ls fs rs w h.K.1 h.kc h.kb zO hco hBo h.D h.E h.L h.F h.G (by have := h.k17; omega) (by have := h.j16; omega) (by have := h.j16; omega) hw ht).mono ?_
    rintro e w2 ⟨⟨gK, cK', gO, cO', rfl, oK, oO, hne⟩, b2⟩
    exact ⟨⟨gK, cK', gO, cO', rfl, oK.has, oO.has, hne⟩, b2⟩
  | true =>
    obtain ⟨-, eF, eR, h1, h2, h3⟩ := to_facts ht
    obtain ⟨⟨d0, d1⟩, ⟨e0, e1⟩, k16⟩ := wo_bounds hw
    have ⟨zD, hD⟩ := r1_facts h1
    have ⟨zE, hE⟩ := rs_facts h2
    obtain rfl : k = j := eF.symm
    obtain rfl : k = nE := by rw [← h.E.1]; exact zE.symm
    have t9 := Tu.wo_liars hw
    have e1 : RU (k : Int) l d r q s ks k os k t ds es ls fs rs k k = t := by unfold RU; rw [hb]; rfl
    have e2 : RK (k : Int) l d r q s ks k os k t ds es ls fs rs k k = ks := by unfold RK; rw [hb]; rfl
    have e3 : RO (k : Int) l d r q s ks k os k t ds es ls fs rs k k = os := by unfold RO; rw [hb]; rfl
    have key := Tu.st_c l d r q s t b off k cK bo oo cO aD aE aL aF aR cD cE cL cF cR ks os ds es ls fs rs w h.K.1 h.kc h.kb zO hco hBo h.D h.E h.L h.F h.G (by have := h.k17; omega) h.tE h.tL hw ht hO (fun i hi => by have := hD i hi; omega) ⟨t9.2.2.1, t9.2.2.2⟩
    rw [hb, e1, e2, e3] at key
    refine key.mono ?_
    rintro e w2 ⟨⟨gK, cK', gO, cO', rfl, oK, oO, hne⟩, b2⟩
    exact ⟨⟨gK, cK', gO, cO', rfl, oK.has, oO.has, hne⟩, b2⟩

theorem Vt.s_right (h : Vt X Y n l d r q s t b off k cK aO m cO aD j cD aE nE cE aL cL aF cF aR cR ks os ds es ls fs rs w) (hb : RB n l d r q s ks k os m t ds es ls fs rs j j = true) :
    Calls Tryz.prog 13 #[wld n l d r q s (.slice (some ⟨b, off, none⟩) k cK) (.slice aO m cO) t, trn (.slice aD j cD) (.slice aE nE cE) (.slice aL j cL) (.slice aF j cF) (.slice aR j cR)] w fun e w' => (∃ gK cK' gO cO', e = .returned (.tuple #[wld n l d r q s (.slice (some ⟨gK, 0, none⟩) k cK') (.slice (some ⟨gO, 0, none⟩) m cO') (t + 1), .bool true]) ∧ Has w' w.heap.size gK 0 k (TK n l d r q s ks k os m t ds es ls fs rs j j) ∧ Has w' w.heap.size gO 0 m (TF n l d r q s ks k os m t ds es ls fs rs j j) ∧ gK ≠ gO) ∧ Below w.heap.size w w' := by
  have hb2 := hb
  unfold RB at hb2
  rw [Bool.and_eq_true] at hb2
  obtain ⟨ht, -⟩ := hb2
  have hw := (to_facts ht).1
  obtain ⟨en, em, k0, hO⟩ := wo_more hw
  obtain rfl : k = m := em.symm
  obtain rfl : (k : Int) = n := en.symm
  obtain ⟨zO, hO2 | ⟨bo, oo, rfl, hBo, hco⟩⟩ := id h.O
  · omega
  obtain ⟨-, eF, eR, h1, h2, h3⟩ := to_facts ht
  obtain ⟨⟨d0, d1⟩, ⟨e0, e1⟩, k16⟩ := wo_bounds hw
  have ⟨zD, hD⟩ := r1_facts h1
  have ⟨zE, hE⟩ := rs_facts h2
  obtain rfl : k = j := eF.symm
  obtain rfl : k = nE := by rw [← h.E.1]; exact zE.symm
  have t9 := Tu.wo_liars hw
  have e1 : RU (k : Int) l d r q s ks k os k t ds es ls fs rs k k = t + 1 := by unfold RU; rw [if_pos hb]
  have e2 : RK (k : Int) l d r q s ks k os k t ds es ls fs rs k k = TK (k : Int) l d r q s ks k os k t ds es ls fs rs k k := by unfold RK; rw [if_pos hb]
  have e3 : RO (k : Int) l d r q s ks k os k t ds es ls fs rs k k = TF (k : Int) l d r q s ks k os k t ds es ls fs rs k k := by unfold RO; rw [if_pos hb]
  have key := Tu.st_c l d r q s t b off k cK bo oo cO aD aE aL aF aR cD cE cL cF cR ks os ds es ls fs rs w h.K.1 h.kc h.kb zO hco hBo h.D h.E h.L h.F h.G (by have := h.k17; omega) h.tE h.tL hw ht hO (fun i hi => by have := hD i hi; omega) ⟨t9.2.2.1, t9.2.2.2⟩
  rw [hb, e1, e2, e3] at key
  refine key.mono ?_
  rintro e w2 ⟨⟨gK, cK', gO, cO', rfl, oK, oO, hne⟩, b2⟩
  exact ⟨⟨gK, cK', gO, cO', rfl, oK.has, oO.has, hne⟩, b2⟩

end

end Go.Proofs.YtloicicgcdfgnaaGreat.Lw

namespace Go.Proofs.YtloicicgcdfgnaaGreat.Lw
open Go.ChangeShapes Go.WideShapes Go.ChangeAt Go.RowKit
open Ls (el Row)
open Ow (Has ints)
open Rd (Flags)
open Bo (eb HasB)
open Wl (WO wld c9 OB bad)
open Tu (trn FK TO CB CV TK TF RB RK RO RU GO MM to_facts wo_more wo_bounds r1_facts rs_facts)
open Ss (RowsAt ln rw_ tot)
open Hu (mnK mxK tmK)
set_option linter.unusedVariables false
set_option linter.unusedSimpArgs false

theorem Vt.make {B0 : Nat} {n l d r q s t : Int} {aK : Option Addr} {k cK : Nat} {aO : Option Addr} {m cO : Nat} {aD : Option Addr} {j cD : Nat} {aE : Option Addr} {nE cE : Nat} {aL : Option Addr} {cL : Nat} {aF : Option Addr} {cF : Nat} {aR : Option Addr} {cR : Nat} {w : World} (T1 T2 : TypeId) (hA : L6.AT B0 w aK k aO m aD j aE nE aL aF aR) :
    ∃ (b off : Nat) (ks os ds : List Int) (es ls : List (List Int)) (fs rs : List Bool), aK = some ⟨b, off, none⟩ ∧ Vt w.heap.size (w.heap.size + 1) n l d r q s t b off k cK aO m cO aD j cD aE nE cE aL cL aF cF aR cR ks os ds es ls fs rs ((w.alloc (.cells #[.int .i64 n, .int .i64 l, .int .i64 d, .int .i64 r, .int .i64 q, .int .i64 s, .slice (some ⟨b, off, none⟩) k cK, .slice aO m cO, .int .i64 t] T1)).alloc (.cells #[.slice aD j cD, .slice aE nE cE, .slice aL j cL, .slice aF j cF, .slice aR j cR] T2)) := by
  obtain ⟨lo, hi, lk, hk, ⟨h1, h2, h3, h4, h5, h6, h7⟩, ⟨u1, u2⟩, -, k17, m17, j16, n16, kp⟩ := hA
  obtain ⟨ks, rK⟩ := h1.row u1
  obtain ⟨os, rO⟩ := h2.row u1
  obtain ⟨ds, rD⟩ := h3.row u2
  obtain ⟨es, rE, eE⟩ := h4.rows u2
  obtain ⟨ls, rL, eL⟩ := h5.rows u2
  obtain ⟨fs, rF⟩ := h6.row u2
  obtain ⟨rs, rG⟩ := h7.row u2
  rcases h1 with h1 | ⟨b, off, rfl, -⟩
  · omega
  obtain ⟨zK, h0 | ⟨b', off', e, hB, hc⟩⟩ := id rK
  · omega
  cases e
  have b1 : Below w.heap.size w (w.alloc (.cells #[.int .i64 n, .int .i64 l, .int .i64 d, .int .i64 r, .int .i64 q, .int .i64 s, .slice (some ⟨b, off, none⟩) k cK, .slice aO m cO, .int .i64 t] T1)) := (Below.refl _ w).alloc (Nat.le_refl _) _
  have b2 : Below w.heap.size w ((w.alloc (.cells #[.int .i64 n, .int .i64 l, .int .i64 d, .int .i64 r, .int .i64 q, .int .i64 s, .slice (some ⟨b, off, none⟩) k cK, .slice aO m cO, .int .i64 t] T1)).alloc (.cells #[.slice aD j cD, .slice aE nE cE, .slice aL j cL, .slice aF j cF, .slice aR j cR] T2)) := b1.alloc b1.size _
  refine ⟨b, off, ks, os, ds, es, ls, fs, rs, rfl, ⟨(Rm.Room.new w [.int .i64 n, .int .i64 l, .int .i64 d, .int .i64 r, .int .i64 q, .int .i64 s, .slice (some ⟨b, off, none⟩) k cK, .slice aO m cO, .int .i64 t] T1).alloc _, Rm.Room.at _ [.slice aD j cD, .slice aE nE cE, .slice aL j cL, .slice aF j cF, .slice aR j cR] T2 _ (by simp), (rK.later b2 (Nat.le_refl _)).more b2.size, fun i hi => by rw [b2.cell (p := ⟨b, off + i, none⟩) hB]; exact hc i hi, Nat.lt_of_lt_of_le hB b2.size, (rO.later b2 (Nat.le_refl _)).more b2.size, (rD.later b2 (Nat.le_refl _)).more b2.size, (rE.later b2 (Nat.le_refl _)).more b2.size, (rL.later b2 (Nat.le_refl _)).more b2.size, (rF.later b2 (Nat.le_refl _)).more b2.size, (rG.later b2 (Nat.le_refl _)).more b2.size, k17, m17, j16, n16, kp, ?_, ?_⟩⟩
  · exact Nat.le_trans (tot_small (q := 16) nE (fun i hi => by have := eE i hi; omega)) (by omega)
  · exact Nat.le_trans (tot_small (q := 16) j (fun i hi => by have := eL i hi; omega)) (by omega)

/-- The offs in the middle of those of the first j that are up there. -/
def MD (ks os ds : List Int) : Nat → List Int
  | 0 => []
  | j + 1 => if el ks j = 0 then MD ks os ds j ++ [MM os ds j] else MD ks os ds j
theorem md_up (ks os ds : List Int) : ∀ j, MD ks os ds j = (Wl.up ks j).map (fun x => MM os ds x.toNat)
  | 0 => rfl
  | j + 1 => by
    rw [MD, Wl.up, md_up ks os ds j]
    split
    · simp
    · rfl
theorem md_len (ks os ds : List Int) (j : Nat) : (MD ks os ds j).length = (Wl.up ks j).length := by rw [md_up]; simp
theorem md_le (ks os ds : List Int) (j : Nat) : (MD ks os ds j).length ≤ j := by
  rw [md_len]
  have := Wl.up_len ks j
  omega
theorem md_mem {ks os ds : List Int} {j : Nat} {x : Int} (h : x ∈ MD ks os ds j) : ∃ i, i < j ∧ el ks i = 0 ∧ x = MM os ds i := by
  rw [md_up] at h
  obtain ⟨y, hy, rfl⟩ := List.mem_map.1 h
  obtain ⟨i, rfl, h1, h2⟩ := Wl.up_mem hy
  exact ⟨i, h1, h2, by rw [Int.toNat_natCast]⟩
theorem md_has {ks os ds : List Int} {j i : Nat} (hi : i < j) (h0 : el ks i = 0) : MM os ds i ∈ MD ks os ds j := by
  rw [md_up]
  exact List.mem_map.2 ⟨(i : Int), up_has h0 hi, by rw [Int.toNat_natCast]⟩

section
variable {l d r q s t : Int} {k : Nat} {ks os ds : List Int} {es ls : List (List Int)} {fs rs : List Bool}
theorem tkq (hz : ks.length = k) {j : Nat} (hj : j < k) : el (TK (k : Int) l d r q s ks k os k t ds es ls fs rs k k) j = if CB (k : Int) l d r q s ks k os k t ds es ls fs rs k k j = true then 0 else el (FK ks fs) j := by
  unfold TK
  rw [Tu.up_el _ _ _ _ _ (by rw [Tu.fk_len']; omega)]
  simp [hj]
theorem tfq (hz : os.length = k) {j : Nat} (hj : j < k) : el (TF (k : Int) l d r q s ks k os k t ds es ls fs rs k k) j = if CB (k : Int) l d r q s ks k os k t ds es ls fs rs k k j = true then MM os ds j + CV (k : Int) l d r q s ks k os k t ds es ls fs rs k k j else MM os ds j := by
  unfold TF
  rw [Tu.up_el _ _ _ _ _ (by rw [Tu.mo_len]; omega), Tu.mo_el os ds (by omega)]
  unfold MM
  simp [hj]
theorem tkq_up (h : TO (k : Int) l d r q s ks k os k t ds es ls fs rs k k = true) (hz : ks.length = k) {j : Nat} (hj : j < k) : el (TK (k : Int) l d r q s ks k os k t ds es ls fs rs k k) j = 0 ↔ CB (k : Int) l d r q s ks k os k t ds es ls fs rs k k j = true := by
  rw [tkq hz hj]
  have e := Tu.cb_is h hj
  by_cases c : CB (k : Int) l d r q s ks k os k t ds es ls fs rs k k j = true
  · simp [c]
  · rw [if_neg c]
    constructor
    · intro h0
      rw [h0] at e
      simpa using e
    · intro h0
      exact (c h0).elim
/-- Whoever is up behind a right turn lies within what those that were up in its middle span, but for Err. -/
theorem valid_all (h : TO (k : Int) l d r q s ks k os k t ds es ls fs rs k k = true) (hk : ks.length = k) (ho : os.length = k) :
    Hu.HT (MD (FK ks fs) os ds k) (MD (FK ks fs) os ds k).length = true ∧
    (-2000000000000000 ≤ mnK (MD (FK ks fs) os ds k) (MD (FK ks fs) os ds k).length ∧ mnK (MD (FK ks fs) os ds k) (MD (FK ks fs) os ds k).length ≤ 2000000000000000 ∧ -2000000000000000 ≤ mxK (MD (FK ks fs) os ds k) (MD (FK ks fs) os ds k).length ∧ mxK (MD (FK ks fs) os ds k) (MD (FK ks fs) os ds k).length ≤ 2000000000000000) ∧
    (∀ x ∈ OB (TK (k : Int) l d r q s ks k os k t ds es ls fs rs k k) k (TF (k : Int) l d r q s ks k os k t ds es ls fs rs k k), mnK (MD (FK ks fs) os ds k) (MD (FK ks fs) os ds k).length - r ≤ x ∧ x ≤ mxK (MD (FK ks fs) os ds k) (MD (FK ks fs) os ds k).length + r) ∧
    (MD (FK ks fs) os ds k).length ≤ (Wl.up (TK (k : Int) l d r q s ks k os k t ds es ls fs rs k k) k).length := by
  obtain ⟨hW, -, -, h1, -, -⟩ := to_facts h
  obtain ⟨-, -, k0, hO⟩ := wo_more hW
  obtain ⟨⟨d0, d1⟩, ⟨e0, e1⟩, k16⟩ := wo_bounds hW
  obtain ⟨l0, l1, -, -⟩ := Tu.wo_liars hW
  have ⟨zD, hD⟩ := r1_facts h1
  have hb := Tu.to_bad h
  have hM : ∀ x ∈ MD (FK ks fs) os ds k, -1000001000000000 ≤ x ∧ x ≤ 1000001000000000 := fun x hx => by
    obtain ⟨i, hi, _, rfl⟩ := md_mem hx
    have := hO i hi
    have := hD i hi
    unfold MM
    omega
  have hp : 0 < (MD (FK ks fs) os ds k).length := by
    rw [md_len]
    have := Wl.up_len (FK ks fs) k
    omega
  have hT : Hu.HT (MD (FK ks fs) os ds k) (MD (FK ks fs) os ds k).length = true := by rw [Hu.ht_n hp]; exact tm_all (fun x hx => by have := hM x hx; unfold Ad.Tm; omega)
  obtain ⟨⟨i, hi, ei⟩, ⟨j, hj, ej⟩⟩ := Tr.mm_in hp
  have mi := hM _ (el_mem hi)
  have mj := hM _ (el_mem hj)
  rw [ei] at mi
  rw [ej] at mj
  refine ⟨hT, ⟨by omega, by omega, by omega, by omega⟩, fun x hx => ?_, ?_⟩
  · obtain ⟨z, hz, h0, rfl⟩ := ob_mem hx
    have c := (tkq_up h hk hz).1 h0
    have v := Tu.valid_in h hz c (lo := mnK (MD (FK ks fs) os ds k) (MD (FK ks fs) os ds k).length) (hi' := mxK (MD (FK ks fs) os ds k) (MD (FK ks fs) os ds k).length) (fun y hy h1 => mn_mem (md_has hy h1))
    rw [tfq ho hz, if_pos c]
    exact v
  · rw [md_len]
    have a := Wl.up_len (FK ks fs) k
    have b := Wl.up_len (TK (k : Int) l d r q s ks k os k t ds es ls fs rs k k) k
    have c := bad_mono (a := FK ks fs) (b := TK (k : Int) l d r q s ks k os k t ds es ls fs rs k k) k (fun j hj h0 => by
      rw [tkq hk hj]
      split
      · rfl
      · exact h0)
    omega
end

end Go.Proofs.YtloicicgcdfgnaaGreat.Lw
