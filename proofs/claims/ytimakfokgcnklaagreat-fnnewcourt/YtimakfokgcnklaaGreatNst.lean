/-
  Rows of peers, rows of parcels in memory: each has a slice of seals of its own.
-/
import Derived.Test.YtimakfokgcnklaaGreatSb2
import Derived.Test.YtimakfokgcnklaaGreatRd
namespace Go.Proofs.YtimakfokgcnklaaGreat.Ns
open Go.ChangeShapes Go.WideShapes Go.ChangeAt Go.RowKit
open Ls (el Row)
open Rm (Room)
open Rd (Flags)
open Sb (S3 es fl sl Row3 SHas)
set_option linter.unusedVariables false
set_option linter.unusedSimpArgs false

/-- What is there outside the blocks from B up to C stays. -/
structure Mid (B C : Nat) (w w' : World) : Prop where
  os : w'.os = w.os
  tape : w'.tape = w.tape
  output : w'.output = w.output
  size : w.heap.size ≤ w'.heap.size
  block : ∀ k, k < w.heap.size → (k < B ∨ C ≤ k) → w'.heap[k]? = w.heap[k]?
theorem Mid.refl (B C : Nat) (w : World) : Mid B C w w := ⟨rfl, rfl, rfl, Nat.le_refl _, fun _ _ _ => rfl⟩
theorem Mid.of_below {B C : Nat} {w w' : World} (h : Below w.heap.size w w') : Mid B C w w' := ⟨h.os, h.tape, h.output, h.size, fun k hk _ => h.block k hk⟩
theorem Mid.of_grown {B C b : Nat} {w w' : World} (h : w.grownBy w' (some b)) (h1 : B ≤ b) (h2 : b < C) : Mid B C w w' := ⟨h.os, h.tape, h.output, h.size, fun k hk q => h.block k hk (by simp; omega)⟩
theorem Mid.trans {B C : Nat} {a b c : World} (h : Mid B C a b) (k : Mid B C b c) : Mid B C a c :=
  ⟨k.os.trans h.os, k.tape.trans h.tape, k.output.trans h.output, Nat.le_trans h.size k.size, fun i hi q => (k.block i (Nat.lt_of_lt_of_le hi h.size) q).trans (h.block i hi q)⟩
theorem Mid.wide {B C B' C' : Nat} {w w' : World} (h : Mid B C w w') (h1 : B' ≤ B) (h2 : C ≤ C') : Mid B' C' w w' := ⟨h.os, h.tape, h.output, h.size, fun k hk q => h.block k hk (by omega)⟩
theorem Mid.below {B C A : Nat} {w w' : World} (h : Mid B C w w') (hA : A ≤ B) (hw : A ≤ w.heap.size) : Below A w w' := ⟨h.os, h.tape, h.output, h.size, fun k hk => h.block k (by omega) (by omega)⟩
theorem Mid.room {B C : Nat} {w w' : World} (m : Mid B C w w') {g : Nat} {vs : List Value} (h : Room w g vs) (hn : 0 < vs.length) (q : g < B ∨ C ≤ g) : Room w' g vs := h.block (m.block g (h.lt hn) q)
theorem Mid.hasS {B C : Nat} {w w' : World} (m : Mid B C w w') {A g off n : Nat} {ss : List S3} (h : SHas w A g off n ss) (q : g < B ∨ C ≤ g) : SHas w' A g off n ss :=
  ⟨h.1, h.2.1, by have := m.size; have := h.2.2.1; omega, h.2.2.2.block (m.block g h.2.2.1 q)⟩
theorem Mid.set (w : World) (g i : Nat) (u : Value) : Mid g (g + 1) w (w.setCell ⟨g, i, none⟩ u) := ⟨rfl, rfl, rfl, by simp, fun k hk e => Below.heap_setCell _ _ _ _ (by simp; omega)⟩
abbrev ss (g n : Nat) : Value := .slice (some ⟨g, 0, none⟩) n n

abbrev PD := Int × Int × Bool × List S3
def p0 : PD := (0, 0, false, [])
def pd (ps : List PD) (j : Nat) : PD := ps.getD j p0
/-- How many seals the first ones have. -/
def pz (ps : List PD) : Nat → Nat
  | 0 => 0
  | j + 1 => pz ps j + (pd ps j).2.2.2.length
theorem pz_le (ps : List PD) {j k : Nat} (h : j ≤ k) : pz ps j ≤ pz ps k := by
  induction k with
  | zero => obtain rfl : j = 0 := by omega
            exact Nat.le_refl _
  | succ k ih =>
    by_cases e : j = k + 1
    · subst e; exact Nat.le_refl _
    · have := ih (by omega); have e2 : pz ps (k + 1) = pz ps k + (pd ps k).2.2.2.length := rfl; omega
theorem pl_pz (ps : List PD) {j k : Nat} (h : j < k) : (pd ps j).2.2.2.length ≤ pz ps k := by
  have := pz_le ps (show j + 1 ≤ k from h)
  have e2 : pz ps (j + 1) = pz ps j + (pd ps j).2.2.2.length := rfl
  omega
def PeersAt (w : World) (B : Nat) (a : Option Addr) (n : Nat) (ps : List PD) : Prop :=
  ps.length = n ∧ (n = 0 ∨ ∃ b off, a = some ⟨b, off, none⟩ ∧ b < B ∧ ∀ j, j < n → ∃ aS cS, (w.cell? ⟨b, off + j * 4, none⟩ = some (.int .i64 (pd ps j).1) ∧ w.cell? ⟨b, off + j * 4 + 1, none⟩ = some (.int .i64 (pd ps j).2.1) ∧ w.cell? ⟨b, off + j * 4 + 2, none⟩ = some (.bool (pd ps j).2.2.1) ∧ w.cell? ⟨b, off + j * 4 + 3, none⟩ = some (.slice aS (pd ps j).2.2.2.length cS)) ∧ Row3 w B aS (pd ps j).2.2.2.length (pd ps j).2.2.2)
theorem PeersAt.below {w w' : World} {a : Option Addr} {n : Nat} {ps : List PD} (h : PeersAt w w.heap.size a n ps) (hb : Below w.heap.size w w') : PeersAt w' w'.heap.size a n ps := by
  obtain ⟨h1, h2⟩ := h
  refine ⟨h1, ?_⟩
  rcases h2 with h2 | ⟨b, off, e, hB, hc⟩
  · exact .inl h2
  · refine .inr ⟨b, off, e, Nat.lt_of_lt_of_le hB hb.size, fun j hj => ?_⟩
    obtain ⟨aS, cS, hq, hr⟩ := hc j hj
    have q : ∀ o, w'.cell? ⟨b, o, none⟩ = w.cell? ⟨b, o, none⟩ := fun o => hb.cell (p := ⟨b, o, none⟩) hB
    refine ⟨aS, cS, ?_, hr.below hb⟩
    simp only [q]
    exact hq

/-- The first k of a row at block g, its cells vs: the seals of each in a block of their own, each behind the one ahead of it, all behind g, below C. -/
structure PeerUp (w : World) (C g : Nat) (vs : List Value) (ps : List PD) (G : Nat → Nat) (k : Nat) : Prop where
  R : Room w g vs
  T : ∀ j, j < k → (vs[j * 4]? = some (.int .i64 (pd ps j).1) ∧ vs[j * 4 + 1]? = some (.int .i64 (pd ps j).2.1) ∧ vs[j * 4 + 2]? = some (.bool (pd ps j).2.2.1) ∧ vs[j * 4 + 3]? = some (ss (G j) (pd ps j).2.2.2.length)) ∧ SHas w (G j) (G j) 0 (pd ps j).2.2.2.length (pd ps j).2.2.2
  lo : ∀ j, j < k → g < G j
  up : ∀ i j, i < j → j < k → G i < G j
  hi : ∀ j, j < k → G j < C
  gC : g < C
  C : C ≤ w.heap.size
theorem PeerUp.mid {X Y : Nat} {w w' : World} {C g : Nat} {vs : List Value} {ps : List PD} {G : Nat → Nat} {k : Nat} (h : PeerUp w C g vs ps G k) (m : Mid X Y w w') (hn : 0 < vs.length) (q : C ≤ X ∨ Y ≤ g) : PeerUp w' C g vs ps G k := by
  have hC := h.gC
  refine ⟨m.room h.R hn (by omega), fun j hj => ⟨(h.T j hj).1, m.hasS (h.T j hj).2 ?_⟩, h.lo, h.up, h.hi, h.gC, Nat.le_trans h.C m.size⟩
  have := h.lo j hj
  have := h.hi j hj
  omega
theorem PeerUp.later {w w' : World} {C g : Nat} {vs : List Value} {ps : List PD} {G : Nat → Nat} {k : Nat} (h : PeerUp w C g vs ps G k) (hn : 0 < vs.length) (hb : Below w.heap.size w w') : PeerUp w' C g vs ps G k :=
  h.mid (Mid.of_below (B := C) (C := g) hb) hn (.inl (Nat.le_refl _))
theorem PeerUp.at {w : World} {C g : Nat} {vs : List Value} {ps : List PD} {G : Nat → Nat} {n : Nat} (h : PeerUp w C g vs ps G n) (hl : ps.length = n) : PeersAt w w.heap.size (some ⟨g, 0, none⟩) n ps := by
  refine ⟨hl, ?_⟩
  by_cases h0 : n = 0
  · exact .inl h0
  refine .inr ⟨g, 0, rfl, by have := h.gC; have := h.C; omega, fun j hj => ?_⟩
  obtain ⟨⟨c0, c1, c2, c3⟩, hS⟩ := h.T j hj
  rw [Nat.zero_add]
  exact ⟨_, _, ⟨h.R.cell _ c0, h.R.cell _ c1, h.R.cell _ c2, h.R.cell _ c3⟩, hS.row⟩

/-- One more. -/
theorem PeerUp.next {w w2 : World} {g n k : Nat} {vs : List Value} {ps : List PD} {G : Nat → Nat} (h : PeerUp w w.heap.size g vs ps G k) (hl : vs.length = n * 4) (hk : k < n) (hb : Below w.heap.size w w2) {g2 : Nat} (hS : SHas w2 w.heap.size g2 0 (pd ps k).2.2.2.length (pd ps k).2.2.2) :
    ∃ vs' G', vs'.length = n * 4 ∧ PeerUp ((((w2.setCell ⟨g, k * 4, none⟩ (.int .i64 (pd ps k).1)).setCell ⟨g, k * 4 + 1, none⟩ (.int .i64 (pd ps k).2.1)).setCell ⟨g, k * 4 + 2, none⟩ (.bool (pd ps k).2.2.1)).setCell ⟨g, k * 4 + 3, none⟩ (ss g2 (pd ps k).2.2.2.length)) w2.heap.size g vs' ps G' (k + 1) := by
  have hz := hb.size
  have hgC := h.gC
  have hg2 := hS.2.1
  have hg3 := hS.2.2.1
  have h2 := h.later (by omega) hb
  have m : ∀ (w : World) (i : Nat) (u : Value), Mid g (g + 1) w (w.setCell ⟨g, i, none⟩ u) := fun w i u => ⟨rfl, rfl, rfl, by simp, fun k hk e => Below.heap_setCell _ _ _ _ (by simp; omega)⟩
  have mm : Mid g (g + 1) w2 ((((w2.setCell ⟨g, k * 4, none⟩ (.int .i64 (pd ps k).1)).setCell ⟨g, k * 4 + 1, none⟩ (.int .i64 (pd ps k).2.1)).setCell ⟨g, k * 4 + 2, none⟩ (.bool (pd ps k).2.2.1)).setCell ⟨g, k * 4 + 3, none⟩ (ss g2 (pd ps k).2.2.2.length)) := ((((m w2 _ _).trans (m _ _ _)).trans (m _ _ _)).trans (m _ _ _))
  refine ⟨((((vs.set (k * 4) (.int .i64 (pd ps k).1)).set (k * 4 + 1) (.int .i64 (pd ps k).2.1)).set (k * 4 + 2) (.bool (pd ps k).2.2.1)).set (k * 4 + 3) (ss g2 (pd ps k).2.2.2.length)), fun j => if j = k then g2 else G j, by simpa using hl, ?_⟩
  refine ⟨((((h2.R.set _ _).set _ _).set _ _).set _ _), fun j hj => ?_, fun j hj => ?_, fun i j hij hj => ?_, fun j hj => ?_, by omega, by simp⟩
  · by_cases e : j = k
    · subst e
      simp only [if_true]
      refine ⟨⟨?_, ?_, ?_, ?_⟩, mm.hasS ⟨hS.1, Nat.le_refl _, hS.2.2⟩ (.inr (by omega))⟩
      · rw [List.getElem?_set_ne (by omega), List.getElem?_set_ne (by omega), List.getElem?_set_ne (by omega), List.getElem?_set_self (by omega)]
      · rw [List.getElem?_set_ne (by omega), List.getElem?_set_ne (by omega), List.getElem?_set_self (by simp; omega)]
      · rw [List.getElem?_set_ne (by omega), List.getElem?_set_self (by simp; omega)]
      · rw [List.getElem?_set_self (by simp; omega)]
    · have hj2 : j < k := by omega
      simp only [if_neg e]
      obtain ⟨⟨c0, c1, c2, c3⟩, hh⟩ := h2.T j hj2
      have := h.lo j hj2
      refine ⟨⟨?_, ?_, ?_, ?_⟩, mm.hasS hh (.inr (by omega))⟩
      all_goals rw [List.getElem?_set_ne (by omega), List.getElem?_set_ne (by omega), List.getElem?_set_ne (by omega), List.getElem?_set_ne (by omega)]; assumption
  · by_cases e : j = k
    · simp only [if_pos e]; omega
    · simp only [if_neg e]; exact h.lo j (by omega)
  · by_cases e : j = k
    · simp only [if_pos e, if_neg (show ¬ i = k by omega)]
      have := h.hi i (by omega); omega
    · simp only [if_neg e, if_neg (show ¬ i = k by omega)]; exact h.up i j hij (by omega)
  · by_cases e : j = k
    · simp only [if_pos e]; omega
    · simp only [if_neg e]; have := h.hi j (by omega); omega
/-- A whole row that nothing else holds, at block g, all below C. -/
def PeerAll (w : World) (C g n : Nat) (ps : List PD) : Prop := ∃ vs G, vs.length = n * 4 ∧ PeerUp w C g vs ps G n
theorem PeerAll.mid {X Y : Nat} {w w' : World} {C g n : Nat} {ps : List PD} (h : PeerAll w C g n ps) (m : Mid X Y w w') (q : C ≤ X ∨ Y ≤ g) : PeerAll w' C g n ps := by
  obtain ⟨vs, G, hl, hU⟩ := h
  by_cases h0 : n = 0
  · subst h0
    have e : vs = [] := List.length_eq_zero_iff.1 (by omega)
    subst e
    exact ⟨[], G, rfl, fun i v hv => by simp at hv, fun j hj => by omega, fun j hj => by omega, fun i j _ hj => by omega, fun j hj => by omega, hU.gC, Nat.le_trans hU.C m.size⟩
  · exact ⟨vs, G, hl, hU.mid m (by omega) q⟩
theorem PeerAll.later {w w' : World} {C g n : Nat} {ps : List PD} (h : PeerAll w C g n ps) (hb : Below w.heap.size w w') : PeerAll w' C g n ps :=
  h.mid (Mid.of_below (B := C) (C := g) hb) (.inl (Nat.le_refl _))
theorem PeerAll.at {w : World} {C g n : Nat} {ps : List PD} (h : PeerAll w C g n ps) (hl : ps.length = n) : PeersAt w w.heap.size (some ⟨g, 0, none⟩) n ps := by
  obtain ⟨vs, G, _, hU⟩ := h
  exact hU.at hl
theorem PeerAll.lt {w : World} {C g n : Nat} {ps : List PD} (h : PeerAll w C g n ps) : g < C ∧ C ≤ w.heap.size := by
  obtain ⟨vs, G, _, hU⟩ := h
  exact ⟨hU.gC, hU.C⟩

abbrev QD := Int × Int × List S3
def q0 : QD := (0, 0, [])
def qd (ps : List QD) (j : Nat) : QD := ps.getD j q0
/-- How many seals the first ones have. -/
def qz (ps : List QD) : Nat → Nat
  | 0 => 0
  | j + 1 => qz ps j + (qd ps j).2.2.length
theorem qz_le (ps : List QD) {j k : Nat} (h : j ≤ k) : qz ps j ≤ qz ps k := by
  induction k with
  | zero => obtain rfl : j = 0 := by omega
            exact Nat.le_refl _
  | succ k ih =>
    by_cases e : j = k + 1
    · subst e; exact Nat.le_refl _
    · have := ih (by omega); have e2 : qz ps (k + 1) = qz ps k + (qd ps k).2.2.length := rfl; omega
theorem ql_qz (ps : List QD) {j k : Nat} (h : j < k) : (qd ps j).2.2.length ≤ qz ps k := by
  have := qz_le ps (show j + 1 ≤ k from h)
  have e2 : qz ps (j + 1) = qz ps j + (qd ps j).2.2.length := rfl
  omega
def ParcelsAt (w : World) (B : Nat) (a : Option Addr) (n : Nat) (ps : List QD) : Prop :=
  ps.length = n ∧ (n = 0 ∨ ∃ b off, a = some ⟨b, off, none⟩ ∧ b < B ∧ ∀ j, j < n → ∃ aS cS, (w.cell? ⟨b, off + j * 3, none⟩ = some (.int .i64 (qd ps j).1) ∧ w.cell? ⟨b, off + j * 3 + 1, none⟩ = some (.int .i64 (qd ps j).2.1) ∧ w.cell? ⟨b, off + j * 3 + 2, none⟩ = some (.slice aS (qd ps j).2.2.length cS)) ∧ Row3 w B aS (qd ps j).2.2.length (qd ps j).2.2)
theorem ParcelsAt.below {w w' : World} {a : Option Addr} {n : Nat} {ps : List QD} (h : ParcelsAt w w.heap.size a n ps) (hb : Below w.heap.size w w') : ParcelsAt w' w'.heap.size a n ps := by
  obtain ⟨h1, h2⟩ := h
  refine ⟨h1, ?_⟩
  rcases h2 with h2 | ⟨b, off, e, hB, hc⟩
  · exact .inl h2
  · refine .inr ⟨b, off, e, Nat.lt_of_lt_of_le hB hb.size, fun j hj => ?_⟩
    obtain ⟨aS, cS, hq, hr⟩ := hc j hj
    have q : ∀ o, w'.cell? ⟨b, o, none⟩ = w.cell? ⟨b, o, none⟩ := fun o => hb.cell (p := ⟨b, o, none⟩) hB
    refine ⟨aS, cS, ?_, hr.below hb⟩
    simp only [q]
    exact hq

/-- The first k of a row at block g, its cells vs: the seals of each in a block of their own, each behind the one ahead of it, all behind g, below C. -/
structure ParcelUp (w : World) (C g : Nat) (vs : List Value) (ps : List QD) (G : Nat → Nat) (k : Nat) : Prop where
  R : Room w g vs
  T : ∀ j, j < k → (vs[j * 3]? = some (.int .i64 (qd ps j).1) ∧ vs[j * 3 + 1]? = some (.int .i64 (qd ps j).2.1) ∧ vs[j * 3 + 2]? = some (ss (G j) (qd ps j).2.2.length)) ∧ SHas w (G j) (G j) 0 (qd ps j).2.2.length (qd ps j).2.2
  lo : ∀ j, j < k → g < G j
  up : ∀ i j, i < j → j < k → G i < G j
  hi : ∀ j, j < k → G j < C
  gC : g < C
  C : C ≤ w.heap.size
theorem ParcelUp.mid {X Y : Nat} {w w' : World} {C g : Nat} {vs : List Value} {ps : List QD} {G : Nat → Nat} {k : Nat} (h : ParcelUp w C g vs ps G k) (m : Mid X Y w w') (hn : 0 < vs.length) (q : C ≤ X ∨ Y ≤ g) : ParcelUp w' C g vs ps G k := by
  have hC := h.gC
  refine ⟨m.room h.R hn (by omega), fun j hj => ⟨(h.T j hj).1, m.hasS (h.T j hj).2 ?_⟩, h.lo, h.up, h.hi, h.gC, Nat.le_trans h.C m.size⟩
  have := h.lo j hj
  have := h.hi j hj
  omega
theorem ParcelUp.later {w w' : World} {C g : Nat} {vs : List Value} {ps : List QD} {G : Nat → Nat} {k : Nat} (h : ParcelUp w C g vs ps G k) (hn : 0 < vs.length) (hb : Below w.heap.size w w') : ParcelUp w' C g vs ps G k :=
  h.mid (Mid.of_below (B := C) (C := g) hb) hn (.inl (Nat.le_refl _))
theorem ParcelUp.at {w : World} {C g : Nat} {vs : List Value} {ps : List QD} {G : Nat → Nat} {n : Nat} (h : ParcelUp w C g vs ps G n) (hl : ps.length = n) : ParcelsAt w w.heap.size (some ⟨g, 0, none⟩) n ps := by
  refine ⟨hl, ?_⟩
  by_cases h0 : n = 0
  · exact .inl h0
  refine .inr ⟨g, 0, rfl, by have := h.gC; have := h.C; omega, fun j hj => ?_⟩
  obtain ⟨⟨c0, c1, c2⟩, hS⟩ := h.T j hj
  rw [Nat.zero_add]
  exact ⟨_, _, ⟨h.R.cell _ c0, h.R.cell _ c1, h.R.cell _ c2⟩, hS.row⟩

/-- One more. -/
theorem ParcelUp.next {w w2 : World} {g n k : Nat} {vs : List Value} {ps : List QD} {G : Nat → Nat} (h : ParcelUp w w.heap.size g vs ps G k) (hl : vs.length = n * 3) (hk : k < n) (hb : Below w.heap.size w w2) {g2 : Nat} (hS : SHas w2 w.heap.size g2 0 (qd ps k).2.2.length (qd ps k).2.2) :
    ∃ vs' G', vs'.length = n * 3 ∧ ParcelUp (((w2.setCell ⟨g, k * 3, none⟩ (.int .i64 (qd ps k).1)).setCell ⟨g, k * 3 + 1, none⟩ (.int .i64 (qd ps k).2.1)).setCell ⟨g, k * 3 + 2, none⟩ (ss g2 (qd ps k).2.2.length)) w2.heap.size g vs' ps G' (k + 1) := by
  have hz := hb.size
  have hgC := h.gC
  have hg2 := hS.2.1
  have hg3 := hS.2.2.1
  have h2 := h.later (by omega) hb
  have m : ∀ (w : World) (i : Nat) (u : Value), Mid g (g + 1) w (w.setCell ⟨g, i, none⟩ u) := fun w i u => ⟨rfl, rfl, rfl, by simp, fun k hk e => Below.heap_setCell _ _ _ _ (by simp; omega)⟩
  have mm : Mid g (g + 1) w2 (((w2.setCell ⟨g, k * 3, none⟩ (.int .i64 (qd ps k).1)).setCell ⟨g, k * 3 + 1, none⟩ (.int .i64 (qd ps k).2.1)).setCell ⟨g, k * 3 + 2, none⟩ (ss g2 (qd ps k).2.2.length)) := (((m w2 _ _).trans (m _ _ _)).trans (m _ _ _))
  refine ⟨(((vs.set (k * 3) (.int .i64 (qd ps k).1)).set (k * 3 + 1) (.int .i64 (qd ps k).2.1)).set (k * 3 + 2) (ss g2 (qd ps k).2.2.length)), fun j => if j = k then g2 else G j, by simpa using hl, ?_⟩
  refine ⟨(((h2.R.set _ _).set _ _).set _ _), fun j hj => ?_, fun j hj => ?_, fun i j hij hj => ?_, fun j hj => ?_, by omega, by simp⟩
  · by_cases e : j = k
    · subst e
      simp only [if_true]
      refine ⟨⟨?_, ?_, ?_⟩, mm.hasS ⟨hS.1, Nat.le_refl _, hS.2.2⟩ (.inr (by omega))⟩
      · rw [List.getElem?_set_ne (by omega), List.getElem?_set_ne (by omega), List.getElem?_set_self (by omega)]
      · rw [List.getElem?_set_ne (by omega), List.getElem?_set_self (by simp; omega)]
      · rw [List.getElem?_set_self (by simp; omega)]
    · have hj2 : j < k := by omega
      simp only [if_neg e]
      obtain ⟨⟨c0, c1, c2⟩, hh⟩ := h2.T j hj2
      have := h.lo j hj2
      refine ⟨⟨?_, ?_, ?_⟩, mm.hasS hh (.inr (by omega))⟩
      all_goals rw [List.getElem?_set_ne (by omega), List.getElem?_set_ne (by omega), List.getElem?_set_ne (by omega)]; assumption
  · by_cases e : j = k
    · simp only [if_pos e]; omega
    · simp only [if_neg e]; exact h.lo j (by omega)
  · by_cases e : j = k
    · simp only [if_pos e, if_neg (show ¬ i = k by omega)]
      have := h.hi i (by omega); omega
    · simp only [if_neg e, if_neg (show ¬ i = k by omega)]; exact h.up i j hij (by omega)
  · by_cases e : j = k
    · simp only [if_pos e]; omega
    · simp only [if_neg e]; have := h.hi j (by omega); omega
/-- A whole row that nothing else holds, at block g, all below C. -/
def ParcelAll (w : World) (C g n : Nat) (ps : List QD) : Prop := ∃ vs G, vs.length = n * 3 ∧ ParcelUp w C g vs ps G n
theorem ParcelAll.mid {X Y : Nat} {w w' : World} {C g n : Nat} {ps : List QD} (h : ParcelAll w C g n ps) (m : Mid X Y w w') (q : C ≤ X ∨ Y ≤ g) : ParcelAll w' C g n ps := by
  obtain ⟨vs, G, hl, hU⟩ := h
  by_cases h0 : n = 0
  · subst h0
    have e : vs = [] := List.length_eq_zero_iff.1 (by omega)
    subst e
    exact ⟨[], G, rfl, fun i v hv => by simp at hv, fun j hj => by omega, fun j hj => by omega, fun i j _ hj => by omega, fun j hj => by omega, hU.gC, Nat.le_trans hU.C m.size⟩
  · exact ⟨vs, G, hl, hU.mid m (by omega) q⟩
theorem ParcelAll.later {w w' : World} {C g n : Nat} {ps : List QD} (h : ParcelAll w C g n ps) (hb : Below w.heap.size w w') : ParcelAll w' C g n ps :=
  h.mid (Mid.of_below (B := C) (C := g) hb) (.inl (Nat.le_refl _))
theorem ParcelAll.at {w : World} {C g n : Nat} {ps : List QD} (h : ParcelAll w C g n ps) (hl : ps.length = n) : ParcelsAt w w.heap.size (some ⟨g, 0, none⟩) n ps := by
  obtain ⟨vs, G, _, hU⟩ := h
  exact hU.at hl
theorem ParcelAll.lt {w : World} {C g n : Nat} {ps : List QD} (h : ParcelAll w C g n ps) : g < C ∧ C ≤ w.heap.size := by
  obtain ⟨vs, G, _, hU⟩ := h
  exact ⟨hU.gC, hU.C⟩

end Go.Proofs.YtimakfokgcnklaaGreat.Ns
