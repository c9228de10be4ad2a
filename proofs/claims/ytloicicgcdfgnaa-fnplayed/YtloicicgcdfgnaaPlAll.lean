/-
  Turned of any turn in a right world, by one answer. · impl.Played: what is there behind all turns up to the first that is refused. · Turns played in two parts (plain): the state behind them, and how many are done. · A list of turns that a call owns and that grows: the rows of its turns lie in blocks that nobody writes.
-/
import Derived.Test.YtloicicgcdfgnaaTurnAll
import Derived.WalkMore
import Derived.Test.YtloicicgcdfgnaaNearAll
import Derived.Test.YtloicicgcdfgnaaWdAll
namespace Go.Proofs.Ytloicicgcdfgnaa.Pl
open Go.ChangeShapes Go.WideShapes Go.ChangeAt Go.RowKit
open Ls (el Row)
open Ow (Has ints)
open Rd (Flags)
open Bo (eb HasB)
open Wl (WO wld c9)
open Tu (trn FK TO CB CV TK TF RB RK RO RU GO to_facts wo_more wo_bounds r1_facts rs_facts)
open Ss (RowsAt ln rw_ tot)
set_option linter.unusedVariables false
set_option linter.unusedSimpArgs false

/-- The lists of a turn, and how long they are told to be. -/
structure TT where
  ds : List Int
  es : List (List Int)
  ls : List (List Int)
  fs : List Bool
  rs : List Bool
  nD : Nat
  nE : Nat
  nL : Nat
  nF : Nat
  nR : Nat
/-- Lists of a turn that are not too long. -/
structure TT.Ok (T : TT) : Prop where
  D : T.nD ≤ 1048576
  E : T.nE ≤ 1048576
  L : T.nL ≤ 1048576
  F : T.nF ≤ 1048576
  R : T.nR ≤ 1048576
  tE : tot T.es T.nE ≤ 1048576
  tL : tot T.ls T.nL ≤ 1048576
/-- The rows of a turn in memory. -/
structure TT.At (T : TT) (w : World) (aD aE aL aF aR : Option Addr) : Prop where
  D : Row w w.heap.size aD T.nD T.ds
  E : RowsAt w w.heap.size aE T.nE T.es
  L : RowsAt w w.heap.size aL T.nL T.ls
  F : Flags w w.heap.size aF T.nF T.fs
  R : Flags w w.heap.size aR T.nR T.rs
theorem TT.At.below {T : TT} {w w' : World} {aD aE aL aF aR : Option Addr} (h : T.At w aD aE aL aF aR) (b : Below w.heap.size w w') : T.At w' aD aE aL aF aR :=
  ⟨(h.D.later b (Nat.le_refl _)).more b.size, (h.E.later b (Nat.le_refl _)).more b.size, (h.L.later b (Nat.le_refl _)).more b.size, (h.F.later b (Nat.le_refl _)).more b.size, (h.R.later b (Nat.le_refl _)).more b.size⟩
/-- Whether the turn is done, and what is there behind it. -/
def ok (n l d r p s : Int) (ks : List Int) (k : Nat) (os : List Int) (m : Nat) (t : Int) (T : TT) : Bool := RB n l d r p s ks k os m t T.ds T.es T.ls T.fs T.rs T.nF T.nR
def nk (n l d r p s : Int) (ks : List Int) (k : Nat) (os : List Int) (m : Nat) (t : Int) (T : TT) : List Int := RK n l d r p s ks k os m t T.ds T.es T.ls T.fs T.rs T.nF T.nR
def no (n l d r p s : Int) (ks : List Int) (k : Nat) (os : List Int) (m : Nat) (t : Int) (T : TT) : List Int := RO n l d r p s ks k os m t T.ds T.es T.ls T.fs T.rs T.nF T.nR
def nt (n l d r p s : Int) (ks : List Int) (k : Nat) (os : List Int) (m : Nat) (t : Int) (T : TT) : Int := RU n l d r p s ks k os m t T.ds T.es T.ls T.fs T.rs T.nF T.nR
theorem ok_wo {n l d r p s : Int} {ks : List Int} {k : Nat} {os : List Int} {m : Nat} {t : Int} {T : TT} (h : ok n l d r p s ks k os m t T = true) : WO n l d r p s (nk n l d r p s ks k os m t T) k (no n l d r p s ks k os m t T) m (nt n l d r p s ks k os m t T) = true := by
  unfold ok at h
  unfold nk no nt RK RO RU
  rw [if_pos h, if_pos h, if_pos h]
  unfold RB at h
  exact (Bool.and_eq_true _ _ ▸ h).2

theorem i_turn (n l d r p s t : Int) (b off k cK bo oo m cO : Nat) (aD aE aL aF aR : Option Addr) (cD cE cL cF cR : Nat) (ks os : List Int) (T : TT) (w : World) (hK : Row w w.heap.size (some ⟨b, off, none⟩) k ks) (hO : Row w w.heap.size (some ⟨bo, oo, none⟩) m os) (hA : T.At w aD aE aL aF aR) (hT : T.Ok) (hk : k ≤ 1048576) (hw : WO n l d r p s ks k os m t = true) :
    Calls Try.prog 21 #[wld n l d r p s (.slice (some ⟨b, off, none⟩) k cK) (.slice (some ⟨bo, oo, none⟩) m cO) t, trn (.slice aD T.nD cD) (.slice aE T.nE cE) (.slice aL T.nL cL) (.slice aF T.nF cF) (.slice aR T.nR cR)] w fun e w' => (∃ gK cK' gO cO', e = .returned (.tuple #[wld n l d r p s (.slice (some ⟨gK, 0, none⟩) k cK') (.slice (some ⟨gO, 0, none⟩) m cO') (nt n l d r p s ks k os m t T), .bool (ok n l d r p s ks k os m t T)]) ∧ Has w' w.heap.size gK 0 k (nk n l d r p s ks k os m t T) ∧ Has w' w.heap.size gO 0 m (no n l d r p s ks k os m t T) ∧ gK ≠ gO) ∧ Below w.heap.size w w' := by
  obtain ⟨ds, es, ls, fs, rs, nD, nE, nL, nF, nR⟩ := T
  obtain ⟨hD, hE, hL, hF, hR⟩ := hA
  dsimp only at hD hE hL hF hR ⊢
  unfold ok nk no nt
  dsimp only
  obtain ⟨en, em, k0, hOs⟩ := wo_more hw
  obtain rfl : k = m := em.symm
  obtain rfl : (k : Int) = n := en.symm
  obtain ⟨zK, h0 | ⟨b', off', e, hb, hc⟩⟩ := id hK
  · omega
  cases e
  obtain ⟨zO, h0 | ⟨b', off', e, hbo, hco⟩⟩ := id hO
  · omega
  cases e
  cases ht : TO (k : Int) l d r p s ks k os k t ds es ls fs rs nF nR with
  | false =>
    have hb2 : RB (k : Int) l d r p s ks k os k t ds es ls fs rs nF nR = false := by unfold RB; rw [ht]; rfl
    have e1 : RU (k : Int) l d r p s ks k os k t ds es ls fs rs nF nR = t := by unfold RU; rw [hb2]; rfl
    have e2 : RK (k : Int) l d r p s ks k os k t ds es ls fs rs nF nR = ks := by unfold RK; rw [hb2]; rfl
    have e3 : RO (k : Int) l d r p s ks k os k t ds es ls fs rs nF nR = os := by unfold RO; rw [hb2]; rfl
    rw [hb2, e1, e2, e3]
    refine (Tu.it_b l d r p s t b off k cK bo oo cO aD aE aL aF aR nD cD nE cE nL cL nF cF nR cR ks os ds es ls fs rs w zK hc hb zO hco hbo hD hE hL hF hR hk hT.F hT.R hT.D hT.E hT.L hT.tE hT.tL hw ht).mono ?_
    rintro e w2 ⟨⟨gK, cK', gO, cO', rfl, oK, oO, hne⟩, b2⟩
    exact ⟨⟨gK, cK', gO, cO', rfl, oK.has, oO.has, hne⟩, b2⟩
  | true =>
    obtain ⟨-, eF, eR, h1, h2, h3⟩ := to_facts ht
    obtain ⟨⟨d0, d1⟩, ⟨e0, e1⟩, k16⟩ := wo_bounds hw
    have ⟨zD, hDs⟩ := r1_facts h1
    have ⟨zE, hEs⟩ := rs_facts h2
    have ⟨zL, hLs⟩ := rs_facts h3
    obtain rfl : k = nF := eF.symm
    obtain rfl : k = nR := eR.symm
    obtain rfl : k = nD := by rw [← hD.1]; exact zD.symm
    obtain rfl : k = nE := by rw [← hE.1]; exact zE.symm
    obtain rfl : k = nL := by rw [← hL.1]; exact zL.symm
    have t9 := Tu.wo_liars hw
    refine (Tu.it_c l d r p s t b off k cK bo oo cO aD aE aL aF aR cD cE cL cF cR ks os ds es ls fs rs w zK hc hb zO hco hbo hD hE hL hF hR hk hT.tE hT.tL hw ht hOs (fun i hi => by have := hDs i hi; omega) ⟨t9.2.2.1, t9.2.2.2⟩).mono ?_
    rintro e w2 ⟨⟨gK, cK', gO, cO', rfl, oK, oO, hne⟩, b2⟩
    exact ⟨⟨gK, cK', gO, cO', rfl, oK.has, oO.has, hne⟩, b2⟩

theorem s_turn (n l d r p s t : Int) (b off k cK bo oo m cO : Nat) (aD aE aL aF aR : Option Addr) (cD cE cL cF cR : Nat) (ks os : List Int) (T : TT) (w : World) (hK : Row w w.heap.size (some ⟨b, off, none⟩) k ks) (hO : Row w w.heap.size (some ⟨bo, oo, none⟩) m os) (hA : T.At w aD aE aL aF aR) (hT : T.Ok) (hk : k ≤ 1048576) (hw : WO n l d r p s ks k os m t = true) :
    Calls Try.prog 23 #[wld n l d r p s (.slice (some ⟨b, off, none⟩) k cK) (.slice (some ⟨bo, oo, none⟩) m cO) t, trn (.slice aD T.nD cD) (.slice aE T.nE cE) (.slice aL T.nL cL) (.slice aF T.nF cF) (.slice aR T.nR cR)] w fun e w' => (∃ gK cK' gO cO', e = .returned (.tuple #[wld n l d r p s (.slice (some ⟨gK, 0, none⟩) k cK') (.slice (some ⟨gO, 0, none⟩) m cO') (nt n l d r p s ks k os m t T), .bool (ok n l d r p s ks k os m t T)]) ∧ Has w' w.heap.size gK 0 k (nk n l d r p s ks k os m t T) ∧ Has w' w.heap.size gO 0 m (no n l d r p s ks k os m t T) ∧ gK ≠ gO) ∧ Below w.heap.size w w' := by
  obtain ⟨ds, es, ls, fs, rs, nD, nE, nL, nF, nR⟩ := T
  obtain ⟨hD, hE, hL, hF, hR⟩ := hA
  dsimp only at hD hE hL hF hR ⊢
  unfold ok nk no nt
  dsimp only
  obtain ⟨en, em, k0, hOs⟩ := wo_more hw
  obtain rfl : k = m := em.symm
  obtain rfl : (k : Int) = n := en.symm
  obtain ⟨zK, h0 | ⟨b', off', e, hb, hc⟩⟩ := id hK
  · omega
  cases e
  obtain ⟨zO, h0 | ⟨b', off', e, hbo, hco⟩⟩ := id hO
  · omega
  cases e
  cases ht : TO (k : Int) l d r p s ks k os k t ds es ls fs rs nF nR with
  | false =>
    have hb2 : RB (k : Int) l d r p s ks k os k t ds es ls fs rs nF nR = false := by unfold RB; rw [ht]; rfl
    have e1 : RU (k : Int) l d r p s ks k os k t ds es ls fs rs nF nR = t := by unfold RU; rw [hb2]; rfl
    have e2 : RK (k : Int) l d r p s ks k os k t ds es ls fs rs nF nR = ks := by unfold RK; rw [hb2]; rfl
    have e3 : RO (k : Int) l d r p s ks k os k t ds es ls fs rs nF nR = os := by unfold RO; rw [hb2]; rfl
    rw [hb2, e1, e2, e3]
    refine (Tu.st_b l d r p s t b off k cK bo oo cO aD aE aL aF aR nD cD nE cE nL cL nF cF nR cR ks os ds es ls fs rs w zK hc hb zO hco hbo hD hE hL hF hR hk hT.F hT.R hw ht).mono ?_
    rintro e w2 ⟨⟨gK, cK', gO, cO', rfl, oK, oO, hne⟩, b2⟩
    exact ⟨⟨gK, cK', gO, cO', rfl, oK.has, oO.has, hne⟩, b2⟩
  | true =>
    obtain ⟨-, eF, eR, h1, h2, h3⟩ := to_facts ht
    obtain ⟨⟨d0, d1⟩, ⟨e0, e1⟩, k16⟩ := wo_bounds hw
    have ⟨zD, hDs⟩ := r1_facts h1
    have ⟨zE, hEs⟩ := rs_facts h2
    have ⟨zL, hLs⟩ := rs_facts h3
    obtain rfl : k = nF := eF.symm
    obtain rfl : k = nR := eR.symm
    obtain rfl : k = nD := by rw [← hD.1]; exact zD.symm
    obtain rfl : k = nE := by rw [← hE.1]; exact zE.symm
    obtain rfl : k = nL := by rw [← hL.1]; exact zL.symm
    have t9 := Tu.wo_liars hw
    refine (Tu.st_c l d r p s t b off k cK bo oo cO aD aE aL aF aR cD cE cL cF cR ks os ds es ls fs rs w zK hc hb zO hco hbo hD hE hL hF hR hk hT.tE hT.tL hw ht hOs (fun i hi => by have := hDs i hi; omega) ⟨t9.2.2.1, t9.2.2.2⟩).mono ?_
    rintro e w2 ⟨⟨gK, cK', gO, cO', rfl, oK, oO, hne⟩, b2⟩
    exact ⟨⟨gK, cK', gO, cO', rfl, oK.has, oO.has, hne⟩, b2⟩

end Go.Proofs.Ytloicicgcdfgnaa.Pl

namespace Go.Proofs.Ytloicicgcdfgnaa.Pl
open Go.ChangeShapes Go.WideShapes Go.ChangeAt Go.RowKit
open Ls (el Row)
open Ow (Has ints)
open Rd (Flags)
open Bo (eb HasB)
open Wl (WO wld c9)
open Tu (trn retWB wo_more)
open Ss (RowsAt ln rw_ tot)
open Rm (Room)
set_option linter.unusedVariables false
set_option linter.unusedSimpArgs false

/-- No turn. -/
def t0 : TT := ⟨[], [], [], [], [], 0, 0, 0, 0, 0⟩
def tt (ts : List TT) (j : Nat) : TT := ts.getD j t0
/-- What is there behind j turns: kinds, offs, turns. -/
def ST (n l d r p s : Int) (k m : Nat) (ks os : List Int) (t : Int) (ts : List TT) : Nat → List Int × List Int × Int
  | 0 => (ks, os, t)
  | j + 1 => let S := ST n l d r p s k m ks os t ts j; (nk n l d r p s S.1 k S.2.1 m S.2.2 (tt ts j), no n l d r p s S.1 k S.2.1 m S.2.2 (tt ts j), nt n l d r p s S.1 k S.2.1 m S.2.2 (tt ts j))
def oks (n l d r p s : Int) (k m : Nat) (ks os : List Int) (t : Int) (ts : List TT) (j : Nat) : Bool := ok n l d r p s (ST n l d r p s k m ks os t ts j).1 k (ST n l d r p s k m ks os t ts j).2.1 m (ST n l d r p s k m ks os t ts j).2.2 (tt ts j)
/-- How many of the first j turns are done. -/
def CN (n l d r p s : Int) (k m : Nat) (ks os : List Int) (t : Int) (ts : List TT) : Nat → Nat
  | 0 => 0
  | j + 1 => if CN n l d r p s k m ks os t ts j = j ∧ oks n l d r p s k m ks os t ts j = true then j + 1 else CN n l d r p s k m ks os t ts j
theorem cn_le (n l d r p s : Int) (k m : Nat) (ks os : List Int) (t : Int) (ts : List TT) : ∀ j, CN n l d r p s k m ks os t ts j ≤ j
  | 0 => Nat.le_refl _
  | j + 1 => by
    have := cn_le n l d r p s k m ks os t ts j
    rw [CN]
    split <;> omega
theorem cn_end {n l d r p s : Int} {k m : Nat} {ks os : List Int} {t : Int} {ts : List TT} {j : Nat} (h : CN n l d r p s k m ks os t ts j = j) (h0 : oks n l d r p s k m ks os t ts j = false) : ∀ i, j ≤ i → CN n l d r p s k m ks os t ts i = j
  | i, hi => by
    induction i with
    | zero => obtain rfl : j = 0 := by omega
              rfl
    | succ i ih =>
      by_cases e : j = i + 1
      · subst e; exact h
      · have q := ih (by omega)
        rw [CN, q]
        by_cases e2 : j = i
        · subst e2; rw [h0]; simp
        · rw [if_neg (by omega)]
/-- The rows of turns in memory. -/
def TurnsAt (w : World) (B : Nat) (a : Option Addr) (n : Nat) (ts : List TT) : Prop :=
  ts.length = n ∧ (n = 0 ∨ ∃ g off, a = some ⟨g, off, none⟩ ∧ g < B ∧ ∀ j, j < n → ∃ aD cD aE cE aL cL aF cF aR cR,
    w.cell? ⟨g, off + j * 5, none⟩ = some (.slice aD (tt ts j).nD cD) ∧ w.cell? ⟨g, off + j * 5 + 1, none⟩ = some (.slice aE (tt ts j).nE cE) ∧ w.cell? ⟨g, off + j * 5 + 2, none⟩ = some (.slice aL (tt ts j).nL cL) ∧ w.cell? ⟨g, off + j * 5 + 3, none⟩ = some (.slice aF (tt ts j).nF cF) ∧ w.cell? ⟨g, off + j * 5 + 4, none⟩ = some (.slice aR (tt ts j).nR cR) ∧ (tt ts j).At w aD aE aL aF aR)
theorem TurnsAt.below {w w' : World} {a : Option Addr} {n : Nat} {ts : List TT} (h : TurnsAt w w.heap.size a n ts) (b : Below w.heap.size w w') : TurnsAt w' w'.heap.size a n ts := by
  obtain ⟨h1, h2⟩ := h
  refine ⟨h1, ?_⟩
  rcases h2 with h2 | ⟨g, off, rfl, hg, hc⟩
  · exact .inl h2
  · refine .inr ⟨g, off, rfl, Nat.lt_of_lt_of_le hg b.size, fun j hj => ?_⟩
    obtain ⟨aD, cD, aE, cE, aL, cL, aF, cF, aR, cR, c1, c2, c3, c4, c5, hA⟩ := hc j hj
    refine ⟨aD, cD, aE, cE, aL, cL, aF, cF, aR, cR, ?_, ?_, ?_, ?_, ?_, hA.below b⟩
    · rw [b.cell (p := ⟨g, off + j * 5, none⟩) hg]; exact c1
    · rw [b.cell (p := ⟨g, off + j * 5 + 1, none⟩) hg]; exact c2
    · rw [b.cell (p := ⟨g, off + j * 5 + 2, none⟩) hg]; exact c3
    · rw [b.cell (p := ⟨g, off + j * 5 + 3, none⟩) hg]; exact c4
    · rw [b.cell (p := ⟨g, off + j * 5 + 4, none⟩) hg]; exact c5
theorem has9 {w : World} {B g off n : Nat} {zs : List Int} (h : Has w B g off n zs) {q : Nat} (hne : q ≠ g) (x0 x1 x2 x3 x4 x5 x6 x7 x8 : Value) :
    Has (((((((((w.setCell ⟨q, 0, none⟩ x0).setCell ⟨q, 1, none⟩ x1).setCell ⟨q, 2, none⟩ x2).setCell ⟨q, 3, none⟩ x3).setCell ⟨q, 4, none⟩ x4).setCell ⟨q, 5, none⟩ x5).setCell ⟨q, 6, none⟩ x6).setCell ⟨q, 7, none⟩ x7).setCell ⟨q, 8, none⟩ x8) B g off n zs :=
  ((((((((h.setOther hne 0 x0).setOther hne 1 x1).setOther hne 2 x2).setOther hne 3 x3).setOther hne 4 x4).setOther hne 5 x5).setOther hne 6 x6).setOther hne 7 x7).setOther hne 8 x8
theorem room9o {w : World} {g : Nat} {vs : List Value} (h : Room w g vs) {q : Nat} (hne : q ≠ g) (x0 x1 x2 x3 x4 x5 x6 x7 x8 : Value) :
    Room (((((((((w.setCell ⟨q, 0, none⟩ x0).setCell ⟨q, 1, none⟩ x1).setCell ⟨q, 2, none⟩ x2).setCell ⟨q, 3, none⟩ x3).setCell ⟨q, 4, none⟩ x4).setCell ⟨q, 5, none⟩ x5).setCell ⟨q, 6, none⟩ x6).setCell ⟨q, 7, none⟩ x7).setCell ⟨q, 8, none⟩ x8) g vs :=
  ((((((((h.setOther hne 0 x0).setOther hne 1 x1).setOther hne 2 x2).setOther hne 3 x3).setOther hne 4 x4).setOther hne 5 x5).setOther hne 6 x6).setOther hne 7 x7).setOther hne 8 x8
theorem hasm {w : World} {B B' g off n : Nat} {zs : List Int} (h : Has w B g off n zs) (hB : B' ≤ B) : Has w B' g off n zs := ⟨h.1, Nat.le_trans hB h.2.1, h.2.2⟩

set_option maxHeartbeats 8000000 in
set_option maxRecDepth 100000 in
theorem i_Played_no (n l d r p s t : Int) (a b : Option Addr) (k ka m mb : Nat) (ks os : List Int) (aT : Option Addr) (nT cT : Nat) (ts : List TT) (w : World) (hr : Row w w.heap.size a k ks) (hs : Row w w.heap.size b m os) (hk : k ≤ 1048576) (hm : m ≤ 1048576) (hT : TurnsAt w w.heap.size aT nT ts) (hn : nT ≤ 1048576) (hOk : ∀ j, j < nT → (tt ts j).Ok) (hw : WO n l d r p s ks k os m t = false ∨ 200 < nT) :
    Calls Try.prog 24 #[wld n l d r p s (.slice a k ka) (.slice b m mb) t, .slice aT nT cT] w fun e w' => e = .returned (.tuple #[wld 0 0 0 0 0 0 (.slice none 0 0) (.slice none 0 0) 0, .int .i64 (-1)]) ∧ Below w.heap.size w w' := by
  cases hq : WO n l d r p s ks k os m t with
  | false =>
    have B1 := ((Below.refl w.heap.size w).alloc (Nat.le_refl _) (.cells #[.int .i64 n, .int .i64 l, .int .i64 d, .int .i64 r, .int .i64 p, .int .i64 s, .slice a k ka, .slice b m mb, .int .i64 t] 31)).alloc (by simp) (.cells #[.int .i64 0, .int .i64 0, .int .i64 0, .int .i64 0, .int .i64 0, .int .i64 0, .slice none 0 0, .slice none 0 0, .int .i64 0] 31)
    have R0 := (Room.new w [.int .i64 n, .int .i64 l, .int .i64 d, .int .i64 r, .int .i64 p, .int .i64 s, .slice a k ka, .slice b m mb, .int .i64 t] 31).alloc (.cells #[.int .i64 0, .int .i64 0, .int .i64 0, .int .i64 0, .int .i64 0, .int .i64 0, .slice none 0 0, .slice none 0 0, .int .i64 0] 31)
    have RQ : Room ((w.alloc (.cells #[.int .i64 n, .int .i64 l, .int .i64 d, .int .i64 r, .int .i64 p, .int .i64 s, .slice a k ka, .slice b m mb, .int .i64 t] 31)).alloc (.cells #[.int .i64 0, .int .i64 0, .int .i64 0, .int .i64 0, .int .i64 0, .int .i64 0, .slice none 0 0, .slice none 0 0, .int .i64 0] 31)) (w.heap.size + 1) [.int .i64 0, .int .i64 0, .int .i64 0, .int .i64 0, .int .i64 0, .int .i64 0, .slice none 0 0, .slice none 0 0, .int .i64 0] := Room.at _ [.int .i64 0, .int .i64 0, .int .i64 0, .int .i64 0, .int .i64 0, .int .i64 0, .slice none 0 0, .slice none 0 0, .int .i64 0] 31 _ (by simp)
    go_enter Try.func24, Try.ntmps24
    go_wp2_with fail
    go_step3
    go_wp2_with fail
    refine (Wl.i_WorldOk n l d r p s t a b k ka m mb ks os _ ((hr.later B1 (Nat.le_refl _)).more B1.size) ((hs.later B1 (Nat.le_refl _)).more B1.size) hk hm).mono ?_
    rintro e w2 ⟨rfl, b2⟩
    rw [hq]
    replace RQ := RQ.below b2
    replace B1 := B1.trans (b2.mono B1.size)
    clear b2
    have c0 := RQ.cell 0 rfl
    have c1 := RQ.cell 1 rfl
    have c2 := RQ.cell 2 rfl
    have c3 := RQ.cell 3 rfl
    have c4 := RQ.cell 4 rfl
    have c5 := RQ.cell 5 rfl
    have c6 := RQ.cell 6 rfl
    have c7 := RQ.cell 7 rfl
    have c8 := RQ.cell 8 rfl
    have f0 := RQ.froz 0 rfl
    have f1 := RQ.froz 1 rfl
    have f2 := RQ.froz 2 rfl
    have f3 := RQ.froz 3 rfl
    have f4 := RQ.froz 4 rfl
    have f5 := RQ.froz 5 rfl
    have f6 := RQ.froz 6 rfl
    have f7 := RQ.froz 7 rfl
    have f8 := RQ.froz 8 rfl
    have RX := Rm.over9 RQ (.int .i64 0) (.int .i64 0) (.int .i64 0) (.int .i64 0) (.int .i64 0) (.int .i64 0) (.slice none 0 0) (.slice none 0 0) (.int .i64 0)
    have BX := B1.trans ((Rm.belowOver9 w2 (w.heap.size + 1) (.int .i64 0) (.int .i64 0) (.int .i64 0) (.int .i64 0) (.int .i64 0) (.int .i64 0) (.slice none 0 0) (.slice none 0 0) (.int .i64 0)).mono (by omega))
    go_wp2_with fail
    (try rw [Exit.noGoto_ret])
    refine bodyPost_ret (v := .tuple #[wld 0 0 0 0 0 0 (.slice none 0 0) (.slice none 0 0) 0, .int .i64 (-1)]) (retWB Try.results24 rfl rfl RX) rfl ⟨rfl, BX⟩
  | true =>
    have B1 := ((Below.refl w.heap.size w).alloc (Nat.le_refl _) (.cells #[.int .i64 n, .int .i64 l, .int .i64 d, .int .i64 r, .int .i64 p, .int .i64 s, .slice a k ka, .slice b m mb, .int .i64 t] 31)).alloc (by simp) (.cells #[.int .i64 0, .int .i64 0, .int .i64 0, .int .i64 0, .int .i64 0, .int .i64 0, .slice none 0 0, .slice none 0 0, .int .i64 0] 31)
    have R0 := (Room.new w [.int .i64 n, .int .i64 l, .int .i64 d, .int .i64 r, .int .i64 p, .int .i64 s, .slice a k ka, .slice b m mb, .int .i64 t] 31).alloc (.cells #[.int .i64 0, .int .i64 0, .int .i64 0, .int .i64 0, .int .i64 0, .int .i64 0, .slice none 0 0, .slice none 0 0, .int .i64 0] 31)
    have RQ : Room ((w.alloc (.cells #[.int .i64 n, .int .i64 l, .int .i64 d, .int .i64 r, .int .i64 p, .int .i64 s, .slice a k ka, .slice b m mb, .int .i64 t] 31)).alloc (.cells #[.int .i64 0, .int .i64 0, .int .i64 0, .int .i64 0, .int .i64 0, .int .i64 0, .slice none 0 0, .slice none 0 0, .int .i64 0] 31)) (w.heap.size + 1) [.int .i64 0, .int .i64 0, .int .i64 0, .int .i64 0, .int .i64 0, .int .i64 0, .slice none 0 0, .slice none 0 0, .int .i64 0] := Room.at _ [.int .i64 0, .int .i64 0, .int .i64 0, .int .i64 0, .int .i64 0, .int .i64 0, .slice none 0 0, .slice none 0 0, .int .i64 0] 31 _ (by simp)
    go_enter Try.func24, Try.ntmps24
    go_wp2_with fail
    go_step3
    go_wp2_with fail
    refine (Wl.i_WorldOk n l d r p s t a b k ka m mb ks os _ ((hr.later B1 (Nat.le_refl _)).more B1.size) ((hs.later B1 (Nat.le_refl _)).more B1.size) hk hm).mono ?_
    rintro e w2 ⟨rfl, b2⟩
    rw [hq]
    replace RQ := RQ.below b2
    replace B1 := B1.trans (b2.mono B1.size)
    clear b2
    have c0 := RQ.cell 0 rfl
    have c1 := RQ.cell 1 rfl
    have c2 := RQ.cell 2 rfl
    have c3 := RQ.cell 3 rfl
    have c4 := RQ.cell 4 rfl
    have c5 := RQ.cell 5 rfl
    have c6 := RQ.cell 6 rfl
    have c7 := RQ.cell 7 rfl
    have c8 := RQ.cell 8 rfl
    have f0 := RQ.froz 0 rfl
    have f1 := RQ.froz 1 rfl
    have f2 := RQ.froz 2 rfl
    have f3 := RQ.froz 3 rfl
    have f4 := RQ.froz 4 rfl
    have f5 := RQ.froz 5 rfl
    have f6 := RQ.froz 6 rfl
    have f7 := RQ.froz 7 rfl
    have f8 := RQ.froz 8 rfl
    have h2 : 200 < nT := by rcases hw with hw | hw; (rw [hq] at hw; cases hw); exact hw
    have h200 : (200 : Int) < (nT : Int) := by omega
    have RX := Rm.over9 RQ (.int .i64 0) (.int .i64 0) (.int .i64 0) (.int .i64 0) (.int .i64 0) (.int .i64 0) (.slice none 0 0) (.slice none 0 0) (.int .i64 0)
    have BX := B1.trans ((Rm.belowOver9 w2 (w.heap.size + 1) (.int .i64 0) (.int .i64 0) (.int .i64 0) (.int .i64 0) (.int .i64 0) (.int .i64 0) (.slice none 0 0) (.slice none 0 0) (.int .i64 0)).mono (by omega))
    go_wp2_with fail
    (try rw [Exit.noGoto_ret])
    refine bodyPost_ret (v := .tuple #[wld 0 0 0 0 0 0 (.slice none 0 0) (.slice none 0 0) 0, .int .i64 (-1)]) (retWB Try.results24 rfl rfl RX) rfl ⟨rfl, BX⟩

set_option maxHeartbeats 16000000 in
set_option maxRecDepth 100000 in
theorem i_Played_yes (n l d r p s t : Int) (a b : Option Addr) (k ka m mb : Nat) (ks os : List Int) (aT : Option Addr) (nT cT : Nat) (ts : List TT) (w : World) (hr : Row w w.heap.size a k ks) (hs : Row w w.heap.size b m os) (hk : k ≤ 1048576) (hm : m ≤ 1048576) (hT : TurnsAt w w.heap.size aT nT ts) (hn : nT ≤ 1048576) (hOk : ∀ j, j < nT → (tt ts j).Ok) (hw : WO n l d r p s ks k os m t = true) (h2 : nT ≤ 200) :
    Calls Try.prog 24 #[wld n l d r p s (.slice a k ka) (.slice b m mb) t, .slice aT nT cT] w fun e w' => (∃ gK cK gO cO, e = .returned (.tuple #[wld n l d r p s (.slice (some ⟨gK, 0, none⟩) k cK) (.slice (some ⟨gO, 0, none⟩) m cO) (ST n l d r p s k m ks os t ts (CN n l d r p s k m ks os t ts nT)).2.2, .int .i64 (CN n l d r p s k m ks os t ts nT : Nat)]) ∧ Has w' w.heap.size gK 0 k (ST n l d r p s k m ks os t ts (CN n l d r p s k m ks os t ts nT)).1 ∧ Has w' w.heap.size gO 0 m (ST n l d r p s k m ks os t ts (CN n l d r p s k m ks os t ts nT)).2.1 ∧ gK ≠ gO) ∧ Below w.heap.size w w' := by
  have B1 := ((Below.refl w.heap.size w).alloc (Nat.le_refl _) (.cells #[.int .i64 n, .int .i64 l, .int .i64 d, .int .i64 r, .int .i64 p, .int .i64 s, .slice a k ka, .slice b m mb, .int .i64 t] 31)).alloc (by simp) (.cells #[.int .i64 0, .int .i64 0, .int .i64 0, .int .i64 0, .int .i64 0, .int .i64 0, .slice none 0 0, .slice none 0 0, .int .i64 0] 31)
  have R0 := (Room.new w [.int .i64 n, .int .i64 l, .int .i64 d, .int .i64 r, .int .i64 p, .int .i64 s, .slice a k ka, .slice b m mb, .int .i64 t] 31).alloc (.cells #[.int .i64 0, .int .i64 0, .int .i64 0, .int .i64 0, .int .i64 0, .int .i64 0, .slice none 0 0, .slice none 0 0, .int .i64 0] 31)
  have RQ : Room ((w.alloc (.cells #[.int .i64 n, .int .i64 l, .int .i64 d, .int .i64 r, .int .i64 p, .int .i64 s, .slice a k ka, .slice b m mb, .int .i64 t] 31)).alloc (.cells #[.int .i64 0, .int .i64 0, .int .i64 0, .int .i64 0, .int .i64 0, .int .i64 0, .slice none 0 0, .slice none 0 0, .int .i64 0] 31)) (w.heap.size + 1) [.int .i64 0, .int .i64 0, .int .i64 0, .int .i64 0, .int .i64 0, .int .i64 0, .slice none 0 0, .slice none 0 0, .int .i64 0] := Room.at _ [.int .i64 0, .int .i64 0, .int .i64 0, .int .i64 0, .int .i64 0, .int .i64 0, .slice none 0 0, .slice none 0 0, .int .i64 0] 31 _ (by simp)
  have hkm : Hid (m = k) := (wo_more hw).2.1
  have hk0 := (wo_more hw).2.2.1
  have hm0 : 0 < m := by rw [hkm.out]; exact hk0
  have h200 : ¬ (200 : Int) < (nT : Int) := by omega
  go_enter Try.func24, Try.ntmps24
  go_wp2_with fail
  go_step3
  go_wp2_with fail
  refine (Wl.i_WorldOk n l d r p s t a b k ka m mb ks os _ ((hr.later B1 (Nat.le_refl _)).more B1.size) ((hs.later B1 (Nat.le_refl _)).more B1.size) hk hm).mono ?_
  rintro e w2 ⟨rfl, b2⟩
  rw [hw]
  replace R0 := R0.below b2
  replace RQ := RQ.below b2
  have lQ2 := RQ.lt (by simp)
  replace B1 := B1.trans (b2.mono B1.size)
  clear b2
  have c0 := R0.cell 0 rfl
  have c1 := R0.cell 1 rfl
  have c2 := R0.cell 2 rfl
  have c3 := R0.cell 3 rfl
  have c4 := R0.cell 4 rfl
  have c5 := R0.cell 5 rfl
  have c6 := R0.cell 6 rfl
  have c7 := R0.cell 7 rfl
  have c8 := R0.cell 8 rfl
  go_wp2_with fail
  obtain ⟨zK, h0 | ⟨bk, ofk, rfl, hbk, hck⟩⟩ := id hr
  · omega
  obtain ⟨zO, h0 | ⟨bo, oo, rfl, hbo, hco⟩⟩ := id hs
  · omega
  refine (Tu.copyOfWorld n l d r p s t bk ofk k ka bo oo m mb ks os _ zK (fun j hj => by rw [B1.cell (p := ⟨bk, ofk + j, none⟩) hbk]; exact hck j hj) (Nat.lt_of_lt_of_le hbk B1.size) zO (fun j hj => by rw [B1.cell (p := ⟨bo, oo + j, none⟩) hbo]; exact hco j hj) (Nat.lt_of_lt_of_le hbo B1.size) hk hm).mono ?_
  rintro e w3 ⟨⟨gK, cK, gO, cO, rfl, oK, oO, hlt⟩, b3⟩
  have z3 := b3.size
  have z1 := B1.size
  replace RQ := RQ.below b3
  replace B1 := B1.trans (b3.mono B1.size)
  have hK := oK.has
  have hO := oO.has
  clear c0 c1 c2 c3 c4 c5 c6 c7 c8
  clear b3 oK oO R0
  have b4 : Below w3.heap.size w3 (w3.alloc (.cells #[.int .i64 n, .int .i64 l, .int .i64 d, .int .i64 r, .int .i64 p, .int .i64 s, .slice (some ⟨gK, 0, none⟩) k cK, .slice (some ⟨gO, 0, none⟩) m cO, .int .i64 t] 31)) := (Below.refl _ w3).alloc (Nat.le_refl _) _
  have RP := Room.new w3 [.int .i64 n, .int .i64 l, .int .i64 d, .int .i64 r, .int .i64 p, .int .i64 s, .slice (some ⟨gK, 0, none⟩) k cK, .slice (some ⟨gO, 0, none⟩) m cO, .int .i64 t] 31
  have hPK : w3.heap.size ≠ gK ∧ w3.heap.size ≠ gO ∧ w.heap.size + 1 < gK ∧ w.heap.size + 1 < gO ∧ w.heap.size + 1 < w3.heap.size := by have q1 := hK.2.1; have q2 := hK.2.2.1; have q3 := hO.2.1; have q4 := hO.2.2.1; have q5 := RQ.lt (by simp); omega
  replace RQ := RQ.below b4
  replace B1 := B1.trans (b4.mono B1.size)
  replace hK := hK.later b4 hK.2.2.1
  replace hO := hO.later b4 hO.2.2.1
  clear b4
  go_wp2_with fail
  go_step3
  go_wp2_with fail
  generalize (w3.alloc (.cells #[.int .i64 n, .int .i64 l, .int .i64 d, .int .i64 r, .int .i64 p, .int .i64 s, .slice (some ⟨gK, 0, none⟩) k cK, .slice (some ⟨gO, 0, none⟩) m cO, .int .i64 t] 31)) = w4 at RP RQ B1 hK hO ⊢
  have HS : Hid (CN n l d r p s k m ks os t ts 0 = 0 ∧ WO n l d r p s (ST n l d r p s k m ks os t ts 0).1 k (ST n l d r p s k m ks os t ts 0).2.1 m (ST n l d r p s k m ks os t ts 0).2.2 = true) := ⟨rfl, hw⟩
  clear hw hr hs hck hco
  go_loopw [7, 25] (fun dv iv wr => ∃ (j gK cK gO cO : Nat), j ≤ nT ∧ dv = .int .i64 j ∧ iv = .int .i64 j ∧ Hid (CN n l d r p s k m ks os t ts j = j ∧ WO n l d r p s (ST n l d r p s k m ks os t ts j).1 k (ST n l d r p s k m ks os t ts j).2.1 m (ST n l d r p s k m ks os t ts j).2.2 = true) ∧ Room wr w3.heap.size [.int .i64 n, .int .i64 l, .int .i64 d, .int .i64 r, .int .i64 p, .int .i64 s, .slice (some ⟨gK, 0, none⟩) k cK, .slice (some ⟨gO, 0, none⟩) m cO, .int .i64 (ST n l d r p s k m ks os t ts j).2.2] ∧ Room wr (w.heap.size + 1) [.int .i64 0, .int .i64 0, .int .i64 0, .int .i64 0, .int .i64 0, .int .i64 0, .slice none 0 0, .slice none 0 0, .int .i64 0] ∧ Has wr w.heap.size gK 0 k (ST n l d r p s k m ks os t ts j).1 ∧ Has wr w.heap.size gO 0 m (ST n l d r p s k m ks os t ts j).2.1 ∧ (w3.heap.size ≠ gK ∧ w3.heap.size ≠ gO ∧ w.heap.size + 1 < gK ∧ w.heap.size + 1 < gO) ∧ gK ≠ gO ∧ Below w.heap.size w wr) (fun _ iv _ => nT - (intOf iv).toNat)
  case atStart => exact ⟨0, gK, cK, gO, cO, Nat.zero_le _, rfl, rfl, HS, RP, RQ, hasm hK (by omega), hasm hO (by omega), ⟨hPK.1, hPK.2.1, hPK.2.2.1, hPK.2.2.2.1⟩, by omega, B1⟩
  case round =>
    clear RP RQ hK hO HS
    obtain ⟨j, gK, cK, gO, cO, hj, rfl, rfl, HS, RP, RQ, hK, hO, hP, hne, BB⟩ := hrel
    have hPQ := hPK.2.2.2.2
    have zq := BB.size
    by_cases hlt : j < nT
    · have hi : (j : Int) < (nT : Int) := by omega
      have TR := hT.below BB
      obtain ⟨zT, h0 | ⟨gT, oT, rfl, hgT, hcT⟩⟩ := id TR
      · omega
      obtain ⟨aD, cD, aE, cE, aL, cL, aF, cF, aR, cR, e1, e2, e3, e4, e5, hA⟩ := hcT j hlt
      have hOkj := hOk j hlt
      obtain ⟨hcn, hwo⟩ := HS.out
      have hTT : Hid (tt ts j = tt ts j) := rfl
      clear hTT
      have x0 := RP.cell 0 rfl
      have x1 := RP.cell 1 rfl
      have x2 := RP.cell 2 rfl
      have x3 := RP.cell 3 rfl
      have x4 := RP.cell 4 rfl
      have x5 := RP.cell 5 rfl
      have x6 := RP.cell 6 rfl
      have x7 := RP.cell 7 rfl
      have x8 := RP.cell 8 rfl
      have lP := RP.lt (by simp)
      go_wp2_with fail
      clear x0 x1 x2 x3 x4 x5 x6 x7 x8
      have b5 : Below wr.heap.size wr (wr.alloc (.cells #[.slice aD (tt ts j).nD cD, .slice aE (tt ts j).nE cE, .slice aL (tt ts j).nL cL, .slice aF (tt ts j).nF cF, .slice aR (tt ts j).nR cR] 37)) := (Below.refl _ wr).alloc (Nat.le_refl _) _
      replace RP := RP.below b5
      replace RQ := RQ.below b5
      replace hK := hK.later b5 hK.2.2.1
      replace hO := hO.later b5 hO.2.2.1
      replace BB := BB.trans (b5.mono BB.size)
      replace hA := hA.below b5
      clear b5 e1 e2 e3 e4 e5 TR hcT
      refine (i_turn n l d r p s (ST n l d r p s k m ks os t ts j).2.2 gK 0 k cK gO 0 m cO aD aE aL aF aR cD cE cL cF cR _ _ (tt ts j) _ hK.row hO.row hA hOkj hk hwo).mono ?_
      rintro e w6 ⟨⟨gK', cK', gO', cO', rfl, hK', hO', hne'⟩, b6⟩
      have q1 := hK'.2.1
      have q2 := hO'.2.1
      have q3 := hK'.2.2.1
      have q4 := hO'.2.2.1
      have lP6 := RP.lt (by simp)
      have lQ6 := RQ.lt (by simp)
      (try simp at q1 q2)
      replace RP := RP.below b6
      replace RQ := RQ.below b6
      replace hK := hK.later b6 hK.2.2.1
      replace hO := hO.later b6 hO.2.2.1
      replace BB := BB.trans (b6.mono BB.size)
      clear b6 hA
      have HOK : Hid (ok n l d r p s (ST n l d r p s k m ks os t ts j).1 k (ST n l d r p s k m ks os t ts j).2.1 m (ST n l d r p s k m ks os t ts j).2.2 (tt ts j) = oks n l d r p s k m ks os t ts j) := rfl
      rw [HOK.out]
      have HT1 : Hid (nt n l d r p s (ST n l d r p s k m ks os t ts j).1 k (ST n l d r p s k m ks os t ts j).2.1 m (ST n l d r p s k m ks os t ts j).2.2 (tt ts j) = (ST n l d r p s k m ks os t ts (j + 1)).2.2) := rfl
      rw [HT1.out]
      have hK2 : Has w6 w.heap.size gK' 0 k (ST n l d r p s k m ks os t ts (j + 1)).1 := hasm hK' (by omega)
      have hO2 : Has w6 w.heap.size gO' 0 m (ST n l d r p s k m ks os t ts (j + 1)).2.1 := hasm hO' (by omega)
      clear hK' hO'
      have b7 : Below w6.heap.size w6 (w6.alloc (.cells #[.int .i64 n, .int .i64 l, .int .i64 d, .int .i64 r, .int .i64 p, .int .i64 s, .slice (some ⟨gK', 0, none⟩) k cK', .slice (some ⟨gO', 0, none⟩) m cO', .int .i64 (ST n l d r p s k m ks os t ts (j + 1)).2.2] 31)) := (Below.refl _ w6).alloc (Nat.le_refl _) _
      have RX := Room.new w6 [.int .i64 n, .int .i64 l, .int .i64 d, .int .i64 r, .int .i64 p, .int .i64 s, .slice (some ⟨gK', 0, none⟩) k cK', .slice (some ⟨gO', 0, none⟩) m cO', .int .i64 (ST n l d r p s k m ks os t ts (j + 1)).2.2] 31
      replace RP := RP.below b7
      replace RQ := RQ.below b7
      replace hK := hK.later b7 hK.2.2.1
      replace hO := hO.later b7 hO.2.2.1
      replace hK2 := hK2.later b7 hK2.2.2.1
      replace hO2 := hO2.later b7 hO2.2.2.1
      replace BB := BB.trans (b7.mono BB.size)
      clear b7
      cases hok : oks n l d r p s k m ks os t ts j with
      | true =>
        have HS2 : Hid (CN n l d r p s k m ks os t ts (j + 1) = j + 1 ∧ WO n l d r p s (ST n l d r p s k m ks os t ts (j + 1)).1 k (ST n l d r p s k m ks os t ts (j + 1)).2.1 m (ST n l d r p s k m ks os t ts (j + 1)).2.2 = true) := ⟨by rw [CN, if_pos ⟨hcn, hok⟩], ok_wo hok⟩
        have x0 := RP.cell 0 rfl
        have x1 := RP.cell 1 rfl
        have x2 := RP.cell 2 rfl
        have x3 := RP.cell 3 rfl
        have x4 := RP.cell 4 rfl
        have x5 := RP.cell 5 rfl
        have x6 := RP.cell 6 rfl
        have x7 := RP.cell 7 rfl
        have x8 := RP.cell 8 rfl
        have f0 := RP.froz 0 rfl
        have f1 := RP.froz 1 rfl
        have f2 := RP.froz 2 rfl
        have f3 := RP.froz 3 rfl
        have f4 := RP.froz 4 rfl
        have f5 := RP.froz 5 rfl
        have f6 := RP.froz 6 rfl
        have f7 := RP.froz 7 rfl
        have f8 := RP.froz 8 rfl
        have y0 := RX.cell 0 rfl
        have y1 := RX.cell 1 rfl
        have y2 := RX.cell 2 rfl
        have y3 := RX.cell 3 rfl
        have y4 := RX.cell 4 rfl
        have y5 := RX.cell 5 rfl
        have y6 := RX.cell 6 rfl
        have y7 := RX.cell 7 rfl
        have y8 := RX.cell 8 rfl
        have RP2 := Rm.over9 RP (.int .i64 n) (.int .i64 l) (.int .i64 d) (.int .i64 r) (.int .i64 p) (.int .i64 s) (.slice (some ⟨gK', 0, none⟩) k cK') (.slice (some ⟨gO', 0, none⟩) m cO') (.int .i64 (ST n l d r p s k m ks os t ts (j + 1)).2.2)
        have BX := BB.trans ((Rm.belowOver9 _ w3.heap.size (.int .i64 n) (.int .i64 l) (.int .i64 d) (.int .i64 r) (.int .i64 p) (.int .i64 s) (.slice (some ⟨gK', 0, none⟩) k cK') (.slice (some ⟨gO', 0, none⟩) m cO') (.int .i64 (ST n l d r p s k m ks os t ts (j + 1)).2.2)).mono (by omega))
        have KX := has9 hK2 (q := w3.heap.size) (by omega) (.int .i64 n) (.int .i64 l) (.int .i64 d) (.int .i64 r) (.int .i64 p) (.int .i64 s) (.slice (some ⟨gK', 0, none⟩) k cK') (.slice (some ⟨gO', 0, none⟩) m cO') (.int .i64 (ST n l d r p s k m ks os t ts (j + 1)).2.2)
        have OX := has9 hO2 (q := w3.heap.size) (by omega) (.int .i64 n) (.int .i64 l) (.int .i64 d) (.int .i64 r) (.int .i64 p) (.int .i64 s) (.slice (some ⟨gK', 0, none⟩) k cK') (.slice (some ⟨gO', 0, none⟩) m cO') (.int .i64 (ST n l d r p s k m ks os t ts (j + 1)).2.2)
        have RQ2 := room9o RQ (q := w3.heap.size) (by omega) (.int .i64 n) (.int .i64 l) (.int .i64 d) (.int .i64 r) (.int .i64 p) (.int .i64 s) (.slice (some ⟨gK', 0, none⟩) k cK') (.slice (some ⟨gO', 0, none⟩) m cO') (.int .i64 (ST n l d r p s k m ks os t ts (j + 1)).2.2)
        have v1 : IntKind.i64.wrap ((j : Int) + 1) = (j : Int) + 1 := by rw [IntKind.wrap_i64]; omega
        clear hcn hwo hOkj HOK HT1 hok HS
        go_wp2_with fail
        go_roundw
        case rel => exact ⟨j + 1, gK', cK', gO', cO', by omega, by go_num, by go_num, HS2, RP2, RQ2, KX, OX, ⟨by omega, by omega, by omega, by omega⟩, hne', BX⟩
        case measure => simp [intOf]; omega
      | false =>
        clear RX hK2 hO2 HOK HT1
        have hcn9 := cn_end hcn hok
        clear hok
        have hcn : CN n l d r p s k m ks os t ts nT = j := hcn9 nT (by omega)
        have x0 := RP.cell 0 rfl
        have x1 := RP.cell 1 rfl
        have x2 := RP.cell 2 rfl
        have x3 := RP.cell 3 rfl
        have x4 := RP.cell 4 rfl
        have x5 := RP.cell 5 rfl
        have x6 := RP.cell 6 rfl
        have x7 := RP.cell 7 rfl
        have x8 := RP.cell 8 rfl
        have c0 := RQ.cell 0 rfl
        have c1 := RQ.cell 1 rfl
        have c2 := RQ.cell 2 rfl
        have c3 := RQ.cell 3 rfl
        have c4 := RQ.cell 4 rfl
        have c5 := RQ.cell 5 rfl
        have c6 := RQ.cell 6 rfl
        have c7 := RQ.cell 7 rfl
        have c8 := RQ.cell 8 rfl
        have f0 := RQ.froz 0 rfl
        have f1 := RQ.froz 1 rfl
        have f2 := RQ.froz 2 rfl
        have f3 := RQ.froz 3 rfl
        have f4 := RQ.froz 4 rfl
        have f5 := RQ.froz 5 rfl
        have f6 := RQ.froz 6 rfl
        have f7 := RQ.froz 7 rfl
        have f8 := RQ.froz 8 rfl
        have RX := Rm.over9 RQ (.int .i64 n) (.int .i64 l) (.int .i64 d) (.int .i64 r) (.int .i64 p) (.int .i64 s) (.slice (some ⟨gK, 0, none⟩) k cK) (.slice (some ⟨gO, 0, none⟩) m cO) (.int .i64 (ST n l d r p s k m ks os t ts j).2.2)
        have BX := BB.trans ((Rm.belowOver9 _ (w.heap.size + 1) (.int .i64 n) (.int .i64 l) (.int .i64 d) (.int .i64 r) (.int .i64 p) (.int .i64 s) (.slice (some ⟨gK, 0, none⟩) k cK) (.slice (some ⟨gO, 0, none⟩) m cO) (.int .i64 (ST n l d r p s k m ks os t ts j).2.2)).mono (by omega))
        have KX := has9 hK (q := w.heap.size + 1) (by omega) (.int .i64 n) (.int .i64 l) (.int .i64 d) (.int .i64 r) (.int .i64 p) (.int .i64 s) (.slice (some ⟨gK, 0, none⟩) k cK) (.slice (some ⟨gO, 0, none⟩) m cO) (.int .i64 (ST n l d r p s k m ks os t ts j).2.2)
        have OX := has9 hO (q := w.heap.size + 1) (by omega) (.int .i64 n) (.int .i64 l) (.int .i64 d) (.int .i64 r) (.int .i64 p) (.int .i64 s) (.slice (some ⟨gK, 0, none⟩) k cK) (.slice (some ⟨gO, 0, none⟩) m cO) (.int .i64 (ST n l d r p s k m ks os t ts j).2.2)
        go_wp2_with fail
        (try rw [Exit.noGoto_ret])
        refine bodyPost_ret (v := .tuple #[wld n l d r p s (.slice (some ⟨gK, 0, none⟩) k cK) (.slice (some ⟨gO, 0, none⟩) m cO) (ST n l d r p s k m ks os t ts j).2.2, .int .i64 (j : Int)]) (retWB Try.results24 rfl rfl RX) rfl ⟨⟨gK, cK, gO, cO, by rw [hcn], by rw [hcn]; exact KX, by rw [hcn]; exact OX, hne⟩, BX⟩
    · have e9 : j = nT := by omega
      subst e9
      have hi : ¬ (j : Int) < (j : Int) := by omega
      have hcn : CN n l d r p s k m ks os t ts j = j := HS.out.1
      have x0 := RP.cell 0 rfl
      have x1 := RP.cell 1 rfl
      have x2 := RP.cell 2 rfl
      have x3 := RP.cell 3 rfl
      have x4 := RP.cell 4 rfl
      have x5 := RP.cell 5 rfl
      have x6 := RP.cell 6 rfl
      have x7 := RP.cell 7 rfl
      have x8 := RP.cell 8 rfl
      have c0 := RQ.cell 0 rfl
      have c1 := RQ.cell 1 rfl
      have c2 := RQ.cell 2 rfl
      have c3 := RQ.cell 3 rfl
      have c4 := RQ.cell 4 rfl
      have c5 := RQ.cell 5 rfl
      have c6 := RQ.cell 6 rfl
      have c7 := RQ.cell 7 rfl
      have c8 := RQ.cell 8 rfl
      have f0 := RQ.froz 0 rfl
      have f1 := RQ.froz 1 rfl
      have f2 := RQ.froz 2 rfl
      have f3 := RQ.froz 3 rfl
      have f4 := RQ.froz 4 rfl
      have f5 := RQ.froz 5 rfl
      have f6 := RQ.froz 6 rfl
      have f7 := RQ.froz 7 rfl
      have f8 := RQ.froz 8 rfl
      have RX := Rm.over9 RQ (.int .i64 n) (.int .i64 l) (.int .i64 d) (.int .i64 r) (.int .i64 p) (.int .i64 s) (.slice (some ⟨gK, 0, none⟩) k cK) (.slice (some ⟨gO, 0, none⟩) m cO) (.int .i64 (ST n l d r p s k m ks os t ts j).2.2)
      have BX := BB.trans ((Rm.belowOver9 _ (w.heap.size + 1) (.int .i64 n) (.int .i64 l) (.int .i64 d) (.int .i64 r) (.int .i64 p) (.int .i64 s) (.slice (some ⟨gK, 0, none⟩) k cK) (.slice (some ⟨gO, 0, none⟩) m cO) (.int .i64 (ST n l d r p s k m ks os t ts j).2.2)).mono (by omega))
      have KX := has9 hK (q := w.heap.size + 1) (by omega) (.int .i64 n) (.int .i64 l) (.int .i64 d) (.int .i64 r) (.int .i64 p) (.int .i64 s) (.slice (some ⟨gK, 0, none⟩) k cK) (.slice (some ⟨gO, 0, none⟩) m cO) (.int .i64 (ST n l d r p s k m ks os t ts j).2.2)
      have OX := has9 hO (q := w.heap.size + 1) (by omega) (.int .i64 n) (.int .i64 l) (.int .i64 d) (.int .i64 r) (.int .i64 p) (.int .i64 s) (.slice (some ⟨gK, 0, none⟩) k cK) (.slice (some ⟨gO, 0, none⟩) m cO) (.int .i64 (ST n l d r p s k m ks os t ts j).2.2)
      go_wp2_with fail
      (try rw [Exit.noGoto_ret])
      refine bodyPost_ret (v := .tuple #[wld n l d r p s (.slice (some ⟨gK, 0, none⟩) k cK) (.slice (some ⟨gO, 0, none⟩) m cO) (ST n l d r p s k m ks os t ts j).2.2, .int .i64 (j : Int)]) (retWB Try.results24 rfl rfl RX) rfl ⟨⟨gK, cK, gO, cO, by rw [hcn], by rw [hcn]; exact KX, by rw [hcn]; exact OX, hne⟩, BX⟩

end Go.Proofs.Ytloicicgcdfgnaa.Pl

namespace Go.Proofs.Ytloicicgcdfgnaa.Pl
open Go.ChangeShapes Go.WideShapes Go.ChangeAt Go.RowKit
set_option linter.unusedVariables false
set_option linter.unusedSimpArgs false

section
variable {n l d r p s : Int} {k m : Nat} {ks os : List Int} {t : Int} {ts : List TT}
theorem cn_all : ∀ j, (∀ i, i < j → oks n l d r p s k m ks os t ts i = true) → CN n l d r p s k m ks os t ts j = j
  | 0, _ => rfl
  | j + 1, h => by
    rw [CN, cn_all j (fun i hi => h i (by omega)), if_pos ⟨rfl, h j (by omega)⟩]
theorem tt_drop (c j : Nat) : tt (ts.drop c) j = tt ts (c + j) := by unfold tt; simp [List.getD, List.getElem?_drop]
theorem tt_take {c j : Nat} (h : j < c) : tt (ts.take c) j = tt ts j := by unfold tt; simp [List.getD, List.getElem?_take, h]
theorem tt_app {us : List TT} {j : Nat} (h : j < ts.length) : tt (ts ++ us) j = tt ts j := by unfold tt; simp [List.getD, List.getElem?_append_left h]
theorem tt_last (T : TT) : tt (ts ++ [T]) ts.length = T := by unfold tt; simp [List.getD]
theorem st_same {us : List TT} : ∀ j, (∀ i, i < j → tt us i = tt ts i) → ST n l d r p s k m ks os t us j = ST n l d r p s k m ks os t ts j
  | 0, _ => rfl
  | j + 1, h => by
    rw [ST, ST, st_same j (fun i hi => h i (by omega)), h j (by omega)]
theorem oks_same {us : List TT} {j : Nat} (h : ∀ i, i ≤ j → tt us i = tt ts i) : oks n l d r p s k m ks os t us j = oks n l d r p s k m ks os t ts j := by
  unfold oks
  rw [st_same j (fun i hi => h i (by omega)), h j (Nat.le_refl _)]
theorem st_drop (c : Nat) : ∀ j, ST n l d r p s k m (ST n l d r p s k m ks os t ts c).1 (ST n l d r p s k m ks os t ts c).2.1 (ST n l d r p s k m ks os t ts c).2.2 (ts.drop c) j = ST n l d r p s k m ks os t ts (c + j)
  | 0 => rfl
  | j + 1 => by
    rw [ST, st_drop c j, tt_drop, show c + (j + 1) = c + j + 1 by omega, ST]
theorem oks_drop (c j : Nat) : oks n l d r p s k m (ST n l d r p s k m ks os t ts c).1 (ST n l d r p s k m ks os t ts c).2.1 (ST n l d r p s k m ks os t ts c).2.2 (ts.drop c) j = oks n l d r p s k m ks os t ts (c + j) := by
  unfold oks
  rw [st_drop, tt_drop]
/-- Behind turns that are done the world is right. -/
theorem st_wo (h0 : Wl.WO n l d r p s ks k os m t = true) : ∀ j, (∀ i, i < j → oks n l d r p s k m ks os t ts i = true) → Wl.WO n l d r p s (ST n l d r p s k m ks os t ts j).1 k (ST n l d r p s k m ks os t ts j).2.1 m (ST n l d r p s k m ks os t ts j).2.2 = true
  | 0, _ => h0
  | j + 1, h => ok_wo (h j (by omega))
/-- All of the first c turns, and then all others. -/
theorem parts {N c : Nat} (hz : ts.length = N) (hc : c ≤ N) (h : ∀ i, i < N → oks n l d r p s k m ks os t ts i = true) :
    CN n l d r p s k m ks os t (ts.take c) c = c ∧ ST n l d r p s k m ks os t (ts.take c) c = ST n l d r p s k m ks os t ts c ∧
    CN n l d r p s k m (ST n l d r p s k m ks os t ts c).1 (ST n l d r p s k m ks os t ts c).2.1 (ST n l d r p s k m ks os t ts c).2.2 (ts.drop c) (N - c) = N - c ∧
    ST n l d r p s k m (ST n l d r p s k m ks os t ts c).1 (ST n l d r p s k m ks os t ts c).2.1 (ST n l d r p s k m ks os t ts c).2.2 (ts.drop c) (N - c) = ST n l d r p s k m ks os t ts N ∧
    CN n l d r p s k m ks os t ts N = N := by
  refine ⟨cn_all c (fun i hi => by rw [oks_same (ts := ts) (fun x hx => tt_take (by omega))]; exact h i (by omega)), st_same c (fun x hx => tt_take hx), cn_all _ (fun i hi => by rw [oks_drop]; exact h _ (by omega)), ?_, cn_all N h⟩
  rw [st_drop, show c + (N - c) = N by omega]
/-- The state behind one more turn. -/
theorem st_app {T : TT} : ∀ j, j ≤ ts.length → ST n l d r p s k m ks os t (ts ++ [T]) j = ST n l d r p s k m ks os t ts j := fun j hj => st_same j (fun i hi => tt_app (by omega))
theorem oks_app {T : TT} {j : Nat} (hj : j < ts.length) : oks n l d r p s k m ks os t (ts ++ [T]) j = oks n l d r p s k m ks os t ts j := oks_same (fun i hi => tt_app (by omega))
end

end Go.Proofs.Ytloicicgcdfgnaa.Pl

namespace Go.Proofs.Ytloicicgcdfgnaa.Pl
open Go.ChangeShapes Go.WideShapes Go.ChangeAt Go.RowKit
open Ls (el Row)
open Ow (Has ints)
open Rd (Flags)
open Bo (eb HasB)
open Ss (RowsAt ln rw_ tot)
open Lw (OSS own_move)
set_option linter.unusedVariables false
set_option linter.unusedSimpArgs false

/-- Q holds, and holds on while some blocks stay as they are; g, p, X are none of these. -/
def Fr (Q : World → Prop) (g p X : Nat) (w : World) : Prop :=
  ∃ F : Nat → Prop, (∀ b, F b → b < w.heap.size ∧ b ≠ g ∧ b ≠ p ∧ b ≠ X) ∧ ∀ w', w.heap.size ≤ w'.heap.size → (∀ b, F b → w'.heap[b]? = w.heap[b]?) → Q w'
theorem Fr.now {Q : World → Prop} {g p X : Nat} {w : World} (h : Fr Q g p X w) : Q w := by
  obtain ⟨F, _, h2⟩ := h
  exact h2 w (Nat.le_refl _) (fun _ _ => rfl)
theorem Fr.move {Q : World → Prop} {g g' p X : Nat} {w w' : World} (h : Fr Q g p X w) (hs : w.heap.size ≤ w'.heap.size) (he : ∀ b, b < w.heap.size → b ≠ g → b ≠ p → b ≠ X → w'.heap[b]? = w.heap[b]?) (hg : g' = g ∨ w.heap.size ≤ g') : Fr Q g' p X w' := by
  obtain ⟨F, h1, h2⟩ := h
  refine ⟨F, fun b hb => ?_, fun w2 hs2 he2 => h2 w2 (Nat.le_trans hs hs2) (fun b hb => ?_)⟩
  · obtain ⟨q1, q2, q3, q4⟩ := h1 b hb
    refine ⟨by omega, ?_, q3, q4⟩
    rcases hg with rfl | hg
    · exact q2
    · omega
  · obtain ⟨q1, q2, q3, q4⟩ := h1 b hb
    rw [he2 b hb, he b q1 q2 q3 q4]

theorem hasb_block {w w' : World} {B g n : Nat} {bs : List Bool} (h : HasB w B g 0 n bs) (hs : w.heap.size ≤ w'.heap.size) (e : w'.heap[g]? = w.heap[g]?) : HasB w' B g 0 n bs :=
  ⟨h.1, h.2.1, Nat.lt_of_lt_of_le h.2.2.1 hs, fun k hk => by rw [World.cell?_of_block (w := w) (a := ⟨g, 0 + k, none⟩) e]; exact h.2.2.2.1 k hk, fun k hk => by rw [World.frozen?_of_block (w := w) (a := ⟨g, 0 + k, none⟩) e]; exact h.2.2.2.2 k hk⟩
/-- The rows of a turn that was rolled. -/
theorem ht_fr {w : World} {B0 k gD cD gF gR gE cE gL cL g p X : Nat} {ds : List Int} {es ls : List (List Int)} {fs rs : List Bool} (h : Lw.HT w B0 k gD cD gF gR (.slice (some ⟨gE, 0, none⟩) k cE) (.slice (some ⟨gL, 0, none⟩) k cL) ds es ls fs rs) (hk : 0 < k) (h1 : g < B0) (h2 : p < B0) (h3 : X < B0) :
    Fr (fun w' => (TT.mk ds es ls fs rs k k k k k).At w' (some ⟨gD, 0, none⟩) (some ⟨gE, 0, none⟩) (some ⟨gL, 0, none⟩) (some ⟨gF, 0, none⟩) (some ⟨gR, 0, none⟩)) g p X w := by
  refine ⟨fun b => B0 ≤ b ∧ b < w.heap.size, fun b hb => ⟨hb.2, by omega, by omega, by omega⟩, fun w' hs he => ?_⟩
  obtain ⟨HD, HE, HL, HF, HR⟩ := h
  have hD : Ow.Own w' B0 gD k cD ds := own_move HD (he gD ⟨HD.data.2.1, HD.lt⟩)
  have hE := HE.move (w' := w') none (fun b hB hl _ => he b ⟨hB, hl⟩) (fun b _ e => by cases e) (fun b e => by cases e)
  have hL := HL.move (w' := w') none (fun b hB hl _ => he b ⟨hB, hl⟩) (fun b _ e => by cases e) (fun b e => by cases e)
  obtain ⟨gE', cE', eE, _, rE⟩ := hE.rows hk
  cases eE
  obtain ⟨gL', cL', eL, _, rL⟩ := hL.rows hk
  cases eL
  exact ⟨hD.has.row, rE, rL, (hasb_block HF hs (he gF ⟨HF.2.1, HF.2.2.1⟩)).row, (hasb_block HR hs (he gR ⟨HR.2.1, HR.2.2.1⟩)).row⟩

theorem own5_move {w w' : World} {B g c cap : Nat} {xs : List Value} (h : w.ownsRow B 37 5 (.slice (some ⟨g, 0, none⟩) c cap) c xs) (e : w'.heap[g]? = w.heap[g]?) : w'.ownsRow B 37 5 (.slice (some ⟨g, 0, none⟩) c cap) c xs := by
  obtain ⟨h1, h2⟩ := h
  refine ⟨h1, ?_⟩
  rcases h2 with h2 | ⟨g', cap', cur, e', hB, hb', rest⟩
  · exact .inl h2
  · cases e'
    exact .inr ⟨g, cap, cur, rfl, hB, by rw [e]; exact hb', rest⟩
/-- The list, at g. -/
def LT (B : Nat) (w : World) (g c cap p X : Nat) (ts : List TT) : Prop :=
  ∃ xs : List Value, w.ownsRow B 37 5 (.slice (some ⟨g, 0, none⟩) c cap) c xs ∧ ts.length = c ∧ ∀ j, j < c → ∃ aD cD aE cE aL cL aF cF aR cR,
    (xs[j * 5]? = some (.slice aD (tt ts j).nD cD) ∧ xs[j * 5 + 1]? = some (.slice aE (tt ts j).nE cE) ∧ xs[j * 5 + 2]? = some (.slice aL (tt ts j).nL cL) ∧ xs[j * 5 + 3]? = some (.slice aF (tt ts j).nF cF) ∧ xs[j * 5 + 4]? = some (.slice aR (tt ts j).nR cR)) ∧ Fr (fun w' => (tt ts j).At w' aD aE aL aF aR) g p X w
theorem LT.lt {B : Nat} {w : World} {g c cap p X : Nat} {ts : List TT} (h : LT B w g c cap p X ts) : B ≤ g ∧ g < w.heap.size := by
  obtain ⟨xs, ho, _⟩ := h
  exact ho.lt g rfl
theorem LT.move {B : Nat} {w w' : World} {g c cap p X : Nat} {ts : List TT} (h : LT B w g c cap p X ts) (hs : w.heap.size ≤ w'.heap.size) (hg : w'.heap[g]? = w.heap[g]?) (he : ∀ b, b < w.heap.size → b ≠ g → b ≠ p → b ≠ X → w'.heap[b]? = w.heap[b]?) : LT B w' g c cap p X ts := by
  obtain ⟨xs, ho, hz, hj⟩ := h
  refine ⟨xs, own5_move ho hg, hz, fun j hq => ?_⟩
  obtain ⟨aD, cD, aE, cE, aL, cL, aF, cF, aR, cR, e, f⟩ := hj j hq
  exact ⟨aD, cD, aE, cE, aL, cL, aF, cF, aR, cR, e, f.move hs he (.inl rfl)⟩
theorem LT.below {B : Nat} {w w' : World} {g c cap p X : Nat} {ts : List TT} (h : LT B w g c cap p X ts) (b : Below w.heap.size w w') : LT B w' g c cap p X ts :=
  h.move b.size (b.block g h.lt.2) (fun x hx _ _ _ => b.block x hx)
theorem LT.step {B : Nat} {w w' : World} {g c cap p X : Nat} {ts : List TT} (h : LT B w g c cap p X ts) (s : Dr.Step p w w') (hne : g ≠ p) : LT B w' g c cap p X ts :=
  h.move s.size (s.block g h.lt.2 hne) (fun x hx _ hp _ => s.block x hx hp)
theorem LT.set {B : Nat} {w : World} {g c cap p X : Nat} {ts : List TT} (h : LT B w g c cap p X ts) (hne : g ≠ X) (i : Nat) (u : Value) : LT B (w.setCell ⟨X, i, none⟩ u) g c cap p X ts :=
  h.move (by simp [World.setCell]) (Below.heap_setCell _ _ _ _ (by simp; omega)) (fun x hx _ _ hX => Below.heap_setCell _ _ _ _ (by simp; omega))
/-- The list as the turns that are played. -/
theorem LT.turns {B : Nat} {w : World} {g c cap p X : Nat} {ts : List TT} (h : LT B w g c cap p X ts) : TurnsAt w w.heap.size (some ⟨g, 0, none⟩) c ts := by
  have hl := h.lt
  obtain ⟨xs, ho, hz, hj⟩ := h
  have hc : ∀ j u, xs[j]? = some u → w.cell? ⟨g, 0 + j, none⟩ = some u := fun j u hu => by
    have := ho.cells (g := g) rfl j u hu
    rwa [Ow.addr_add] at this
  refine ⟨hz, ?_⟩
  by_cases h0 : c = 0
  · exact .inl h0
  · refine .inr ⟨g, 0, rfl, hl.2, fun j hq => ?_⟩
    obtain ⟨aD, cD, aE, cE, aL, cL, aF, cF, aR, cR, ⟨e1, e2, e3, e4, e5⟩, f⟩ := hj j hq
    exact ⟨aD, cD, aE, cE, aL, cL, aF, cF, aR, cR, hc _ _ e1, hc _ _ e2, hc _ _ e3, hc _ _ e4, hc _ _ e5, f.now⟩
/-- Its first part, and what is behind it. -/
theorem turns_take {w : World} {a : Option Addr} {n c : Nat} {ts : List TT} (h : TurnsAt w w.heap.size a n ts) (hc : c ≤ n) : TurnsAt w w.heap.size a c (ts.take c) := by
  obtain ⟨h1, h2⟩ := h
  refine ⟨by simp [h1]; omega, ?_⟩
  by_cases h0 : c = 0
  · exact .inl h0
  · rcases h2 with h2 | ⟨g, off, e, hg, hx⟩
    · omega
    · exact .inr ⟨g, off, e, hg, fun j hj => by rw [tt_take hj]; exact hx j (by omega)⟩
theorem turns_drop {w : World} {g off n c : Nat} {ts : List TT} (h : TurnsAt w w.heap.size (some ⟨g, off, none⟩) n ts) (hc : c ≤ n) : TurnsAt w w.heap.size (some ⟨g, off + c * 5, none⟩) (n - c) (ts.drop c) := by
  obtain ⟨h1, h2⟩ := h
  refine ⟨by simp [h1], ?_⟩
  by_cases h0 : n - c = 0
  · exact .inl h0
  · rcases h2 with h2 | ⟨g', off', e, hg, hx⟩
    · omega
    · cases e
      refine .inr ⟨g, off + c * 5, rfl, hg, fun j hj => ?_⟩
      have := hx (c + j) (by omega)
      rw [tt_drop, show off + c * 5 + j * 5 = off + (c + j) * 5 by omega]
      exact this

theorem lt_new {B : Nat} {w : World} (p X : Nat) (hB : B ≤ w.heap.size) : LT B (w.alloc (.cells #[] 37)) w.heap.size 0 0 p X [] :=
  ⟨[], World.ownsRow_made w #[] 0 hB (by unfold maxLen; omega) rfl, rfl, fun j hj => by omega⟩
/-- One more turn behind the list. -/
theorem LT.more {B : Nat} {w w' : World} {g g2 c cap2 p X : Nat} {ts : List TT} {T : TT} {aD aE aL aF aR : Option Addr} {cD cE cL cF cR : Nat} {o : Obj} {xs : List Value} (hl : xs.length = c * 5) (hz : ts.length = c) (hj : ∀ j, j < c → ∃ aD cD aE cE aL cL aF cF aR cR,
    (xs[j * 5]? = some (.slice aD (tt ts j).nD cD) ∧ xs[j * 5 + 1]? = some (.slice aE (tt ts j).nE cE) ∧ xs[j * 5 + 2]? = some (.slice aL (tt ts j).nL cL) ∧ xs[j * 5 + 3]? = some (.slice aF (tt ts j).nF cF) ∧ xs[j * 5 + 4]? = some (.slice aR (tt ts j).nR cR)) ∧ Fr (fun w' => (tt ts j).At w' aD aE aL aF aR) g p X w)
    (hT : Fr (fun w' => T.At w' aD aE aL aF aR) g p X w) (hg : (w.alloc o).grownBy w' (some g)) (h2 : g2 = g ∨ w.heap.size ≤ g2)
    (ho : w'.ownsRow B 37 5 (.slice (some ⟨g2, 0, none⟩) (c + 1) cap2) (c + 1) (xs ++ [.slice aD T.nD cD, .slice aE T.nE cE, .slice aL T.nL cL, .slice aF T.nF cF, .slice aR T.nR cR])) : LT B w' g2 (c + 1) cap2 p X (ts ++ [T]) := by
  have hs : w.heap.size ≤ w'.heap.size := by have := hg.size; simp at this; omega
  have he : ∀ b, b < w.heap.size → b ≠ g → b ≠ p → b ≠ X → w'.heap[b]? = w.heap[b]? := fun b hb hne _ _ => by
    rw [hg.block b (by simp; omega) (fun e => hne (Option.some.inj e))]
    exact Below.heap_alloc _ _ _ hb
  refine ⟨_, ho, by simp [hz], fun j hq => ?_⟩
  by_cases e : j < c
  · obtain ⟨bD, dD, bE, dE, bL, dL, bF, dF, bR, dR, ⟨e1, e2, e3, e4, e5⟩, f⟩ := hj j e
    have et : tt (ts ++ [T]) j = tt ts j := tt_app (by omega)
    rw [et]
    refine ⟨bD, dD, bE, dE, bL, dL, bF, dF, bR, dR, ⟨?_, ?_, ?_, ?_, ?_⟩, f.move hs he h2⟩
    · rw [List.getElem?_append_left (by omega)]; exact e1
    · rw [List.getElem?_append_left (by omega)]; exact e2
    · rw [List.getElem?_append_left (by omega)]; exact e3
    · rw [List.getElem?_append_left (by omega)]; exact e4
    · rw [List.getElem?_append_left (by omega)]; exact e5
  · obtain rfl : j = c := by omega
    have et : tt (ts ++ [T]) j = T := by rw [← hz]; exact tt_last T
    rw [et]
    refine ⟨aD, cD, aE, cE, aL, cL, aF, cF, aR, cR, ⟨?_, ?_, ?_, ?_, ?_⟩, hT.move hs he h2⟩
    · rw [List.getElem?_append_right (by omega), hl]; simp
    · rw [List.getElem?_append_right (by omega), hl]; simp
    · rw [List.getElem?_append_right (by omega), hl]; simp
    · rw [List.getElem?_append_right (by omega), hl]; simp
    · rw [List.getElem?_append_right (by omega), hl]; simp

theorem infoT : (Try.prog.info? 37).map (fun i => (i.zero, i.size, i.bytes)) = some (some (.agg #[.slice none 0 0, .slice none 0 0, .slice none 0 0, .slice none 0 0, .slice none 0 0]), 5, 120) := by kernel_rfl
theorem one5 (w : World) (x0 x1 x2 x3 x4 : Value) (t : TypeId) (b : Nat) (hb : b = w.heap.size) : ∀ j u, [x0, x1, x2, x3, x4][j]? = some u → (w.alloc (.cells #[x0, x1, x2, x3, x4] t)).cell? ((⟨b, 0, none⟩ : Addr).add j) = some u := by
  intro j u hj
  subst hb
  rw [Ow.addr_add, Nat.zero_add]
  match j, hj with
  | 0, hj => simp at hj; subst hj; simp
  | 1, hj => simp at hj; subst hj; simp
  | 2, hj => simp at hj; subst hj; simp
  | 3, hj => simp at hj; subst hj; simp
  | 4, hj => simp at hj; subst hj; simp
  | j + 5, hj => simp at hj
/-- What an append leaves of a list of turns. -/
theorem own5_of {w : World} {B n : Nat} {v : Value} {xs : List Value} (h : w.ownsRow B 37 5 v n xs) (hv : v ≠ .slice none 0 0) : ∃ g cap, v = .slice (some ⟨g, 0, none⟩) n cap ∧ w.ownsRow B 37 5 (.slice (some ⟨g, 0, none⟩) n cap) n xs := by
  rcases h.2 with ⟨h2, _⟩ | ⟨g', cap', cur, e, rest⟩
  · exact absurd h2 hv
  · exact ⟨g', cap', e, by rw [e] at h; exact h⟩
/-- A turn that was rolled, as one of a list. -/
def RTT (k : Nat) (ds : List Int) (es ls : List (List Int)) (fs rs : List Bool) : TT := ⟨ds, es, ls, fs, rs, k, k, k, k, k⟩
theorem rtt_ok {d r f : Int} {k : Nat} {ks ds : List Int} {es ls : List (List Int)} {fs rs : List Bool} (h : Lw.RT d r f k ks ds es ls fs rs) (hk : k ≤ 8) : (RTT k ds es ls fs rs).Ok := by
  have t := h.tE hk
  exact ⟨by unfold RTT; dsimp only; omega, by unfold RTT; dsimp only; omega, by unfold RTT; dsimp only; omega, by unfold RTT; dsimp only; omega, by unfold RTT; dsimp only; omega, t.1, t.2⟩
/-- The state behind one more turn that is right. -/
theorem st_next {f d r s t t1 : Int} {k c : Nat} {ks os ks' os' ds : List Int} {es ls : List (List Int)} {fs rs : List Bool} {ts : List TT} (hz : ts.length = c) (h : ST (k : Int) f d r 1000000 s k k ks os t ts c = (ks', os', t1)) (hb : Tu.RB (k : Int) f d r 1000000 s ks' k os' k t1 ds es ls fs rs k k = true) :
    ST (k : Int) f d r 1000000 s k k ks os t (ts ++ [RTT k ds es ls fs rs]) (c + 1) = (Tu.TK (k : Int) f d r 1000000 s ks' k os' k t1 ds es ls fs rs k k, Tu.TF (k : Int) f d r 1000000 s ks' k os' k t1 ds es ls fs rs k k, t1 + 1) ∧ oks (k : Int) f d r 1000000 s k k ks os t (ts ++ [RTT k ds es ls fs rs]) c = true := by
  have e0 := st_app (n := (k : Int)) (l := f) (d := d) (r := r) (p := 1000000) (s := s) (k := k) (m := k) (ks := ks) (os := os) (t := t) (ts := ts) (T := RTT k ds es ls fs rs) c (by omega)
  have e1 : tt (ts ++ [RTT k ds es ls fs rs]) c = RTT k ds es ls fs rs := by rw [← hz]; exact tt_last _
  constructor
  · rw [ST, e0, h, e1]
    unfold nk no nt RTT Tu.RK Tu.RO Tu.RU
    dsimp only
    rw [if_pos hb, if_pos hb, if_pos hb]
  · unfold oks
    rw [e0, h, e1]
    unfold ok RTT
    exact hb
theorem _root_.Go.Proofs.Ytloicicgcdfgnaa.Lw.Nv.step {X k p : Nat} {f d r s t : Int} {gK cK gO cO : Nat} {ks os : List Int} {w w' : World} (h : Lw.Nv X k f d r s t gK cK gO cO ks os w) (q : Dr.Step p w w') (h1 : X ≠ p) (h2 : gK ≠ p) (h3 : gO ≠ p) : Lw.Nv X k f d r s t gK cK gO cO ks os w' :=
  ⟨Lw.rm_step h.R q h1 (by simp), Lw.has_step h.K q h2, Lw.has_step h.O q h3⟩
theorem _root_.Go.Proofs.Ytloicicgcdfgnaa.Lw.Nw.grown {w0 : World} {B p : Nat} {a : Option Addr} {len cap X k : Nat} {f d r s t : Int} {gK cK gO cO g : Nat} {ks os : List Int} {w w' : World} {o : Obj} (h : Lw.Nw w0 B p a len cap X k f d r s t gK cK gO cO ks os w) (hg : (w.alloc o).grownBy w' (some g)) (hp : g ≠ p) (hX : X ≠ g) (h1 : gK ≠ g) (h2 : gO ≠ g) (hB : B ≤ g) (h0 : w0.heap.size ≤ g) : Lw.Nw w0 B p a len cap X k f d r s t gK cK gO cO ks os w' :=
  ⟨Rw.di_grown (h.st.obj o) hg hp hB h0, (h.R.alloc o).other hg hX, (Lw.has_alloc h.K o).kept hg h1, (Lw.has_alloc h.O o).kept hg h2, h.x⟩
theorem _root_.Go.Proofs.Ytloicicgcdfgnaa.Lw.Nv.grown {X k : Nat} {f d r s t : Int} {gK cK gO cO g : Nat} {ks os : List Int} {w w' : World} {o : Obj} (h : Lw.Nv X k f d r s t gK cK gO cO ks os w) (hg : (w.alloc o).grownBy w' (some g)) (hX : X ≠ g) (h1 : gK ≠ g) (h2 : gO ≠ g) : Lw.Nv X k f d r s t gK cK gO cO ks os w' :=
  ⟨(h.R.alloc o).other hg hX, (Lw.has_alloc h.K o).kept hg h1, (Lw.has_alloc h.O o).kept hg h2⟩
theorem _root_.Go.Proofs.Ytloicicgcdfgnaa.Lw.Nv.over {X q k : Nat} {f d r s t : Int} {gK cK gO cO : Nat} {ks os : List Int} {w : World} (h : Lw.Nv X k f d r s t gK cK gO cO ks os w) (hX : q ≠ X) (h1 : q ≠ gK) (h2 : q ≠ gO) (x0 x1 x2 x3 x4 x5 x6 x7 x8 : Value) :
    Lw.Nv X k f d r s t gK cK gO cO ks os (((((((((w.setCell ⟨q, 0, none⟩ x0).setCell ⟨q, 1, none⟩ x1).setCell ⟨q, 2, none⟩ x2).setCell ⟨q, 3, none⟩ x3).setCell ⟨q, 4, none⟩ x4).setCell ⟨q, 5, none⟩ x5).setCell ⟨q, 6, none⟩ x6).setCell ⟨q, 7, none⟩ x7).setCell ⟨q, 8, none⟩ x8) :=
  ⟨room9o h.R hX _ _ _ _ _ _ _ _ _, has9 h.K h1 _ _ _ _ _ _ _ _ _, has9 h.O h2 _ _ _ _ _ _ _ _ _⟩
theorem LT.over {B : Nat} {w : World} {g c cap p X : Nat} {ts : List TT} (h : LT B w g c cap p X ts) (hne : g ≠ X) (x0 x1 x2 x3 x4 x5 x6 x7 x8 : Value) :
    LT B (((((((((w.setCell ⟨X, 0, none⟩ x0).setCell ⟨X, 1, none⟩ x1).setCell ⟨X, 2, none⟩ x2).setCell ⟨X, 3, none⟩ x3).setCell ⟨X, 4, none⟩ x4).setCell ⟨X, 5, none⟩ x5).setCell ⟨X, 6, none⟩ x6).setCell ⟨X, 7, none⟩ x7).setCell ⟨X, 8, none⟩ x8) g c cap p X ts :=
  ((((((((h.set hne 0 x0).set hne 1 x1).set hne 2 x2).set hne 3 x3).set hne 4 x4).set hne 5 x5).set hne 6 x6).set hne 7 x7).set hne 8 x8

end Go.Proofs.Ytloicicgcdfgnaa.Pl
