/-
  Turned of any turn in a right world, by one answer. · impl.Played: what is there behind all turns up to the first that is refused. · spec.Played: impl.Played's answer. · Lists of turns of the laws: how great one is, a copy of one, whether two are alike, one that is marked. · A list of turns of the laws, handed in: its turns' cells, and what their slices hold. · Both Playeds with one name for each part of the answer; a whole list of turns behind what leaves it as it is.
-/
import Derived.Test.YtcgcmceobmpdiaaGreatTurnAll
import Derived.WalkMore
import Derived.Deep.RegionHeld3
import Derived.Test.YtcgcmceobmpdiaaGreatTk
import Derived.Test.YtcgcmceobmpdiaaGreatTu
import Derived.Test.YtcgcmceobmpdiaaGreatSps
namespace Go.Proofs.YtcgcmceobmpdiaaGreat.Pl
open Go.ChangeShapes Go.WideShapes Go.ChangeAt Go.RowKit
open Ls (el Row)
open Ow (Has ints)
open Rd (Flags)
open Bo (eb HasB)
open Wl (WO wld c9)
open Tu (trn FK TO CB CV TK TF RB RK RO RU GO to_facts wo_more wo_bounds r1_facts rs_facts)
open Ss (RowsAt ln rw_ tot)
set_option linter.unusedVariables false
set_option linter.unusedSimpArgs false

/-- The lists of a turn, and how long they are told to be. -/
structure TT where
  ds : List Int
  es : List (List Int)
  ls : List (List Int)
  fs : List Bool
  rs : List Bool
  nD : Nat
  nE : Nat
  nL : Nat
  nF : Nat
  nR : Nat
/-- Lists of a turn that are not too long. -/
structure TT.Ok (T : TT) : Prop where
  D : T.nD ≤ 1048576
  E : T.nE ≤ 1048576
  L : T.nL ≤ 1048576
  F : T.nF ≤ 1048576
  R : T.nR ≤ 1048576
  tE : tot T.es T.nE ≤ 1048576
  tL : tot T.ls T.nL ≤ 1048576
/-- The rows of a turn in memory. -/
structure TT.At (T : TT) (w : World) (aD aE aL aF aR : Option Addr) : Prop where
  D : Row w w.heap.size aD T.nD T.ds
  E : RowsAt w w.heap.size aE T.nE T.es
  L : RowsAt w w.heap.size aL T.nL T.ls
  F : Flags w w.heap.size aF T.nF T.fs
  R : Flags w w.heap.size aR T.nR T.rs
theorem TT.At.below {T : TT} {w w' : World} {aD aE aL aF aR : Option Addr} (h : T.At w aD aE aL aF aR) (b : Below w.heap.size w w') : T.At w' aD aE aL aF aR :=
  ⟨(h.D.later b (Nat.le_refl _)).more b.size, (h.E.later b (Nat.le_refl _)).more b.size, (h.L.later b (Nat.le_refl _)).more b.size, (h.F.later b (Nat.le_refl _)).more b.size, (h.R.later b (Nat.le_refl _)).more b.size⟩
/-- Whether the turn is done, and what is there behind it. -/
def ok (n l d r p s : Int) (ks : List Int) (k : Nat) (os : List Int) (m : Nat) (t : Int) (T : TT) : Bool := RB n l d r p s ks k os m t T.ds T.es T.ls T.fs T.rs T.nF T.nR
def nk (n l d r p s : Int) (ks : List Int) (k : Nat) (os : List Int) (m : Nat) (t : Int) (T : TT) : List Int := RK n l d r p s ks k os m t T.ds T.es T.ls T.fs T.rs T.nF T.nR
def no (n l d r p s : Int) (ks : List Int) (k : Nat) (os : List Int) (m : Nat) (t : Int) (T : TT) : List Int := RO n l d r p s ks k os m t T.ds T.es T.ls T.fs T.rs T.nF T.nR
def nt (n l d r p s : Int) (ks : List Int) (k : Nat) (os : List Int) (m : Nat) (t : Int) (T : TT) : Int := RU n l d r p s ks k os m t T.ds T.es T.ls T.fs T.rs T.nF T.nR
theorem ok_wo {n l d r p s : Int} {ks : List Int} {k : Nat} {os : List Int} {m : Nat} {t : Int} {T : TT} (h : ok n l d r p s ks k os m t T = true) : WO n l d r p s (nk n l d r p s ks k os m t T) k (no n l d r p s ks k os m t T) m (nt n l d r p s ks k os m t T) = true := by
  unfold ok at h
  unfold nk no nt RK RO RU
  rw [if_pos h, if_pos h, if_pos h]
  unfold RB at h
  exact (Bool.and_eq_true _ _ ▸ h).2

theorem i_turn (n l d r p s t : Int) (b off k cK bo oo m cO : Nat) (aD aE aL aF aR : Option Addr) (cD cE cL cF cR : Nat) (ks os : List Int) (T : TT) (w : World) (hK : Row w w.heap.size (some ⟨b, off, none⟩) k ks) (hO : Row w w.heap.size (some ⟨bo, oo, none⟩) m os) (hA : T.At w aD aE aL aF aR) (hT : T.Ok) (hk : k ≤ 1048576) (hw : WO n l d r p s ks k os m t = true) :
    Calls Tryz.prog 25 #[wld n l d r p s (.slice (some ⟨b, off, none⟩) k cK) (.slice (some ⟨bo, oo, none⟩) m cO) t, trn (.slice aD T.nD cD) (.slice aE T.nE cE) (.slice aL T.nL cL) (.slice aF T.nF cF) (.slice aR T.nR cR)] w fun e w' => (∃ gK cK' gO cO', e = .returned (.tuple #[wld n l d r p s (.slice (some ⟨gK, 0, none⟩) k cK') (.slice (some ⟨gO, 0, none⟩) m cO') (nt n l d r p s ks k os m t T), .bool (ok n l d r p s ks k os m t T)]) ∧ Has w' w.heap.size gK 0 k (nk n l d r p s ks k os m t T) ∧ Has w' w.heap.size gO 0 m (no n l d r p s ks k os m t T) ∧ gK ≠ gO) ∧ Below w.heap.size w w' := by
  obtain ⟨ds, es, ls, fs, rs, nD, nE, nL, nF, nR⟩ := T
  obtain ⟨hD, hE, hL, hF, hR⟩ := hA
  dsimp only at hD hE hL hF hR ⊢
  unfold ok nk no nt
  dsimp only
  obtain ⟨en, em, k0, hOs⟩ := wo_more hw
  obtain rfl : k = m := em.symm
  obtain rfl : (k : Int) = n := en.symm
  obtain ⟨zK, h0 | ⟨b', off', e, hb, hc⟩⟩ := id hK
  · omega
  cases e
  obtain ⟨zO, h0 | ⟨b', off', e, hbo, hco⟩⟩ := id hO
  · omega
  cases e
  cases ht : TO (k : Int) l d r p s ks k os k t ds es ls fs rs nF nR with
  | false =>
    have hb2 : RB (k : Int) l d r p s ks k os k t ds es ls fs rs nF nR = false := by unfold RB; rw [ht]; rfl
    have e1 : RU (k : Int) l d r p s ks k os k t ds es ls fs rs nF nR = t := by unfold RU; rw [hb2]; rfl
    have e2 : RK (k : Int) l d r p s ks k os k t ds es ls fs rs nF nR = ks := by unfold RK; rw [hb2]; rfl
    have e3 : RO (k : Int) l d r p s ks k os k t ds es ls fs rs nF nR = os := by unfold RO; rw [hb2]; rfl
    rw [hb2, e1, e2, e3]
    refine (Tu.it_b l d r p s t b off k cK bo oo cO aD aE aL aF aR nD cD nE cE nL cL nF cF nR cR ks os ds es ls fs rs w zK hc hb zO hco hbo hD hE hL hF hR hk hT.F hT.R hT.D hT.E hT.L hT.tE hT.tL hw ht).mono ?_
    rintro e w2 ⟨⟨gK, cK', gO, cO', rfl, oK, oO, hne⟩, b2⟩
    exact ⟨⟨gK, cK', gO, cO', rfl, oK.has, oO.has, hne⟩, b2⟩
  | true =>
    obtain ⟨-, eF, eR, h1, h2, h3⟩ := to_facts ht
    obtain ⟨⟨d0, d1⟩, ⟨e0, e1⟩, k16⟩ := wo_bounds hw
    have ⟨zD, hDs⟩ := r1_facts h1
    have ⟨zE, hEs⟩ := rs_facts h2
    have ⟨zL, hLs⟩ := rs_facts h3
    obtain rfl : k = nF := eF.symm
    obtain rfl : k = nR := eR.symm
    obtain rfl : k = nD := by rw [← hD.1]; exact zD.symm
    obtain rfl : k = nE := by rw [← hE.1]; exact zE.symm
    obtain rfl : k = nL := by rw [← hL.1]; exact zL.symm
    have t9 := Tu.wo_liars hw
    refine (Tu.it_c l d r p s t b off k cK bo oo cO aD aE aL aF aR cD cE cL cF cR ks os ds es ls fs rs w zK hc hb zO hco hbo hD hE hL hF hR hk hT.tE hT.tL hw ht hOs (fun i hi => by have := hDs i hi; omega) ⟨t9.2.2.1, t9.2.2.2⟩).mono ?_
    rintro e w2 ⟨⟨gK, cK', gO, cO', rfl, oK, oO, hne⟩, b2⟩
    exact ⟨⟨gK, cK', gO, cO', rfl, oK.has, oO.has, hne⟩, b2⟩

theorem s_turn (n l d r p s t : Int) (b off k cK bo oo m cO : Nat) (aD aE aL aF aR : Option Addr) (cD cE cL cF cR : Nat) (ks os : List Int) (T : TT) (w : World) (hK : Row w w.heap.size (some ⟨b, off, none⟩) k ks) (hO : Row w w.heap.size (some ⟨bo, oo, none⟩) m os) (hA : T.At w aD aE aL aF aR) (hT : T.Ok) (hk : k ≤ 1048576) (hw : WO n l d r p s ks k os m t = true) :
    Calls Tryz.prog 19 #[wld n l d r p s (.slice (some ⟨b, off, none⟩) k cK) (.slice (some ⟨bo, oo, none⟩) m cO) t, trn (.slice aD T.nD cD) (.slice aE T.nE cE) (.slice aL T.nL cL) (.slice aF T.nF cF) (.slice aR T.nR cR)] w fun e w' => (∃ gK cK' gO cO', e = .returned (.tuple #[wld n l d r p s (.slice (some ⟨gK, 0, none⟩) k cK') (.slice (some ⟨gO, 0, none⟩) m cO') (nt n l d r p s ks k os m t T), .bool (ok n l d r p s ks k os m t T)]) ∧ Has w' w.heap.size gK 0 k (nk n l d r p s ks k os m t T) ∧ Has w' w.heap.size gO 0 m (no n l d r p s ks k os m t T) ∧ gK ≠ gO) ∧ Below w.heap.size w w' := by
  obtain ⟨ds, es, ls, fs, rs, nD, nE, nL, nF, nR⟩ := T
  obtain ⟨hD, hE, hL, hF, hR⟩ := hA
  dsimp only at hD hE hL hF hR ⊢
  unfold ok nk no nt
  dsimp only
  obtain ⟨en, em, k0, hOs⟩ := wo_more hw
  obtain rfl : k = m := em.symm
  obtain rfl : (k : Int) = n := en.symm
  obtain ⟨zK, h0 | ⟨b', off', e, hb, hc⟩⟩ := id hK
  · omega
  cases e
  obtain ⟨zO, h0 | ⟨b', off', e, hbo, hco⟩⟩ := id hO
  · omega
  cases e
  cases ht : TO (k : Int) l d r p s ks k os k t ds es ls fs rs nF nR with
  | false =>
    have hb2 : RB (k : Int) l d r p s ks k os k t ds es ls fs rs nF nR = false := by unfold RB; rw [ht]; rfl
    have e1 : RU (k : Int) l d r p s ks k os k t ds es ls fs rs nF nR = t := by unfold RU; rw [hb2]; rfl
    have e2 : RK (k : Int) l d r p s ks k os k t ds es ls fs rs nF nR = ks := by unfold RK; rw [hb2]; rfl
    have e3 : RO (k : Int) l d r p s ks k os k t ds es ls fs rs nF nR = os := by unfold RO; rw [hb2]; rfl
    rw [hb2, e1, e2, e3]
    refine (Tu.st_b l d r p s t b off k cK bo oo cO aD aE aL aF aR nD cD nE cE nL cL nF cF nR cR ks os ds es ls fs rs w zK hc hb zO hco hbo hD hE hL hF hR hk hT.F hT.R hw ht).mono ?_
    rintro e w2 ⟨⟨gK, cK', gO, cO', rfl, oK, oO, hne⟩, b2⟩
    exact ⟨⟨gK, cK', gO, cO', rfl, oK.has, oO.has, hne⟩, b2⟩
  | true =>
    obtain ⟨-, eF, eR, h1, h2, h3⟩ := to_facts ht
    obtain ⟨⟨d0, d1⟩, ⟨e0, e1⟩, k16⟩ := wo_bounds hw
    have ⟨zD, hDs⟩ := r1_facts h1
    have ⟨zE, hEs⟩ := rs_facts h2
    have ⟨zL, hLs⟩ := rs_facts h3
    obtain rfl : k = nF := eF.symm
    obtain rfl : k = nR := eR.symm
    obtain rfl : k = nD := by rw [← hD.1]; exact zD.symm
    obtain rfl : k = nE := by rw [← hE.1]; exact zE.symm
    obtain rfl : k = nL := by rw [← hL.1]; exact zL.symm
    have t9 := Tu.wo_liars hw
    refine (Tu.st_c l d r p s t b off k cK bo oo cO aD aE aL aF aR cD cE cL cF cR ks os ds es ls fs rs w zK hc hb zO hco hbo hD hE hL hF hR hk hT.tE hT.tL hw ht hOs (fun i hi => by have := hDs i hi; omega) ⟨t9.2.2.1, t9.2.2.2⟩).mono ?_
    rintro e w2 ⟨⟨gK, cK', gO, cO', rfl, oK, oO, hne⟩, b2⟩
    exact ⟨⟨gK, cK', gO, cO', rfl, oK.has, oO.has, hne⟩, b2⟩

end Go.Proofs.YtcgcmceobmpdiaaGreat.Pl

namespace Go.Proofs.YtcgcmceobmpdiaaGreat.Pl
open Go.ChangeShapes Go.WideShapes Go.ChangeAt Go.RowKit
open Ls (el Row)
open Ow (Has ints)
open Rd (Flags)
open Bo (eb HasB)
open Wl (WO wld c9)
open Tu (trn retWB wo_more)
open Ss (RowsAt ln rw_ tot)
open Rm (Room)
set_option linter.unusedVariables false
set_option linter.unusedSimpArgs false

/-- No turn. -/
def t0 : TT := ⟨[], [], [], [], [], 0, 0, 0, 0, 0⟩
def tt (ts : List TT) (j : Nat) : TT := ts.getD j t0
/-- What is there behind j turns: kinds, offs, turns. -/
def ST (n l d r p s : Int) (k m : Nat) (ks os : List Int) (t : Int) (ts : List TT) : Nat → List Int × List Int × Int
  | 0 => (ks, os, t)
  | j + 1 => let S := ST n l d r p s k m ks os t ts j; (nk n l d r p s S.1 k S.2.1 m S.2.2 (tt ts j), no n l d r p s S.1 k S.2.1 m S.2.2 (tt ts j), nt n l d r p s S.1 k S.2.1 m S.2.2 (tt ts j))
def oks (n l d r p s : Int) (k m : Nat) (ks os : List Int) (t : Int) (ts : List TT) (j : Nat) : Bool := ok n l d r p s (ST n l d r p s k m ks os t ts j).1 k (ST n l d r p s k m ks os t ts j).2.1 m (ST n l d r p s k m ks os t ts j).2.2 (tt ts j)
/-- How many of the first j turns are done. -/
def CN (n l d r p s : Int) (k m : Nat) (ks os : List Int) (t : Int) (ts : List TT) : Nat → Nat
  | 0 => 0
  | j + 1 => if CN n l d r p s k m ks os t ts j = j ∧ oks n l d r p s k m ks os t ts j = true then j + 1 else CN n l d r p s k m ks os t ts j
theorem cn_le (n l d r p s : Int) (k m : Nat) (ks os : List Int) (t : Int) (ts : List TT) : ∀ j, CN n l d r p s k m ks os t ts j ≤ j
  | 0 => Nat.le_refl _
  | j + 1 => by
    have := cn_le n l d r p s k m ks os t ts j
    rw [CN]
    split <;> omega
theorem cn_end {n l d r p s : Int} {k m : Nat} {ks os : List Int} {t : Int} {ts : List TT} {j : Nat} (h : CN n l d r p s k m ks os t ts j = j) (h0 : oks n l d r p s k m ks os t ts j = false) : ∀ i, j ≤ i → CN n l d r p s k m ks os t ts i = j
  | i, hi => by
    induction i with
    | zero => obtain rfl : j = 0 := by omega
              rfl
    | succ i ih =>
      by_cases e : j = i + 1
      · subst e; exact h
      · have q := ih (by omega)
        rw [CN, q]
        by_cases e2 : j = i
        · subst e2; rw [h0]; simp
        · rw [if_neg (by omega)]
/-- The rows of turns in memory. -/
def TurnsAt (w : World) (B : Nat) (a : Option Addr) (n : Nat) (ts : List TT) : Prop :=
  ts.length = n ∧ (n = 0 ∨ ∃ g off, a = some ⟨g, off, none⟩ ∧ g < B ∧ ∀ j, j < n → ∃ aD cD aE cE aL cL aF cF aR cR,
    w.cell? ⟨g, off + j * 5, none⟩ = some (.slice aD (tt ts j).nD cD) ∧ w.cell? ⟨g, off + j * 5 + 1, none⟩ = some (.slice aE (tt ts j).nE cE) ∧ w.cell? ⟨g, off + j * 5 + 2, none⟩ = some (.slice aL (tt ts j).nL cL) ∧ w.cell? ⟨g, off + j * 5 + 3, none⟩ = some (.slice aF (tt ts j).nF cF) ∧ w.cell? ⟨g, off + j * 5 + 4, none⟩ = some (.slice aR (tt ts j).nR cR) ∧ (tt ts j).At w aD aE aL aF aR)
theorem TurnsAt.below {w w' : World} {a : Option Addr} {n : Nat} {ts : List TT} (h : TurnsAt w w.heap.size a n ts) (b : Below w.heap.size w w') : TurnsAt w' w'.heap.size a n ts := by
  obtain ⟨h1, h2⟩ := h
  refine ⟨h1, ?_⟩
  rcases h2 with h2 | ⟨g, off, rfl, hg, hc⟩
  · exact .inl h2
  · refine .inr ⟨g, off, rfl, Nat.lt_of_lt_of_le hg b.size, fun j hj => ?_⟩
    obtain ⟨aD, cD, aE, cE, aL, cL, aF, cF, aR, cR, c1, c2, c3, c4, c5, hA⟩ := hc j hj
    refine ⟨aD, cD, aE, cE, aL, cL, aF, cF, aR, cR, ?_, ?_, ?_, ?_, ?_, hA.below b⟩
    · rw [b.cell (p := ⟨g, off + j * 5, none⟩) hg]; exact c1
    · rw [b.cell (p := ⟨g, off + j * 5 + 1, none⟩) hg]; exact c2
    · rw [b.cell (p := ⟨g, off + j * 5 + 2, none⟩) hg]; exact c3
    · rw [b.cell (p := ⟨g, off + j * 5 + 3, none⟩) hg]; exact c4
    · rw [b.cell (p := ⟨g, off + j * 5 + 4, none⟩) hg]; exact c5
theorem has9 {w : World} {B g off n : Nat} {zs : List Int} (h : Has w B g off n zs) {q : Nat} (hne : q ≠ g) (x0 x1 x2 x3 x4 x5 x6 x7 x8 : Value) :
    Has (((((((((w.setCell ⟨q, 0, none⟩ x0).setCell ⟨q, 1, none⟩ x1).setCell ⟨q, 2, none⟩ x2).setCell ⟨q, 3, none⟩ x3).setCell ⟨q, 4, none⟩ x4).setCell ⟨q, 5, none⟩ x5).setCell ⟨q, 6, none⟩ x6).setCell ⟨q, 7, none⟩ x7).setCell ⟨q, 8, none⟩ x8) B g off n zs :=
  ((((((((h.setOther hne 0 x0).setOther hne 1 x1).setOther hne 2 x2).setOther hne 3 x3).setOther hne 4 x4).setOther hne 5 x5).setOther hne 6 x6).setOther hne 7 x7).setOther hne 8 x8
theorem room9o {w : World} {g : Nat} {vs : List Value} (h : Room w g vs) {q : Nat} (hne : q ≠ g) (x0 x1 x2 x3 x4 x5 x6 x7 x8 : Value) :
    Room (((((((((w.setCell ⟨q, 0, none⟩ x0).setCell ⟨q, 1, none⟩ x1).setCell ⟨q, 2, none⟩ x2).setCell ⟨q, 3, none⟩ x3).setCell ⟨q, 4, none⟩ x4).setCell ⟨q, 5, none⟩ x5).setCell ⟨q, 6, none⟩ x6).setCell ⟨q, 7, none⟩ x7).setCell ⟨q, 8, none⟩ x8) g vs :=
  ((((((((h.setOther hne 0 x0).setOther hne 1 x1).setOther hne 2 x2).setOther hne 3 x3).setOther hne 4 x4).setOther hne 5 x5).setOther hne 6 x6).setOther hne 7 x7).setOther hne 8 x8
theorem hasm {w : World} {B B' g off n : Nat} {zs : List Int} (h : Has w B g off n zs) (hB : B' ≤ B) : Has w B' g off n zs := ⟨h.1, Nat.le_trans hB h.2.1, h.2.2⟩

set_option maxHeartbeats 8000000 in
set_option maxRecDepth 100000 in
theorem i_Played_no (n l d r p s t : Int) (a b : Option Addr) (k ka m mb : Nat) (ks os : List Int) (aT : Option Addr) (nT cT : Nat) (ts : List TT) (w : World) (hr : Row w w.heap.size a k ks) (hs : Row w w.heap.size b m os) (hk : k ≤ 1048576) (hm : m ≤ 1048576) (hT : TurnsAt w w.heap.size aT nT ts) (hn : nT ≤ 1048576) (hOk : ∀ j, j < nT → (tt ts j).Ok) (hw : WO n l d r p s ks k os m t = false ∨ 200 < nT) :
    Calls Tryz.prog 9 #[wld n l d r p s (.slice a k ka) (.slice b m mb) t, .slice aT nT cT] w fun e w' => e = .returned (.tuple #[wld 0 0 0 0 0 0 (.slice none 0 0) (.slice none 0 0) 0, .int .i64 (-1)]) ∧ Below w.heap.size w w' := by
  cases hq : WO n l d r p s ks k os m t with
  | false =>
    have B1 := ((Below.refl w.heap.size w).alloc (Nat.le_refl _) (.cells #[.int .i64 n, .int .i64 l, .int .i64 d, .int .i64 r, .int .i64 p, .int .i64 s, .slice a k ka, .slice b m mb, .int .i64 t] 32)).alloc (by simp) (.cells #[.int .i64 0, .int .i64 0, .int .i64 0, .int .i64 0, .int .i64 0, .int .i64 0, .slice none 0 0, .slice none 0 0, .int .i64 0] 32)
    have R0 := (Room.new w [.int .i64 n, .int .i64 l, .int .i64 d, .int .i64 r, .int .i64 p, .int .i64 s, .slice a k ka, .slice b m mb, .int .i64 t] 32).alloc (.cells #[.int .i64 0, .int .i64 0, .int .i64 0, .int .i64 0, .int .i64 0, .int .i64 0, .slice none 0 0, .slice none 0 0, .int .i64 0] 32)
    have RQ : Room ((w.alloc (.cells #[.int .i64 n, .int .i64 l, .int .i64 d, .int .i64 r, .int .i64 p, .int .i64 s, .slice a k ka, .slice b m mb, .int .i64 t] 32)).alloc (.cells #[.int .i64 0, .int .i64 0, .int .i64 0, .int .i64 0, .int .i64 0, .int .i64 0, .slice none 0 0, .slice none 0 0, .int .i64 0] 32)) (w.heap.size + 1) [.int .i64 0, .int .i64 0, .int .i64 0, .int .i64 0, .int .i64 0, .int .i64 0, .slice none 0 0, .slice none 0 0, .int .i64 0] := Room.at _ [.int .i64 0, .int .i64 0, .int .i64 0, .int .i64 0, .int .i64 0, .int .i64 0, .slice none 0 0, .slice none 0 0, .int .i64 0] 32 _ (by simp)
    go_enter Tryz.func9, Tryz.ntmps9
    go_wp2_with fail
    go_step3
    go_wp2_with fail
    refine (Wl.i_WorldOk n l d r p s t a b k ka m mb ks os _ ((hr.later B1 (Nat.le_refl _)).more B1.size) ((hs.later B1 (Nat.le_refl _)).more B1.size) hk hm).mono ?_
    rintro e w2 ⟨rfl, b2⟩
    rw [hq]
    replace RQ := RQ.below b2
    replace B1 := B1.trans (b2.mono B1.size)
    clear b2
    have c0 := RQ.cell 0 rfl
    have c1 := RQ.cell 1 rfl
    have c2 := RQ.cell 2 rfl
    have c3 := RQ.cell 3 rfl
    have c4 := RQ.cell 4 rfl
    have c5 := RQ.cell 5 rfl
    have c6 := RQ.cell 6 rfl
    have c7 := RQ.cell 7 rfl
    have c8 := RQ.cell 8 rfl
    have f0 := RQ.froz 0 rfl
    have f1 := RQ.froz 1 rfl
    have f2 := RQ.froz 2 rfl
    have f3 := RQ.froz 3 rfl
    have f4 := RQ.froz 4 rfl
    have f5 := RQ.froz 5 rfl
    have f6 := RQ.froz 6 rfl
    have f7 := RQ.froz 7 rfl
    have f8 := RQ.froz 8 rfl
    have RX := Rm.over9 RQ (.int .i64 0) (.int .i64 0) (.int .i64 0) (.int .i64 0) (.int .i64 0) (.int .i64 0) (.slice none 0 0) (.slice none 0 0) (.int .i64 0)
    have BX := B1.trans ((Rm.belowOver9 w2 (w.heap.size + 1) (.int .i64 0) (.int .i64 0) (.int .i64 0) (.int .i64 0) (.int .i64 0) (.int .i64 0) (.slice none 0 0) (.slice none 0 0) (.int .i64 0)).mono (by omega))
    go_wp2_with fail
    (try rw [Exit.noGoto_ret])
    refine bodyPost_ret (v := .tuple #[wld 0 0 0 0 0 0 (.slice none 0 0) (.slice none 0 0) 0, .int .i64 (-1)]) (retWB Tryz.results9 rfl rfl RX) rfl ⟨rfl, BX⟩
  | true =>
    have B1 := ((Below.refl w.heap.size w).alloc (Nat.le_refl _) (.cells #[.int .i64 n, .int .i64 l, .int .i64 d, .int .i64 r, .int .i64 p, .int .i64 s, .slice a k ka, .slice b m mb, .int .i64 t] 32)).alloc (by simp) (.cells #[.int .i64 0, .int .i64 0, .int .i64 0, .int .i64 0, .int .i64 0, .int .i64 0, .slice none 0 0, .slice none 0 0, .int .i64 0] 32)
    have R0 := (Room.new w [.int .i64 n, .int .i64 l, .int .i64 d, .int .i64 r, .int .i64 p, .int .i64 s, .slice a k ka, .slice b m mb, .int .i64 t] 32).alloc (.cells #[.int .i64 0, .int .i64 0, .int .i64 0, .int .i64 0, .int .i64 0, .int .i64 0, .slice none 0 0, .slice none 0 0, .int .i64 0] 32)
    have RQ : Room ((w.alloc (.cells #[.int .i64 n, .int .i64 l, .int .i64 d, .int .i64 r, .int .i64 p, .int .i64 s, .slice a k ka, .slice b m mb, .int .i64 t] 32)).alloc (.cells #[.int .i64 0, .int .i64 0, .int .i64 0, .int .i64 0, .int .i64 0, .int .i64 0, .slice none 0 0, .slice none 0 0, .int .i64 0] 32)) (w.heap.size + 1) [.int .i64 0, .int .i64 0, .int .i64 0, .int .i64 0, .int .i64 0, .int .i64 0, .slice none 0 0, .slice none 0 0, .int .i64 0] := Room.at _ [.int .i64 0, .int .i64 0, .int .i64 0, .int .i64 0, .int .i64 0, .int .i64 0, .slice none 0 0, .slice none 0 0, .int .i64 0] 32 _ (by simp)
    go_enter Tryz.func9, Tryz.ntmps9
    go_wp2_with fail
    go_step3
    go_wp2_with fail
    refine (Wl.i_WorldOk n l d r p s t a b k ka m mb ks os _ ((hr.later B1 (Nat.le_refl _)).more B1.size) ((hs.later B1 (Nat.le_refl _)).more B1.size) hk hm).mono ?_
    rintro e w2 ⟨rfl, b2⟩
    rw [hq]
    replace RQ := RQ.below b2
    replace B1 := B1.trans (b2.mono B1.size)
    clear b2
    have c0 := RQ.cell 0 rfl
    have c1 := RQ.cell 1 rfl
    have c2 := RQ.cell 2 rfl
    have c3 := RQ.cell 3 rfl
    have c4 := RQ.cell 4 rfl
    have c5 := RQ.cell 5 rfl
    have c6 := RQ.cell 6 rfl
    have c7 := RQ.cell 7 rfl
    have c8 := RQ.cell 8 rfl
    have f0 := RQ.froz 0 rfl
    have f1 := RQ.froz 1 rfl
    have f2 := RQ.froz 2 rfl
    have f3 := RQ.froz 3 rfl
    have f4 := RQ.froz 4 rfl
    have f5 := RQ.froz 5 rfl
    have f6 := RQ.froz 6 rfl
    have f7 := RQ.froz 7 rfl
    have f8 := RQ.froz 8 rfl
    have h2 : 200 < nT := by rcases hw with hw | hw; (rw [hq] at hw; cases hw); exact hw
    have h200 : (200 : Int) < (nT : Int) := by omega
    have RX := Rm.over9 RQ (.int .i64 0) (.int .i64 0) (.int .i64 0) (.int .i64 0) (.int .i64 0) (.int .i64 0) (.slice none 0 0) (.slice none 0 0) (.int .i64 0)
    have BX := B1.trans ((Rm.belowOver9 w2 (w.heap.size + 1) (.int .i64 0) (.int .i64 0) (.int .i64 0) (.int .i64 0) (.int .i64 0) (.int .i64 0) (.slice none 0 0) (.slice none 0 0) (.int .i64 0)).mono (by omega))
    go_wp2_with fail
    (try rw [Exit.noGoto_ret])
    refine bodyPost_ret (v := .tuple #[wld 0 0 0 0 0 0 (.slice none 0 0) (.slice none 0 0) 0, .int .i64 (-1)]) (retWB Tryz.results9 rfl rfl RX) rfl ⟨rfl, BX⟩

set_option maxHeartbeats 16000000 in
set_option maxRecDepth 100000 in
theorem i_Played_yes (n l d r p s t : Int) (a b : Option Addr) (k ka m mb : Nat) (ks os : List Int) (aT : Option Addr) (nT cT : Nat) (ts : List TT) (w : World) (hr : Row w w.heap.size a k ks) (hs : Row w w.heap.size b m os) (hk : k ≤ 1048576) (hm : m ≤ 1048576) (hT : TurnsAt w w.heap.size aT nT ts) (hn : nT ≤ 1048576) (hOk : ∀ j, j < nT → (tt ts j).Ok) (hw : WO n l d r p s ks k os m t = true) (h2 : nT ≤ 200) :
    Calls Tryz.prog 9 #[wld n l d r p s (.slice a k ka) (.slice b m mb) t, .slice aT nT cT] w fun e w' => (∃ gK cK gO cO, e = .returned (.tuple #[wld n l d r p s (.slice (some ⟨gK, 0, none⟩) k cK) (.slice (some ⟨gO, 0, none⟩) m cO) (ST n l d r p s k m ks os t ts (CN n l d r p s k m ks os t ts nT)).2.2, .int .i64 (CN n l d r p s k m ks os t ts nT : Nat)]) ∧ Has w' w.heap.size gK 0 k (ST n l d r p s k m ks os t ts (CN n l d r p s k m ks os t ts nT)).1 ∧ Has w' w.heap.size gO 0 m (ST n l d r p s k m ks os t ts (CN n l d r p s k m ks os t ts nT)).2.1 ∧ gK ≠ gO) ∧ Below w.heap.size w w' := by
  have B1 := ((Below.refl w.heap.size w).alloc (Nat.le_refl _) (.cells #[.int .i64 n, .int .i64 l, .int .i64 d, .int .i64 r, .int .i64 p, .int .i64 s, .slice a k ka, .slice b m mb, .int .i64 t] 32)).alloc (by simp) (.cells #[.int .i64 0, .int .i64 0, .int .i64 0, .int .i64 0, .int .i64 0, .int .i64 0, .slice none 0 0, .slice none 0 0, .int .i64 0] 32)
  have R0 := (Room.new w [.int .i64 n, .int .i64 l, .int .i64 d, .int .i64 r, .int .i64 p, .int .i64 s, .slice a k ka, .slice b m mb, .int .i64 t] 32).alloc (.cells #[.int .i64 0, .int .i64 0, .int .i64 0, .int .i64 0, .int .i64 0, .int .i64 0, .slice none 0 0, .slice none 0 0, .int .i64 0] 32)
  have RQ : Room ((w.alloc (.cells #[.int .i64 n, .int .i64 l, .int .i64 d, .int .i64 r, .int .i64 p, .int .i64 s, .slice a k ka, .slice b m mb, .int .i64 t] 32)).alloc (.cells #[.int .i64 0, .int .i64 0, .int .i64 0, .int .i64 0, .int .i64 0, .int .i64 0, .slice none 0 0, .slice none 0 0, .int .i64 0] 32)) (w.heap.size + 1) [.int .i64 0, .int .i64 0, .int .i64 0, .int .i64 0, .int .i64 0, .int .i64 0, .slice none 0 0, .slice none 0 0, .int .i64 0] := Room.at _ [.int .i64 0, .int .i64 0, .int .i64 0, .int .i64 0, .int .i64 0, .int .i64 0, .slice none 0 0, .slice none 0 0, .int .i64 0] 32 _ (by simp)
  have hkm : Hid (m = k) := (wo_more hw).2.1
  have hk0 := (wo_more hw).2.2.1
  have hm0 : 0 < m := by rw [hkm.out]; exact hk0
  have h200 : ¬ (200 : Int) < (nT : Int) := by omega
  go_enter Tryz.func9, Tryz.ntmps9
  go_wp2_with fail
  go_step3
  go_wp2_with fail
  refine (Wl.i_WorldOk n l d r p s t a b k ka m mb ks os _ ((hr.later B1 (Nat.le_refl _)).more B1.size) ((hs.later B1 (Nat.le_refl _)).more B1.size) hk hm).mono ?_
  rintro e w2 ⟨rfl, b2⟩
  rw [hw]
  replace R0 := R0.below b2
  replace RQ := RQ.below b2
  have lQ2 := RQ.lt (by simp)
  replace B1 := B1.trans (b2.mono B1.size)
  clear b2
  have c0 := R0.cell 0 rfl
  have c1 := R0.cell 1 rfl
  have c2 := R0.cell 2 rfl
  have c3 := R0.cell 3 rfl
  have c4 := R0.cell 4 rfl
  have c5 := R0.cell 5 rfl
  have c6 := R0.cell 6 rfl
  have c7 := R0.cell 7 rfl
  have c8 := R0.cell 8 rfl
  go_wp2_with fail
  obtain ⟨zK, h0 | ⟨bk, ofk, rfl, hbk, hck⟩⟩ := id hr
  · omega
  obtain ⟨zO, h0 | ⟨bo, oo, rfl, hbo, hco⟩⟩ := id hs
  · omega
  refine (Tu.copyOfWorld n l d r p s t bk ofk k ka bo oo m mb ks os _ zK (fun j hj => by rw [B1.cell (p := ⟨bk, ofk + j, none⟩) hbk]; exact hck j hj) (Nat.lt_of_lt_of_le hbk B1.size) zO (fun j hj => by rw [B1.cell (p := ⟨bo, oo + j, none⟩) hbo]; exact hco j hj) (Nat.lt_of_lt_of_le hbo B1.size) hk hm).mono ?_
  rintro e w3 ⟨⟨gK, cK, gO, cO, rfl, oK, oO, hlt⟩, b3⟩
  have z3 := b3.size
  have z1 := B1.size
  replace RQ := RQ.below b3
  replace B1 := B1.trans (b3.mono B1.size)
  have hK := oK.has
  have hO := oO.has
  clear c0 c1 c2 c3 c4 c5 c6 c7 c8
  clear b3 oK oO R0
  have b4 : Below w3.heap.size w3 (w3.alloc (.cells #[.int .i64 n, .int .i64 l, .int .i64 d, .int .i64 r, .int .i64 p, .int .i64 s, .slice (some ⟨gK, 0, none⟩) k cK, .slice (some ⟨gO, 0, none⟩) m cO, .int .i64 t] 32)) := (Below.refl _ w3).alloc (Nat.le_refl _) _
  have RP := Room.new w3 [.int .i64 n, .int .i64 l, .int .i64 d, .int .i64 r, .int .i64 p, .int .i64 s, .slice (some ⟨gK, 0, none⟩) k cK, .slice (some ⟨gO, 0, none⟩) m cO, .int .i64 t] 32
  have hPK : w3.heap.size ≠ gK ∧ w3.heap.size ≠ gO ∧ w.heap.size + 1 < gK ∧ w.heap.size + 1 < gO ∧ w.heap.size + 1 < w3.heap.size := by have q1 := hK.2.1; have q2 := hK.2.2.1; have q3 := hO.2.1; have q4 := hO.2.2.1; have q5 := RQ.lt (by simp); omega
  replace RQ := RQ.below b4
  replace B1 := B1.trans (b4.mono B1.size)
  replace hK := hK.later b4 hK.2.2.1
  replace hO := hO.later b4 hO.2.2.1
  clear b4
  go_wp2_with fail
  go_step3
  go_wp2_with fail
  generalize (w3.alloc (.cells #[.int .i64 n, .int .i64 l, .int .i64 d, .int .i64 r, .int .i64 p, .int .i64 s, .slice (some ⟨gK, 0, none⟩) k cK, .slice (some ⟨gO, 0, none⟩) m cO, .int .i64 t] 32)) = w4 at RP RQ B1 hK hO ⊢
  have HS : Hid (CN n l d r p s k m ks os t ts 0 = 0 ∧ WO n l d r p s (ST n l d r p s k m ks os t ts 0).1 k (ST n l d r p s k m ks os t ts 0).2.1 m (ST n l d r p s k m ks os t ts 0).2.2 = true) := ⟨rfl, hw⟩
  clear hw hr hs hck hco
  go_loopw [7, 25] (fun dv iv wr => ∃ (j gK cK gO cO : Nat), j ≤ nT ∧ dv = .int .i64 j ∧ iv = .int .i64 j ∧ Hid (CN n l d r p s k m ks os t ts j = j ∧ WO n l d r p s (ST n l d r p s k m ks os t ts j).1 k (ST n l d r p s k m ks os t ts j).2.1 m (ST n l d r p s k m ks os t ts j).2.2 = true) ∧ Room wr w3.heap.size [.int .i64 n, .int .i64 l, .int .i64 d, .int .i64 r, .int .i64 p, .int .i64 s, .slice (some ⟨gK, 0, none⟩) k cK, .slice (some ⟨gO, 0, none⟩) m cO, .int .i64 (ST n l d r p s k m ks os t ts j).2.2] ∧ Room wr (w.heap.size + 1) [.int .i64 0, .int .i64 0, .int .i64 0, .int .i64 0, .int .i64 0, .int .i64 0, .slice none 0 0, .slice none 0 0, .int .i64 0] ∧ Has wr w.heap.size gK 0 k (ST n l d r p s k m ks os t ts j).1 ∧ Has wr w.heap.size gO 0 m (ST n l d r p s k m ks os t ts j).2.1 ∧ (w3.heap.size ≠ gK ∧ w3.heap.size ≠ gO ∧ w.heap.size + 1 < gK ∧ w.heap.size + 1 < gO) ∧ gK ≠ gO ∧ Below w.heap.size w wr) (fun _ iv _ => nT - (intOf iv).toNat)
  case atStart => exact ⟨0, gK, cK, gO, cO, Nat.zero_le _, rfl, rfl, HS, RP, RQ, hasm hK (by omega), hasm hO (by omega), ⟨hPK.1, hPK.2.1, hPK.2.2.1, hPK.2.2.2.1⟩, by omega, B1⟩
  case round =>
    clear RP RQ hK hO HS
    obtain ⟨j, gK, cK, gO, cO, hj, rfl, rfl, HS, RP, RQ, hK, hO, hP, hne, BB⟩ := hrel
    have hPQ := hPK.2.2.2.2
    have zq := BB.size
    by_cases hlt : j < nT
    · have hi : (j : Int) < (nT : Int) := by omega
      have TR := hT.below BB
      obtain ⟨zT, h0 | ⟨gT, oT, rfl, hgT, hcT⟩⟩ := id TR
      · omega
      obtain ⟨aD, cD, aE, cE, aL, cL, aF, cF, aR, cR, e1, e2, e3, e4, e5, hA⟩ := hcT j hlt
      have hOkj := hOk j hlt
      obtain ⟨hcn, hwo⟩ := HS.out
      have hTT : Hid (tt ts j = tt ts j) := rfl
      clear hTT
      have x0 := RP.cell 0 rfl
      have x1 := RP.cell 1 rfl
      have x2 := RP.cell 2 rfl
      have x3 := RP.cell 3 rfl
      have x4 := RP.cell 4 rfl
      have x5 := RP.cell 5 rfl
      have x6 := RP.cell 6 rfl
      have x7 := RP.cell 7 rfl
      have x8 := RP.cell 8 rfl
      have lP := RP.lt (by simp)
      go_wp2_with fail
      clear x0 x1 x2 x3 x4 x5 x6 x7 x8
      have b5 : Below wr.heap.size wr (wr.alloc (.cells #[.slice aD (tt ts j).nD cD, .slice aE (tt ts j).nE cE, .slice aL (tt ts j).nL cL, .slice aF (tt ts j).nF cF, .slice aR (tt ts j).nR cR] 53)) := (Below.refl _ wr).alloc (Nat.le_refl _) _
      replace RP := RP.below b5
      replace RQ := RQ.below b5
      replace hK := hK.later b5 hK.2.2.1
      replace hO := hO.later b5 hO.2.2.1
      replace BB := BB.trans (b5.mono BB.size)
      replace hA := hA.below b5
      clear b5 e1 e2 e3 e4 e5 TR hcT
      refine (i_turn n l d r p s (ST n l d r p s k m ks os t ts j).2.2 gK 0 k cK gO 0 m cO aD aE aL aF aR cD cE cL cF cR _ _ (tt ts j) _ hK.row hO.row hA hOkj hk hwo).mono ?_
      rintro e w6 ⟨⟨gK', cK', gO', cO', rfl, hK', hO', hne'⟩, b6⟩
      have q1 := hK'.2.1
      have q2 := hO'.2.1
      have q3 := hK'.2.2.1
      have q4 := hO'.2.2.1
      have lP6 := RP.lt (by simp)
      have lQ6 := RQ.lt (by simp)
      (try simp at q1 q2)
      replace RP := RP.below b6
      replace RQ := RQ.below b6
      replace hK := hK.later b6 hK.2.2.1
      replace hO := hO.later b6 hO.2.2.1
      replace BB := BB.trans (b6.mono BB.size)
      clear b6 hA
      have HOK : Hid (ok n l d r p s (ST n l d r p s k m ks os t ts j).1 k (ST n l d r p s k m ks os t ts j).2.1 m (ST n l d r p s k m ks os t ts j).2.2 (tt ts j) = oks n l d r p s k m ks os t ts j) := rfl
      rw [HOK.out]
      have HT1 : Hid (nt n l d r p s (ST n l d r p s k m ks os t ts j).1 k (ST n l d r p s k m ks os t ts j).2.1 m (ST n l d r p s k m ks os t ts j).2.2 (tt ts j) = (ST n l d r p s k m ks os t ts (j + 1)).2.2) := rfl
      rw [HT1.out]
      have hK2 : Has w6 w.heap.size gK' 0 k (ST n l d r p s k m ks os t ts (j + 1)).1 := hasm hK' (by omega)
      have hO2 : Has w6 w.heap.size gO' 0 m (ST n l d r p s k m ks os t ts (j + 1)).2.1 := hasm hO' (by omega)
      clear hK' hO'
      have b7 : Below w6.heap.size w6 (w6.alloc (.cells #[.int .i64 n, .int .i64 l, .int .i64 d, .int .i64 r, .int .i64 p, .int .i64 s, .slice (some ⟨gK', 0, none⟩) k cK', .slice (some ⟨gO', 0, none⟩) m cO', .int .i64 (ST n l d r p s k m ks os t ts (j + 1)).2.2] 32)) := (Below.refl _ w6).alloc (Nat.le_refl _) _
      have RX := Room.new w6 [.int .i64 n, .int .i64 l, .int .i64 d, .int .i64 r, .int .i64 p, .int .i64 s, .slice (some ⟨gK', 0, none⟩) k cK', .slice (some ⟨gO', 0, none⟩) m cO', .int .i64 (ST n l d r p s k m ks os t ts (j + 1)).2.2] 32
      replace RP := RP.below b7
      replace RQ := RQ.below b7
      replace hK := hK.later b7 hK.2.2.1
      replace hO := hO.later b7 hO.2.2.1
      replace hK2 := hK2.later b7 hK2.2.2.1
      replace hO2 := hO2.later b7 hO2.2.2.1
      replace BB := BB.trans (b7.mono BB.size)
      clear b7
      cases hok : oks n l d r p s k m ks os t ts j with
      | true =>
        have HS2 : Hid (CN n l d r p s k m ks os t ts (j + 1) = j + 1 ∧ WO n l d r p s (ST n l d r p s k m ks os t ts (j + 1)).1 k (ST n l d r p s k m ks os t ts (j + 1)).2.1 m (ST n l d r p s k m ks os t ts (j + 1)).2.2 = true) := ⟨by rw [CN, if_pos ⟨hcn, hok⟩], ok_wo hok⟩
        have x0 := RP.cell 0 rfl
        have x1 := RP.cell 1 rfl
        have x2 := RP.cell 2 rfl
        have x3 := RP.cell 3 rfl
        have x4 := RP.cell 4 rfl
        have x5 := RP.cell 5 rfl
        have x6 := RP.cell 6 rfl
        have x7 := RP.cell 7 rfl
        have x8 := RP.cell 8 rfl
        have f0 := RP.froz 0 rfl
        have f1 := RP.froz 1 rfl
        have f2 := RP.froz 2 rfl
        have f3 := RP.froz 3 rfl
        have f4 := RP.froz 4 rfl
        have f5 := RP.froz 5 rfl
        have f6 := RP.froz 6 rfl
        have f7 := RP.froz 7 rfl
        have f8 := RP.froz 8 rfl
        have y0 := RX.cell 0 rfl
        have y1 := RX.cell 1 rfl
        have y2 := RX.cell 2 rfl
        have y3 := RX.cell 3 rfl
        have y4 := RX.cell 4 rfl
        have y5 := RX.cell 5 rfl
        have y6 := RX.cell 6 rfl
        have y7 := RX.cell 7 rfl
        have y8 := RX.cell 8 rfl
        have RP2 := Rm.over9 RP (.int .i64 n) (.int .i64 l) (.int .i64 d) (.int .i64 r) (.int .i64 p) (.int .i64 s) (.slice (some ⟨gK', 0, none⟩) k cK') (.slice (some ⟨gO', 0, none⟩) m cO') (.int .i64 (ST n l d r p s k m ks os t ts (j + 1)).2.2)
        have BX := BB.trans ((Rm.belowOver9 _ w3.heap.size (.int .i64 n) (.int .i64 l) (.int .i64 d) (.int .i64 r) (.int .i64 p) (.int .i64 s) (.slice (some ⟨gK', 0, none⟩) k cK') (.slice (some ⟨gO', 0, none⟩) m cO') (.int .i64 (ST n l d r p s k m ks os t ts (j + 1)).2.2)).mono (by omega))
        have KX := has9 hK2 (q := w3.heap.size) (by omega) (.int .i64 n) (.int .i64 l) (.int .i64 d) (.int .i64 r) (.int .i64 p) (.int .i64 s) (.slice (some ⟨gK', 0, none⟩) k cK') (.slice (some ⟨gO', 0, none⟩) m cO') (.int .i64 (ST n l d r p s k m ks os t ts (j + 1)).2.2)
        have OX := has9 hO2 (q := w3.heap.size) (by omega) (.int .i64 n) (.int .i64 l) (.int .i64 d) (.int .i64 r) (.int .i64 p) (.int .i64 s) (.slice (some ⟨gK', 0, none⟩) k cK') (.slice (some ⟨gO', 0, none⟩) m cO') (.int .i64 (ST n l d r p s k m ks os t ts (j + 1)).2.2)
        have RQ2 := room9o RQ (q := w3.heap.size) (by omega) (.int .i64 n) (.int .i64 l) (.int .i64 d) (.int .i64 r) (.int .i64 p) (.int .i64 s) (.slice (some ⟨gK', 0, none⟩) k cK') (.slice (some ⟨gO', 0, none⟩) m cO') (.int .i64 (ST n l d r p s k m ks os t ts (j + 1)).2.2)
        have v1 : IntKind.i64.wrap ((j : Int) + 1) = (j : Int) + 1 := by rw [IntKind.wrap_i64]; omega
        clear hcn hwo hOkj HOK HT1 hok HS
        go_wp2_with fail
        go_roundw
        case rel => exact ⟨j + 1, gK', cK', gO', cO', by omega, by go_num, by go_num, HS2, RP2, RQ2, KX, OX, ⟨by omega, by omega, by omega, by omega⟩, hne', BX⟩
        case measure => simp [intOf]; omega
      | false =>
        clear RX hK2 hO2 HOK HT1
        have hcn9 := cn_end hcn hok
        clear hok
        have hcn : CN n l d r p s k m ks os t ts nT = j := hcn9 nT (by omega)
        have x0 := RP.cell 0 rfl
        have x1 := RP.cell 1 rfl
        have x2 := RP.cell 2 rfl
        have x3 := RP.cell 3 rfl
        have x4 := RP.cell 4 rfl
        have x5 := RP.cell 5 rfl
        have x6 := RP.cell 6 rfl
        have x7 := RP.cell 7 rfl
        have x8 := RP.cell 8 rfl
        have c0 := RQ.cell 0 rfl
        have c1 := RQ.cell 1 rfl
        have c2 := RQ.cell 2 rfl
        have c3 := RQ.cell 3 rfl
        have c4 := RQ.cell 4 rfl
        have c5 := RQ.cell 5 rfl
        have c6 := RQ.cell 6 rfl
        have c7 := RQ.cell 7 rfl
        have c8 := RQ.cell 8 rfl
        have f0 := RQ.froz 0 rfl
        have f1 := RQ.froz 1 rfl
        have f2 := RQ.froz 2 rfl
        have f3 := RQ.froz 3 rfl
        have f4 := RQ.froz 4 rfl
        have f5 := RQ.froz 5 rfl
        have f6 := RQ.froz 6 rfl
        have f7 := RQ.froz 7 rfl
        have f8 := RQ.froz 8 rfl
        have RX := Rm.over9 RQ (.int .i64 n) (.int .i64 l) (.int .i64 d) (.int .i64 r) (.int .i64 p) (.int .i64 s) (.slice (some ⟨gK, 0, none⟩) k cK) (.slice (some ⟨gO, 0, none⟩) m cO) (.int .i64 (ST n l d r p s k m ks os t ts j).2.2)
        have BX := BB.trans ((Rm.belowOver9 _ (w.heap.size + 1) (.int .i64 n) (.int .i64 l) (.int .i64 d) (.int .i64 r) (.int .i64 p) (.int .i64 s) (.slice (some ⟨gK, 0, none⟩) k cK) (.slice (some ⟨gO, 0, none⟩) m cO) (.int .i64 (ST n l d r p s k m ks os t ts j).2.2)).mono (by omega))
        have KX := has9 hK (q := w.heap.size + 1) (by omega) (.int .i64 n) (.int .i64 l) (.int .i64 d) (.int .i64 r) (.int .i64 p) (.int .i64 s) (.slice (some ⟨gK, 0, none⟩) k cK) (.slice (some ⟨gO, 0, none⟩) m cO) (.int .i64 (ST n l d r p s k m ks os t ts j).2.2)
        have OX := has9 hO (q := w.heap.size + 1) (by omega) (.int .i64 n) (.int .i64 l) (.int .i64 d) (.int .i64 r) (.int .i64 p) (.int .i64 s) (.slice (some ⟨gK, 0, none⟩) k cK) (.slice (some ⟨gO, 0, none⟩) m cO) (.int .i64 (ST n l d r p s k m ks os t ts j).2.2)
        go_wp2_with fail
        (try rw [Exit.noGoto_ret])
        refine bodyPost_ret (v := .tuple #[wld n l d r p s (.slice (some ⟨gK, 0, none⟩) k cK) (.slice (some ⟨gO, 0, none⟩) m cO) (ST n l d r p s k m ks os t ts j).2.2, .int .i64 (j : Int)]) (retWB Tryz.results9 rfl rfl RX) rfl ⟨⟨gK, cK, gO, cO, by rw [hcn], by rw [hcn]; exact KX, by rw [hcn]; exact OX, hne⟩, BX⟩
    · have e9 : j = nT := by omega
      subst e9
      have hi : ¬ (j : Int) < (j : Int) := by omega
      have hcn : CN n l d r p s k m ks os t ts j = j := HS.out.1
      have x0 := RP.cell 0 rfl
      have x1 := RP.cell 1 rfl
      have x2 := RP.cell 2 rfl
      have x3 := RP.cell 3 rfl
      have x4 := RP.cell 4 rfl
      have x5 := RP.cell 5 rfl
      have x6 := RP.cell 6 rfl
      have x7 := RP.cell 7 rfl
      have x8 := RP.cell 8 rfl
      have c0 := RQ.cell 0 rfl
      have c1 := RQ.cell 1 rfl
      have c2 := RQ.cell 2 rfl
      have c3 := RQ.cell 3 rfl
      have c4 := RQ.cell 4 rfl
      have c5 := RQ.cell 5 rfl
      have c6 := RQ.cell 6 rfl
      have c7 := RQ.cell 7 rfl
      have c8 := RQ.cell 8 rfl
      have f0 := RQ.froz 0 rfl
      have f1 := RQ.froz 1 rfl
      have f2 := RQ.froz 2 rfl
      have f3 := RQ.froz 3 rfl
      have f4 := RQ.froz 4 rfl
      have f5 := RQ.froz 5 rfl
      have f6 := RQ.froz 6 rfl
      have f7 := RQ.froz 7 rfl
      have f8 := RQ.froz 8 rfl
      have RX := Rm.over9 RQ (.int .i64 n) (.int .i64 l) (.int .i64 d) (.int .i64 r) (.int .i64 p) (.int .i64 s) (.slice (some ⟨gK, 0, none⟩) k cK) (.slice (some ⟨gO, 0, none⟩) m cO) (.int .i64 (ST n l d r p s k m ks os t ts j).2.2)
      have BX := BB.trans ((Rm.belowOver9 _ (w.heap.size + 1) (.int .i64 n) (.int .i64 l) (.int .i64 d) (.int .i64 r) (.int .i64 p) (.int .i64 s) (.slice (some ⟨gK, 0, none⟩) k cK) (.slice (some ⟨gO, 0, none⟩) m cO) (.int .i64 (ST n l d r p s k m ks os t ts j).2.2)).mono (by omega))
      have KX := has9 hK (q := w.heap.size + 1) (by omega) (.int .i64 n) (.int .i64 l) (.int .i64 d) (.int .i64 r) (.int .i64 p) (.int .i64 s) (.slice (some ⟨gK, 0, none⟩) k cK) (.slice (some ⟨gO, 0, none⟩) m cO) (.int .i64 (ST n l d r p s k m ks os t ts j).2.2)
      have OX := has9 hO (q := w.heap.size + 1) (by omega) (.int .i64 n) (.int .i64 l) (.int .i64 d) (.int .i64 r) (.int .i64 p) (.int .i64 s) (.slice (some ⟨gK, 0, none⟩) k cK) (.slice (some ⟨gO, 0, none⟩) m cO) (.int .i64 (ST n l d r p s k m ks os t ts j).2.2)
      go_wp2_with fail
      (try rw [Exit.noGoto_ret])
      refine bodyPost_ret (v := .tuple #[wld n l d r p s (.slice (some ⟨gK, 0, none⟩) k cK) (.slice (some ⟨gO, 0, none⟩) m cO) (ST n l d r p s k m ks os t ts j).2.2, .int .i64 (j : Int)]) (retWB Tryz.results9 rfl rfl RX) rfl ⟨⟨gK, cK, gO, cO, by rw [hcn], by rw [hcn]; exact KX, by rw [hcn]; exact OX, hne⟩, BX⟩

end Go.Proofs.YtcgcmceobmpdiaaGreat.Pl

namespace Go.Proofs.YtcgcmceobmpdiaaGreat.Pl
open Go.ChangeShapes Go.WideShapes Go.ChangeAt Go.RowKit
open Ls (el Row)
open Ow (Has ints)
open Wl (WO wld c9)
open Tu (trn retWB wo_more)
open Rm (Room)
set_option linter.unusedVariables false
set_option linter.unusedSimpArgs false

/-- What lies there while turns are played. -/
structure Sb (w : World) (n l d r p s : Int) (k m P gK cK gO cO : Nat) (t : Int) (xs ys : List Int) (w' : World) : Prop where
  P : Room w' P [.int .i64 n, .int .i64 l, .int .i64 d, .int .i64 r, .int .i64 p, .int .i64 s, .slice (some ⟨gK, 0, none⟩) k cK, .slice (some ⟨gO, 0, none⟩) m cO, .int .i64 t]
  Q : Room w' (w.heap.size + 1) [.int .i64 0, .int .i64 0, .int .i64 0, .int .i64 0, .int .i64 0, .int .i64 0, .slice none 0 0, .slice none 0 0, .int .i64 0]
  K : Has w' w.heap.size gK 0 k xs
  O : Has w' w.heap.size gO 0 m ys
  B : Below w.heap.size w w'
theorem Sb.below {w : World} {n l d r p s : Int} {k m P gK cK gO cO : Nat} {t : Int} {xs ys : List Int} {w1 w2 : World} (h : Sb w n l d r p s k m P gK cK gO cO t xs ys w1) (b : Below w1.heap.size w1 w2) : Sb w n l d r p s k m P gK cK gO cO t xs ys w2 :=
  ⟨h.P.below b, h.Q.below b, h.K.later b h.K.2.2.1, h.O.later b h.O.2.2.1, h.B.trans (b.mono h.B.size)⟩
theorem Sb.over {w : World} {n l d r p s : Int} {k m P gK cK gO cO : Nat} {t : Int} {xs ys : List Int} {w1 : World} (h : Sb w n l d r p s k m P gK cK gO cO t xs ys w1) {q : Nat} (h1 : q ≠ P) (h2 : q ≠ w.heap.size + 1) (h3 : q ≠ gK) (h4 : q ≠ gO) (h5 : w.heap.size ≤ q) (x0 x1 x2 x3 x4 x5 x6 x7 x8 : Value) :
    Sb w n l d r p s k m P gK cK gO cO t xs ys (((((((((w1.setCell ⟨q, 0, none⟩ x0).setCell ⟨q, 1, none⟩ x1).setCell ⟨q, 2, none⟩ x2).setCell ⟨q, 3, none⟩ x3).setCell ⟨q, 4, none⟩ x4).setCell ⟨q, 5, none⟩ x5).setCell ⟨q, 6, none⟩ x6).setCell ⟨q, 7, none⟩ x7).setCell ⟨q, 8, none⟩ x8) :=
  ⟨room9o h.P h1 _ _ _ _ _ _ _ _ _, room9o h.Q h2 _ _ _ _ _ _ _ _ _, has9 h.K h3 _ _ _ _ _ _ _ _ _, has9 h.O h4 _ _ _ _ _ _ _ _ _, h.B.trans ((Rm.belowOver9 w1 q x0 x1 x2 x3 x4 x5 x6 x7 x8).mono h5)⟩

set_option maxHeartbeats 8000000 in
set_option maxRecDepth 100000 in
theorem s_Played_no (n l d r p s t : Int) (a b : Option Addr) (k ka m mb : Nat) (ks os : List Int) (aT : Option Addr) (nT cT : Nat) (ts : List TT) (w : World) (hr : Row w w.heap.size a k ks) (hs : Row w w.heap.size b m os) (hk : k ≤ 1048576) (hm : m ≤ 1048576) (hT : TurnsAt w w.heap.size aT nT ts) (hn : nT ≤ 1048576) (hOk : ∀ j, j < nT → (tt ts j).Ok) (hw : WO n l d r p s ks k os m t = false ∨ 200 < nT) :
    Calls Tryz.prog 6 #[wld n l d r p s (.slice a k ka) (.slice b m mb) t, .slice aT nT cT] w fun e w' => e = .returned (.tuple #[wld 0 0 0 0 0 0 (.slice none 0 0) (.slice none 0 0) 0, .int .i64 (-1)]) ∧ Below w.heap.size w w' := by
  cases hq : WO n l d r p s ks k os m t with
  | false =>
    have B1 := ((Below.refl w.heap.size w).alloc (Nat.le_refl _) (.cells #[.int .i64 n, .int .i64 l, .int .i64 d, .int .i64 r, .int .i64 p, .int .i64 s, .slice a k ka, .slice b m mb, .int .i64 t] 32)).alloc (by simp) (.cells #[.int .i64 0, .int .i64 0, .int .i64 0, .int .i64 0, .int .i64 0, .int .i64 0, .slice none 0 0, .slice none 0 0, .int .i64 0] 32)
    have R0 := (Room.new w [.int .i64 n, .int .i64 l, .int .i64 d, .int .i64 r, .int .i64 p, .int .i64 s, .slice a k ka, .slice b m mb, .int .i64 t] 32).alloc (.cells #[.int .i64 0, .int .i64 0, .int .i64 0, .int .i64 0, .int .i64 0, .int .i64 0, .slice none 0 0, .slice none 0 0, .int .i64 0] 32)
    have RQ : Room ((w.alloc (.cells #[.int .i64 n, .int .i64 l, .int .i64 d, .int .i64 r, .int .i64 p, .int .i64 s, .slice a k ka, .slice b m mb, .int .i64 t] 32)).alloc (.cells #[.int .i64 0, .int .i64 0, .int .i64 0, .int .i64 0, .int .i64 0, .int .i64 0, .slice none 0 0, .slice none 0 0, .int .i64 0] 32)) (w.heap.size + 1) [.int .i64 0, .int .i64 0, .int .i64 0, .int .i64 0, .int .i64 0, .int .i64 0, .slice none 0 0, .slice none 0 0, .int .i64 0] := Room.at _ [.int .i64 0, .int .i64 0, .int .i64 0, .int .i64 0, .int .i64 0, .int .i64 0, .slice none 0 0, .slice none 0 0, .int .i64 0] 32 _ (by simp)
    go_enter Tryz.func6, Tryz.ntmps6
    go_wp2_with fail
    refine (Wl.s_WorldOk n l d r p s t a b k ka m mb ks os _ ((hr.later B1 (Nat.le_refl _)).more B1.size) ((hs.later B1 (Nat.le_refl _)).more B1.size) hk hm).mono ?_
    rintro e w2 ⟨rfl, b2⟩
    rw [hq]
    replace RQ := RQ.below b2
    replace B1 := B1.trans (b2.mono B1.size)
    clear b2
    have c0 := RQ.cell 0 rfl
    have c1 := RQ.cell 1 rfl
    have c2 := RQ.cell 2 rfl
    have c3 := RQ.cell 3 rfl
    have c4 := RQ.cell 4 rfl
    have c5 := RQ.cell 5 rfl
    have c6 := RQ.cell 6 rfl
    have c7 := RQ.cell 7 rfl
    have c8 := RQ.cell 8 rfl
    have f0 := RQ.froz 0 rfl
    have f1 := RQ.froz 1 rfl
    have f2 := RQ.froz 2 rfl
    have f3 := RQ.froz 3 rfl
    have f4 := RQ.froz 4 rfl
    have f5 := RQ.froz 5 rfl
    have f6 := RQ.froz 6 rfl
    have f7 := RQ.froz 7 rfl
    have f8 := RQ.froz 8 rfl
    have RX := Rm.over9 RQ (.int .i64 0) (.int .i64 0) (.int .i64 0) (.int .i64 0) (.int .i64 0) (.int .i64 0) (.slice none 0 0) (.slice none 0 0) (.int .i64 0)
    have BX := B1.trans ((Rm.belowOver9 w2 (w.heap.size + 1) (.int .i64 0) (.int .i64 0) (.int .i64 0) (.int .i64 0) (.int .i64 0) (.int .i64 0) (.slice none 0 0) (.slice none 0 0) (.int .i64 0)).mono (by omega))
    go_wp2_with fail
    refine bodyPost_ret (v := .tuple #[wld 0 0 0 0 0 0 (.slice none 0 0) (.slice none 0 0) 0, .int .i64 (-1)]) (retWB Tryz.results6 rfl rfl RX) rfl ⟨rfl, BX⟩
  | true =>
    have B1 := ((Below.refl w.heap.size w).alloc (Nat.le_refl _) (.cells #[.int .i64 n, .int .i64 l, .int .i64 d, .int .i64 r, .int .i64 p, .int .i64 s, .slice a k ka, .slice b m mb, .int .i64 t] 32)).alloc (by simp) (.cells #[.int .i64 0, .int .i64 0, .int .i64 0, .int .i64 0, .int .i64 0, .int .i64 0, .slice none 0 0, .slice none 0 0, .int .i64 0] 32)
    have R0 := (Room.new w [.int .i64 n, .int .i64 l, .int .i64 d, .int .i64 r, .int .i64 p, .int .i64 s, .slice a k ka, .slice b m mb, .int .i64 t] 32).alloc (.cells #[.int .i64 0, .int .i64 0, .int .i64 0, .int .i64 0, .int .i64 0, .int .i64 0, .slice none 0 0, .slice none 0 0, .int .i64 0] 32)
    have RQ : Room ((w.alloc (.cells #[.int .i64 n, .int .i64 l, .int .i64 d, .int .i64 r, .int .i64 p, .int .i64 s, .slice a k ka, .slice b m mb, .int .i64 t] 32)).alloc (.cells #[.int .i64 0, .int .i64 0, .int .i64 0, .int .i64 0, .int .i64 0, .int .i64 0, .slice none 0 0, .slice none 0 0, .int .i64 0] 32)) (w.heap.size + 1) [.int .i64 0, .int .i64 0, .int .i64 0, .int .i64 0, .int .i64 0, .int .i64 0, .slice none 0 0, .slice none 0 0, .int .i64 0] := Room.at _ [.int .i64 0, .int .i64 0, .int .i64 0, .int .i64 0, .int .i64 0, .int .i64 0, .slice none 0 0, .slice none 0 0, .int .i64 0] 32 _ (by simp)
    go_enter Tryz.func6, Tryz.ntmps6
    go_wp2_with fail
    refine (Wl.s_WorldOk n l d r p s t a b k ka m mb ks os _ ((hr.later B1 (Nat.le_refl _)).more B1.size) ((hs.later B1 (Nat.le_refl _)).more B1.size) hk hm).mono ?_
    rintro e w2 ⟨rfl, b2⟩
    rw [hq]
    replace RQ := RQ.below b2
    replace B1 := B1.trans (b2.mono B1.size)
    clear b2
    have c0 := RQ.cell 0 rfl
    have c1 := RQ.cell 1 rfl
    have c2 := RQ.cell 2 rfl
    have c3 := RQ.cell 3 rfl
    have c4 := RQ.cell 4 rfl
    have c5 := RQ.cell 5 rfl
    have c6 := RQ.cell 6 rfl
    have c7 := RQ.cell 7 rfl
    have c8 := RQ.cell 8 rfl
    have f0 := RQ.froz 0 rfl
    have f1 := RQ.froz 1 rfl
    have f2 := RQ.froz 2 rfl
    have f3 := RQ.froz 3 rfl
    have f4 := RQ.froz 4 rfl
    have f5 := RQ.froz 5 rfl
    have f6 := RQ.froz 6 rfl
    have f7 := RQ.froz 7 rfl
    have f8 := RQ.froz 8 rfl
    have h2 : 200 < nT := by rcases hw with hw | hw; (rw [hq] at hw; cases hw); exact hw
    have h200 : (200 : Int) < (nT : Int) := by omega
    have RX := Rm.over9 RQ (.int .i64 0) (.int .i64 0) (.int .i64 0) (.int .i64 0) (.int .i64 0) (.int .i64 0) (.slice none 0 0) (.slice none 0 0) (.int .i64 0)
    have BX := B1.trans ((Rm.belowOver9 w2 (w.heap.size + 1) (.int .i64 0) (.int .i64 0) (.int .i64 0) (.int .i64 0) (.int .i64 0) (.int .i64 0) (.slice none 0 0) (.slice none 0 0) (.int .i64 0)).mono (by omega))
    go_wp2_with fail
    refine bodyPost_ret (v := .tuple #[wld 0 0 0 0 0 0 (.slice none 0 0) (.slice none 0 0) 0, .int .i64 (-1)]) (retWB Tryz.results6 rfl rfl RX) rfl ⟨rfl, BX⟩

set_option maxHeartbeats 16000000 in
set_option maxRecDepth 100000 in
theorem s_Played_yes (n l d r p s t : Int) (a b : Option Addr) (k ka m mb : Nat) (ks os : List Int) (aT : Option Addr) (nT cT : Nat) (ts : List TT) (w : World) (hr : Row w w.heap.size a k ks) (hs : Row w w.heap.size b m os) (hk : k ≤ 1048576) (hm : m ≤ 1048576) (hT : TurnsAt w w.heap.size aT nT ts) (hn : nT ≤ 1048576) (hOk : ∀ j, j < nT → (tt ts j).Ok) (hw : WO n l d r p s ks k os m t = true) (h2 : nT ≤ 200) :
    Calls Tryz.prog 6 #[wld n l d r p s (.slice a k ka) (.slice b m mb) t, .slice aT nT cT] w fun e w' => (∃ gK cK gO cO, e = .returned (.tuple #[wld n l d r p s (.slice (some ⟨gK, 0, none⟩) k cK) (.slice (some ⟨gO, 0, none⟩) m cO) (ST n l d r p s k m ks os t ts (CN n l d r p s k m ks os t ts nT)).2.2, .int .i64 (CN n l d r p s k m ks os t ts nT : Nat)]) ∧ Has w' w.heap.size gK 0 k (ST n l d r p s k m ks os t ts (CN n l d r p s k m ks os t ts nT)).1 ∧ Has w' w.heap.size gO 0 m (ST n l d r p s k m ks os t ts (CN n l d r p s k m ks os t ts nT)).2.1 ∧ gK ≠ gO) ∧ Below w.heap.size w w' := by
  have B1 := ((Below.refl w.heap.size w).alloc (Nat.le_refl _) (.cells #[.int .i64 n, .int .i64 l, .int .i64 d, .int .i64 r, .int .i64 p, .int .i64 s, .slice a k ka, .slice b m mb, .int .i64 t] 32)).alloc (by simp) (.cells #[.int .i64 0, .int .i64 0, .int .i64 0, .int .i64 0, .int .i64 0, .int .i64 0, .slice none 0 0, .slice none 0 0, .int .i64 0] 32)
  have R0 := (Room.new w [.int .i64 n, .int .i64 l, .int .i64 d, .int .i64 r, .int .i64 p, .int .i64 s, .slice a k ka, .slice b m mb, .int .i64 t] 32).alloc (.cells #[.int .i64 0, .int .i64 0, .int .i64 0, .int .i64 0, .int .i64 0, .int .i64 0, .slice none 0 0, .slice none 0 0, .int .i64 0] 32)
  have RQ : Room ((w.alloc (.cells #[.int .i64 n, .int .i64 l, .int .i64 d, .int .i64 r, .int .i64 p, .int .i64 s, .slice a k ka, .slice b m mb, .int .i64 t] 32)).alloc (.cells #[.int .i64 0, .int .i64 0, .int .i64 0, .int .i64 0, .int .i64 0, .int .i64 0, .slice none 0 0, .slice none 0 0, .int .i64 0] 32)) (w.heap.size + 1) [.int .i64 0, .int .i64 0, .int .i64 0, .int .i64 0, .int .i64 0, .int .i64 0, .slice none 0 0, .slice none 0 0, .int .i64 0] := Room.at _ [.int .i64 0, .int .i64 0, .int .i64 0, .int .i64 0, .int .i64 0, .int .i64 0, .slice none 0 0, .slice none 0 0, .int .i64 0] 32 _ (by simp)
  have hkm : Hid (m = k) := (wo_more hw).2.1
  have hk0 := (wo_more hw).2.2.1
  have hm0 : 0 < m := by rw [hkm.out]; exact hk0
  have h200 : ¬ (200 : Int) < (nT : Int) := by omega
  go_enter Tryz.func6, Tryz.ntmps6
  go_wp2_with fail
  refine (Wl.s_WorldOk n l d r p s t a b k ka m mb ks os _ ((hr.later B1 (Nat.le_refl _)).more B1.size) ((hs.later B1 (Nat.le_refl _)).more B1.size) hk hm).mono ?_
  rintro e w2 ⟨rfl, b2⟩
  rw [hw]
  replace R0 := R0.below b2
  replace RQ := RQ.below b2
  have lQ2 := RQ.lt (by simp)
  replace B1 := B1.trans (b2.mono B1.size)
  clear b2
  have c0 := R0.cell 0 rfl
  have c1 := R0.cell 1 rfl
  have c2 := R0.cell 2 rfl
  have c3 := R0.cell 3 rfl
  have c4 := R0.cell 4 rfl
  have c5 := R0.cell 5 rfl
  have c6 := R0.cell 6 rfl
  have c7 := R0.cell 7 rfl
  have c8 := R0.cell 8 rfl
  go_wp2_with fail
  obtain ⟨zK, h0 | ⟨bk, ofk, rfl, hbk, hck⟩⟩ := id hr
  · omega
  obtain ⟨zO, h0 | ⟨bo, oo, rfl, hbo, hco⟩⟩ := id hs
  · omega
  refine (Tu.l5Copy n l d r p s t bk ofk k ka bo oo m mb ks os _ zK (fun j hj => by rw [B1.cell (p := ⟨bk, ofk + j, none⟩) hbk]; exact hck j hj) (Nat.lt_of_lt_of_le hbk B1.size) zO (fun j hj => by rw [B1.cell (p := ⟨bo, oo + j, none⟩) hbo]; exact hco j hj) (Nat.lt_of_lt_of_le hbo B1.size) hk hm).mono ?_
  rintro e w3 ⟨⟨gK, cK, gO, cO, rfl, oK, oO, hlt⟩, b3⟩
  have z3 := b3.size
  have z1 := B1.size
  replace RQ := RQ.below b3
  replace B1 := B1.trans (b3.mono B1.size)
  have hK := oK.has
  have hO := oO.has
  clear c0 c1 c2 c3 c4 c5 c6 c7 c8
  clear b3 oK oO R0
  have b4 : Below w3.heap.size w3 (w3.alloc (.cells #[.int .i64 n, .int .i64 l, .int .i64 d, .int .i64 r, .int .i64 p, .int .i64 s, .slice (some ⟨gK, 0, none⟩) k cK, .slice (some ⟨gO, 0, none⟩) m cO, .int .i64 t] 32)) := (Below.refl _ w3).alloc (Nat.le_refl _) _
  have RP := Room.new w3 [.int .i64 n, .int .i64 l, .int .i64 d, .int .i64 r, .int .i64 p, .int .i64 s, .slice (some ⟨gK, 0, none⟩) k cK, .slice (some ⟨gO, 0, none⟩) m cO, .int .i64 t] 32
  have hPK : w3.heap.size ≠ gK ∧ w3.heap.size ≠ gO ∧ w.heap.size + 1 < gK ∧ w.heap.size + 1 < gO ∧ w.heap.size + 1 < w3.heap.size := by have q1 := hK.2.1; have q2 := hK.2.2.1; have q3 := hO.2.1; have q4 := hO.2.2.1; have q5 := RQ.lt (by simp); omega
  replace RQ := RQ.below b4
  replace B1 := B1.trans (b4.mono B1.size)
  replace hK := hK.later b4 hK.2.2.1
  replace hO := hO.later b4 hO.2.2.1
  clear b4
  go_wp2_with fail
  generalize (w3.alloc (.cells #[.int .i64 n, .int .i64 l, .int .i64 d, .int .i64 r, .int .i64 p, .int .i64 s, .slice (some ⟨gK, 0, none⟩) k cK, .slice (some ⟨gO, 0, none⟩) m cO, .int .i64 t] 32)) = w4 at RP RQ B1 hK hO ⊢
  have HS : Hid (CN n l d r p s k m ks os t ts 0 = 0 ∧ WO n l d r p s (ST n l d r p s k m ks os t ts 0).1 k (ST n l d r p s k m ks os t ts 0).2.1 m (ST n l d r p s k m ks os t ts 0).2.2 = true) := ⟨rfl, hw⟩
  clear hw hr hs hck hco
  go_loopw [7] (fun iv wr => ∃ (j gK cK gO cO : Nat), j ≤ nT ∧ iv = .int .i64 j ∧ Hid (CN n l d r p s k m ks os t ts j = j ∧ WO n l d r p s (ST n l d r p s k m ks os t ts j).1 k (ST n l d r p s k m ks os t ts j).2.1 m (ST n l d r p s k m ks os t ts j).2.2 = true) ∧ Sb w n l d r p s k m w3.heap.size gK cK gO cO (ST n l d r p s k m ks os t ts j).2.2 (ST n l d r p s k m ks os t ts j).1 (ST n l d r p s k m ks os t ts j).2.1 wr ∧ (w3.heap.size ≠ gK ∧ w3.heap.size ≠ gO ∧ w.heap.size + 1 < gK ∧ w.heap.size + 1 < gO) ∧ gK ≠ gO) (fun iv _ => nT - (intOf iv).toNat)
  case atStart => exact ⟨0, gK, cK, gO, cO, Nat.zero_le _, rfl, HS, ⟨RP, RQ, hasm hK (by omega), hasm hO (by omega), B1⟩, ⟨hPK.1, hPK.2.1, hPK.2.2.1, hPK.2.2.2.1⟩, by omega⟩
  case round =>
    clear RP RQ hK hO HS
    obtain ⟨j, gK, cK, gO, cO, hj, rfl, HS, Z, hP, hne⟩ := hrel
    have hPQ := hPK.2.2.2.2
    have zq := Z.B.size
    by_cases hlt : j < nT
    · have hi : (j : Int) < (nT : Int) := by omega
      obtain ⟨zT, h0 | ⟨gT, oT, rfl, hgT, hcT⟩⟩ := id hT
      · omega
      obtain ⟨aD, cD, aE, cE, aL, cL, aF, cF, aR, cR, e1, e2, e3, e4, e5, hA⟩ := hcT j hlt
      have hOkj := hOk j hlt
      obtain ⟨hcn, hwo⟩ := HS.out
      have lP := Z.P.lt (by simp)
      have lK0 := Z.K.2.2.1
      have lO0 := Z.O.2.2.1
      have lQ0 := Z.Q.lt (by simp)
      have HOK : Hid (ok n l d r p s (ST n l d r p s k m ks os t ts j).1 k (ST n l d r p s k m ks os t ts j).2.1 m (ST n l d r p s k m ks os t ts j).2.2 (tt ts j) = oks n l d r p s k m ks os t ts j) := rfl
      have HT1 : Hid (nt n l d r p s (ST n l d r p s k m ks os t ts j).1 k (ST n l d r p s k m ks os t ts j).2.1 m (ST n l d r p s k m ks os t ts j).2.2 (tt ts j) = (ST n l d r p s k m ks os t ts (j + 1)).2.2) := rfl
      clear hcT
      go_wp2_with fail
      have Zd := Z.below (Below.refl _ _).drew
      refine wp_region_noPanic ?_
      refine wp_region_held_drew (S := (fun w' => w'.cell? ⟨w3.heap.size, 0, none⟩ = some (.int .i64 n) ∧ w'.cell? ⟨w3.heap.size, 1, none⟩ = some (.int .i64 l) ∧ w'.cell? ⟨w3.heap.size, 2, none⟩ = some (.int .i64 d) ∧ w'.cell? ⟨w3.heap.size, 3, none⟩ = some (.int .i64 r) ∧ w'.cell? ⟨w3.heap.size, 4, none⟩ = some (.int .i64 p) ∧ w'.cell? ⟨w3.heap.size, 5, none⟩ = some (.int .i64 s) ∧ w'.cell? ⟨w3.heap.size, 6, none⟩ = some (.slice (some ⟨gK, 0, none⟩) k cK) ∧ w'.cell? ⟨w3.heap.size, 7, none⟩ = some (.slice (some ⟨gO, 0, none⟩) m cO) ∧ w'.cell? ⟨w3.heap.size, 8, none⟩ = some (.int .i64 (ST n l d r p s k m ks os t ts j).2.2) ∧ w'.cell? ⟨gT, oT + j * 5, none⟩ = some (.slice aD (tt ts j).nD cD) ∧ w'.cell? ⟨gT, oT + j * 5 + 1, none⟩ = some (.slice aE (tt ts j).nE cE) ∧ w'.cell? ⟨gT, oT + j * 5 + 2, none⟩ = some (.slice aL (tt ts j).nL cL) ∧ w'.cell? ⟨gT, oT + j * 5 + 3, none⟩ = some (.slice aF (tt ts j).nF cF) ∧ w'.cell? ⟨gT, oT + j * 5 + 4, none⟩ = some (.slice aR (tt ts j).nR cR) ∧ Hid (Sb w n l d r p s k m w3.heap.size gK cK gO cO (ST n l d r p s k m ks os t ts j).2.2 (ST n l d r p s k m ks os t ts j).1 (ST n l d r p s k m ks os t ts j).2.1 w'))) (by kernel_rfl) ⟨Zd.P.cell 0 rfl, Zd.P.cell 1 rfl, Zd.P.cell 2 rfl, Zd.P.cell 3 rfl, Zd.P.cell 4 rfl, Zd.P.cell 5 rfl, Zd.P.cell 6 rfl, Zd.P.cell 7 rfl, Zd.P.cell 8 rfl, (Zd.B.cell (p := ⟨gT, oT + j * 5, none⟩) hgT).trans e1, (Zd.B.cell (p := ⟨gT, oT + j * 5 + 1, none⟩) hgT).trans e2, (Zd.B.cell (p := ⟨gT, oT + j * 5 + 2, none⟩) hgT).trans e3, (Zd.B.cell (p := ⟨gT, oT + j * 5 + 3, none⟩) hgT).trans e4, (Zd.B.cell (p := ⟨gT, oT + j * 5 + 4, none⟩) hgT).trans e5, Zd⟩ (fun hHeld => ?_)
      refine Tk.W 0 (some 28) (.load 32 (.tmp 6)) 32 none ?_
      refine Tk.W 1 (some 29) (.move (.tmp 1)) 36 none ?_
      refine Tk.W 2 (some 30) (.move (.tmp 7)) 3 none ?_
      refine Tk.W 3 (some 31) (.indexAddr 36 (.tmp 29) (.tmp 30)) 0 none ?_
      refine Tk.W 4 (some 32) (.load 53 (.tmp 31)) 53 none ?_
      refine wpAnyH_ready (rs := [5, 9]) (by kernel_rfl) (by simp) ?_
      refine (AllReadyH.cons (o := ⟨some 33, .call ⟨.value (.func 19), #[.tmp 28, .tmp 32], #[32, 53]⟩, 51, _, _, none⟩) rfl (fun K hK => ?_) (AllReadyH.cons (o := ⟨some 8, .alloc 32, 0, _, _, none⟩) rfl (fun K hK => ?_) AllReadyH.nil))
      · go_simp
        refine ((s_turn n l d r p s (ST n l d r p s k m ks os t ts j).2.2 gK 0 k cK gO 0 m cO aD aE aL aF aR cD cE cL cF cR _ _ (tt ts j) _ hHeld.2.2.2.2.2.2.2.2.2.2.2.2.2.2.out.K.row hHeld.2.2.2.2.2.2.2.2.2.2.2.2.2.2.out.O.row (hA.below hHeld.2.2.2.2.2.2.2.2.2.2.2.2.2.2.out.B) hOkj hk hwo)).mono ?_
        rintro e wD ⟨⟨gK', cK', gO', cO', rfl, hK', hO', hne'⟩, b_m6⟩
        rw [HOK.out, HT1.out]
        have z_m6 := hHeld.2.2.2.2.2.2.2.2.2.2.2.2.2.2.out
        have zs_m6 := z_m6.B.size
        have z2_m6 := z_m6.below b_m6
        have kvm6 := Tk.kv hK (w := wD) ⟨z2_m6.P.cell 0 rfl, z2_m6.P.cell 1 rfl, z2_m6.P.cell 2 rfl, z2_m6.P.cell 3 rfl, z2_m6.P.cell 4 rfl, z2_m6.P.cell 5 rfl, z2_m6.P.cell 6 rfl, z2_m6.P.cell 7 rfl, z2_m6.P.cell 8 rfl, (z2_m6.B.cell (p := ⟨gT, oT + j * 5, none⟩) hgT).trans e1, (z2_m6.B.cell (p := ⟨gT, oT + j * 5 + 1, none⟩) hgT).trans e2, (z2_m6.B.cell (p := ⟨gT, oT + j * 5 + 2, none⟩) hgT).trans e3, (z2_m6.B.cell (p := ⟨gT, oT + j * 5 + 3, none⟩) hgT).trans e4, (z2_m6.B.cell (p := ⟨gT, oT + j * 5 + 4, none⟩) hgT).trans e5, z2_m6⟩
        have q1 := hK'.2.1
        have q2 := hO'.2.1
        have q3 := hK'.2.2.1
        have q4 := hO'.2.2.1
        have hK2 : Has wD w.heap.size gK' 0 k (ST n l d r p s k m ks os t ts (j + 1)).1 := hasm hK' (by omega)
        have hO2 : Has wD w.heap.size gO' 0 m (ST n l d r p s k m ks os t ts (j + 1)).2.1 := hasm hO' (by omega)
        have zb := b_m6.size
        (try simp at q1 q2 zs_m6 zb)
        clear hK' hO' z_m6 z2_m6 b_m6
        try dsimp only
        refine hK.out _ _ kvm6 ?_; clear hK K hHeld; intro hHeld; try simp only [Act.put, List.setIfInBounds_toArray, List.set_cons_zero, List.set_cons_succ]
        refine Tk.W 6 (some 27) (.move (.tmp 33)) 51 none ?_
        refine Tk.W 7 (some 34) (.extract (.tmp 27) 0) 32 none ?_
        refine Tk.W 8 (some 35) (.extract (.tmp 27) 1) 4 none ?_
        refine Tk.R 9 (some 8) (.alloc 32) 0 none (fun K hK => ?_)
        go_simp
        have bm10 : Below wD.heap.size wD ((wD.alloc (.cells #[.int .i64 0, .int .i64 0, .int .i64 0, .int .i64 0, .int .i64 0, .int .i64 0, .slice none 0 0, .slice none 0 0, .int .i64 0] 32))) := (Below.refl wD.heap.size wD).alloc (Nat.le_refl _) (.cells #[.int .i64 0, .int .i64 0, .int .i64 0, .int .i64 0, .int .i64 0, .int .i64 0, .slice none 0 0, .slice none 0 0, .int .i64 0] 32)
        have RX : Room ((wD.alloc (.cells #[.int .i64 0, .int .i64 0, .int .i64 0, .int .i64 0, .int .i64 0, .int .i64 0, .slice none 0 0, .slice none 0 0, .int .i64 0] 32))) wD.heap.size [.int .i64 0, .int .i64 0, .int .i64 0, .int .i64 0, .int .i64 0, .int .i64 0, .slice none 0 0, .slice none 0 0, .int .i64 0] := Room.new wD [.int .i64 0, .int .i64 0, .int .i64 0, .int .i64 0, .int .i64 0, .int .i64 0, .slice none 0 0, .slice none 0 0, .int .i64 0] 32
        have z_m10 := hHeld.2.2.2.2.2.2.2.2.2.2.2.2.2.2.out
        have zs2 := z_m10.B.size
        have lP_ := z_m10.P.lt (by simp)
        have lQ_ := z_m10.Q.lt (by simp)
        have lK_ := z_m10.K.2.2.1
        have lO_ := z_m10.O.2.2.1
        have z2_m10 := z_m10.below bm10
        have kvm10 := Tk.kv hK (w := ((wD.alloc (.cells #[.int .i64 0, .int .i64 0, .int .i64 0, .int .i64 0, .int .i64 0, .int .i64 0, .slice none 0 0, .slice none 0 0, .int .i64 0] 32)))) ⟨z2_m10.P.cell 0 rfl, z2_m10.P.cell 1 rfl, z2_m10.P.cell 2 rfl, z2_m10.P.cell 3 rfl, z2_m10.P.cell 4 rfl, z2_m10.P.cell 5 rfl, z2_m10.P.cell 6 rfl, z2_m10.P.cell 7 rfl, z2_m10.P.cell 8 rfl, (z2_m10.B.cell (p := ⟨gT, oT + j * 5, none⟩) hgT).trans e1, (z2_m10.B.cell (p := ⟨gT, oT + j * 5 + 1, none⟩) hgT).trans e2, (z2_m10.B.cell (p := ⟨gT, oT + j * 5 + 2, none⟩) hgT).trans e3, (z2_m10.B.cell (p := ⟨gT, oT + j * 5 + 3, none⟩) hgT).trans e4, (z2_m10.B.cell (p := ⟨gT, oT + j * 5 + 4, none⟩) hgT).trans e5, z2_m10⟩
        replace hK2 := hK2.later bm10 hK2.2.2.1
        replace hO2 := hO2.later bm10 hO2.2.2.1
        have lK2 : gK' < wD.heap.size := q3
        have lO2 : gO' < wD.heap.size := q4
        have zn := bm10.size
        clear bm10 z_m10 z2_m10
        obtain ⟨X, hX⟩ : ∃ x, x = wD.heap.size := ⟨_, rfl⟩
        rw [← hX] at RX ⊢
        have hX1 : X ≤ wD.heap.size := Nat.le_of_eq hX
        have hX2 : wD.heap.size ≤ X := Nat.le_of_eq hX.symm
        clear hX
        have lX : X < ((wD.alloc (.cells #[.int .i64 0, .int .i64 0, .int .i64 0, .int .i64 0, .int .i64 0, .int .i64 0, .slice none 0 0, .slice none 0 0, .int .i64 0] 32))).heap.size := RX.lt (by simp)
        (try simp at zs2 lP_ lQ_ lK_ lO_ zn)
        generalize (wD.alloc (.cells #[.int .i64 0, .int .i64 0, .int .i64 0, .int .i64 0, .int .i64 0, .int .i64 0, .slice none 0 0, .slice none 0 0, .int .i64 0] 32)) = wX at kvm10 RX hK2 hO2 lX zn ⊢
        try dsimp only
        refine hK.out _ _ kvm10 ?_; clear hK K hHeld; intro hHeld; try simp only [Act.put, List.setIfInBounds_toArray, List.set_cons_zero, List.set_cons_succ]
        refine Tk.R 10 none (.store 32 (.tmp 8) (.tmp 34)) 0 none (fun K hK => ?_)
        have d0 := RX.cell 0 rfl
        have d1 := RX.cell 1 rfl
        have d2 := RX.cell 2 rfl
        have d3 := RX.cell 3 rfl
        have d4 := RX.cell 4 rfl
        have d5 := RX.cell 5 rfl
        have d6 := RX.cell 6 rfl
        have d7 := RX.cell 7 rfl
        have d8 := RX.cell 8 rfl
        have f0 := RX.froz 0 rfl
        have f1 := RX.froz 1 rfl
        have f2 := RX.froz 2 rfl
        have f3 := RX.froz 3 rfl
        have f4 := RX.froz 4 rfl
        have f5 := RX.froz 5 rfl
        have f6 := RX.froz 6 rfl
        have f7 := RX.froz 7 rfl
        have f8 := RX.froz 8 rfl
        go_simp
        clear d0 f0 d1 f1 d2 f2 d3 f3 d4 f4 d5 f5 d6 f6 d7 f7 d8 f8
        have z_m11 := hHeld.2.2.2.2.2.2.2.2.2.2.2.2.2.2.out
        have z2_m11 := z_m11.over (q := X) (by omega) (by omega) (by omega) (by omega) (by omega) (.int .i64 n) (.int .i64 l) (.int .i64 d) (.int .i64 r) (.int .i64 p) (.int .i64 s) (.slice (some ⟨gK', 0, none⟩) k cK') (.slice (some ⟨gO', 0, none⟩) m cO') (.int .i64 (ST n l d r p s k m ks os t ts (j + 1)).2.2)
        have kvm11 := Tk.kv hK (w := _) ⟨z2_m11.P.cell 0 rfl, z2_m11.P.cell 1 rfl, z2_m11.P.cell 2 rfl, z2_m11.P.cell 3 rfl, z2_m11.P.cell 4 rfl, z2_m11.P.cell 5 rfl, z2_m11.P.cell 6 rfl, z2_m11.P.cell 7 rfl, z2_m11.P.cell 8 rfl, (z2_m11.B.cell (p := ⟨gT, oT + j * 5, none⟩) hgT).trans e1, (z2_m11.B.cell (p := ⟨gT, oT + j * 5 + 1, none⟩) hgT).trans e2, (z2_m11.B.cell (p := ⟨gT, oT + j * 5 + 2, none⟩) hgT).trans e3, (z2_m11.B.cell (p := ⟨gT, oT + j * 5 + 3, none⟩) hgT).trans e4, (z2_m11.B.cell (p := ⟨gT, oT + j * 5 + 4, none⟩) hgT).trans e5, z2_m11⟩
        replace RX := Rm.over9 RX (.int .i64 n) (.int .i64 l) (.int .i64 d) (.int .i64 r) (.int .i64 p) (.int .i64 s) (.slice (some ⟨gK', 0, none⟩) k cK') (.slice (some ⟨gO', 0, none⟩) m cO') (.int .i64 (ST n l d r p s k m ks os t ts (j + 1)).2.2)
        replace hK2 := has9 hK2 (q := X) (by omega) (.int .i64 n) (.int .i64 l) (.int .i64 d) (.int .i64 r) (.int .i64 p) (.int .i64 s) (.slice (some ⟨gK', 0, none⟩) k cK') (.slice (some ⟨gO', 0, none⟩) m cO') (.int .i64 (ST n l d r p s k m ks os t ts (j + 1)).2.2)
        replace hO2 := has9 hO2 (q := X) (by omega) (.int .i64 n) (.int .i64 l) (.int .i64 d) (.int .i64 r) (.int .i64 p) (.int .i64 s) (.slice (some ⟨gK', 0, none⟩) k cK') (.slice (some ⟨gO', 0, none⟩) m cO') (.int .i64 (ST n l d r p s k m ks os t ts (j + 1)).2.2)
        clear z_m11 z2_m11
        try dsimp only
        refine hK.out _ _ kvm11 ?_; clear hK K hHeld; intro hHeld; try simp only [Act.put, List.setIfInBounds_toArray, List.set_cons_zero, List.set_cons_succ]
        refine Tk.W 11 (some 9) (.assign (.tmp 35)) 4 none ?_
        refine wpAnyH_done (by kernel_rfl) ?_ _
        refine NoPanic.normal ?_
        have Z := hHeld.2.2.2.2.2.2.2.2.2.2.2.2.2.2.out
        clear hHeld
        cases hok : oks n l d r p s k m ks os t ts j with
        | true =>
          have HS2 : Hid (CN n l d r p s k m ks os t ts (j + 1) = j + 1 ∧ WO n l d r p s (ST n l d r p s k m ks os t ts (j + 1)).1 k (ST n l d r p s k m ks os t ts (j + 1)).2.1 m (ST n l d r p s k m ks os t ts (j + 1)).2.2 = true) := ⟨by rw [CN, if_pos ⟨hcn, hok⟩], ok_wo hok⟩
          have x0 := Z.P.cell 0 rfl
          have x1 := Z.P.cell 1 rfl
          have x2 := Z.P.cell 2 rfl
          have x3 := Z.P.cell 3 rfl
          have x4 := Z.P.cell 4 rfl
          have x5 := Z.P.cell 5 rfl
          have x6 := Z.P.cell 6 rfl
          have x7 := Z.P.cell 7 rfl
          have x8 := Z.P.cell 8 rfl
          have f0 := Z.P.froz 0 rfl
          have f1 := Z.P.froz 1 rfl
          have f2 := Z.P.froz 2 rfl
          have f3 := Z.P.froz 3 rfl
          have f4 := Z.P.froz 4 rfl
          have f5 := Z.P.froz 5 rfl
          have f6 := Z.P.froz 6 rfl
          have f7 := Z.P.froz 7 rfl
          have f8 := Z.P.froz 8 rfl
          have y0 := RX.cell 0 rfl
          have y1 := RX.cell 1 rfl
          have y2 := RX.cell 2 rfl
          have y3 := RX.cell 3 rfl
          have y4 := RX.cell 4 rfl
          have y5 := RX.cell 5 rfl
          have y6 := RX.cell 6 rfl
          have y7 := RX.cell 7 rfl
          have y8 := RX.cell 8 rfl
          have RP2 := Rm.over9 Z.P (.int .i64 n) (.int .i64 l) (.int .i64 d) (.int .i64 r) (.int .i64 p) (.int .i64 s) (.slice (some ⟨gK', 0, none⟩) k cK') (.slice (some ⟨gO', 0, none⟩) m cO') (.int .i64 (ST n l d r p s k m ks os t ts (j + 1)).2.2)
          have BX := Z.B.trans ((Rm.belowOver9 _ w3.heap.size (.int .i64 n) (.int .i64 l) (.int .i64 d) (.int .i64 r) (.int .i64 p) (.int .i64 s) (.slice (some ⟨gK', 0, none⟩) k cK') (.slice (some ⟨gO', 0, none⟩) m cO') (.int .i64 (ST n l d r p s k m ks os t ts (j + 1)).2.2)).mono (by omega))
          have KX := has9 hK2 (q := w3.heap.size) (by omega) (.int .i64 n) (.int .i64 l) (.int .i64 d) (.int .i64 r) (.int .i64 p) (.int .i64 s) (.slice (some ⟨gK', 0, none⟩) k cK') (.slice (some ⟨gO', 0, none⟩) m cO') (.int .i64 (ST n l d r p s k m ks os t ts (j + 1)).2.2)
          have OX := has9 hO2 (q := w3.heap.size) (by omega) (.int .i64 n) (.int .i64 l) (.int .i64 d) (.int .i64 r) (.int .i64 p) (.int .i64 s) (.slice (some ⟨gK', 0, none⟩) k cK') (.slice (some ⟨gO', 0, none⟩) m cO') (.int .i64 (ST n l d r p s k m ks os t ts (j + 1)).2.2)
          have RQ2 := room9o Z.Q (q := w3.heap.size) (by omega) (.int .i64 n) (.int .i64 l) (.int .i64 d) (.int .i64 r) (.int .i64 p) (.int .i64 s) (.slice (some ⟨gK', 0, none⟩) k cK') (.slice (some ⟨gO', 0, none⟩) m cO') (.int .i64 (ST n l d r p s k m ks os t ts (j + 1)).2.2)
          have v1 : IntKind.i64.wrap ((j : Int) + 1) = (j : Int) + 1 := by rw [IntKind.wrap_i64]; omega
          clear hcn hwo hOkj HOK HT1 hok HS
          go_wp2_with fail
          go_roundw
          case rel => exact ⟨j + 1, gK', cK', gO', cO', by omega, by go_num, HS2, ⟨RP2, RQ2, KX, OX, BX⟩, ⟨by omega, by omega, by omega, by omega⟩, hne'⟩
          case measure => simp [intOf]; omega
        | false =>
          have hcn9 : Hid (CN n l d r p s k m ks os t ts nT = j) := cn_end hcn hok nT (by omega)
          clear RX hK2 hO2 HOK HT1 hok
          have x0 := Z.P.cell 0 rfl
          have x1 := Z.P.cell 1 rfl
          have x2 := Z.P.cell 2 rfl
          have x3 := Z.P.cell 3 rfl
          have x4 := Z.P.cell 4 rfl
          have x5 := Z.P.cell 5 rfl
          have x6 := Z.P.cell 6 rfl
          have x7 := Z.P.cell 7 rfl
          have x8 := Z.P.cell 8 rfl
          have c0 := Z.Q.cell 0 rfl
          have c1 := Z.Q.cell 1 rfl
          have c2 := Z.Q.cell 2 rfl
          have c3 := Z.Q.cell 3 rfl
          have c4 := Z.Q.cell 4 rfl
          have c5 := Z.Q.cell 5 rfl
          have c6 := Z.Q.cell 6 rfl
          have c7 := Z.Q.cell 7 rfl
          have c8 := Z.Q.cell 8 rfl
          have f0 := Z.Q.froz 0 rfl
          have f1 := Z.Q.froz 1 rfl
          have f2 := Z.Q.froz 2 rfl
          have f3 := Z.Q.froz 3 rfl
          have f4 := Z.Q.froz 4 rfl
          have f5 := Z.Q.froz 5 rfl
          have f6 := Z.Q.froz 6 rfl
          have f7 := Z.Q.froz 7 rfl
          have f8 := Z.Q.froz 8 rfl
          have RX9 := Rm.over9 Z.Q (.int .i64 n) (.int .i64 l) (.int .i64 d) (.int .i64 r) (.int .i64 p) (.int .i64 s) (.slice (some ⟨gK, 0, none⟩) k cK) (.slice (some ⟨gO, 0, none⟩) m cO) (.int .i64 (ST n l d r p s k m ks os t ts j).2.2)
          have BX := Z.B.trans ((Rm.belowOver9 _ (w.heap.size + 1) (.int .i64 n) (.int .i64 l) (.int .i64 d) (.int .i64 r) (.int .i64 p) (.int .i64 s) (.slice (some ⟨gK, 0, none⟩) k cK) (.slice (some ⟨gO, 0, none⟩) m cO) (.int .i64 (ST n l d r p s k m ks os t ts j).2.2)).mono (by omega))
          have KX := has9 Z.K (q := w.heap.size + 1) (by omega) (.int .i64 n) (.int .i64 l) (.int .i64 d) (.int .i64 r) (.int .i64 p) (.int .i64 s) (.slice (some ⟨gK, 0, none⟩) k cK) (.slice (some ⟨gO, 0, none⟩) m cO) (.int .i64 (ST n l d r p s k m ks os t ts j).2.2)
          have OX := has9 Z.O (q := w.heap.size + 1) (by omega) (.int .i64 n) (.int .i64 l) (.int .i64 d) (.int .i64 r) (.int .i64 p) (.int .i64 s) (.slice (some ⟨gK, 0, none⟩) k cK) (.slice (some ⟨gO, 0, none⟩) m cO) (.int .i64 (ST n l d r p s k m ks os t ts j).2.2)
          go_wp2_with fail
          refine bodyPost_ret (v := .tuple #[wld n l d r p s (.slice (some ⟨gK, 0, none⟩) k cK) (.slice (some ⟨gO, 0, none⟩) m cO) (ST n l d r p s k m ks os t ts j).2.2, .int .i64 (j : Int)]) (retWB Tryz.results6 rfl rfl RX9) rfl ?_
          first | exact ⟨⟨gK, cK, gO, ⟨cO, by rw [hcn9.out]⟩, by rw [hcn9.out]; exact KX, by rw [hcn9.out]; exact OX, fun e => hne e⟩, BX⟩ | exact ⟨⟨gK, cK, gO, cO, by rw [hcn9.out], by rw [hcn9.out]; exact KX, by rw [hcn9.out]; exact OX, hne⟩, BX⟩
      · go_simp
        have bm13 : Below wr.drew.heap.size wr.drew ((wr.alloc (.cells #[.int .i64 0, .int .i64 0, .int .i64 0, .int .i64 0, .int .i64 0, .int .i64 0, .slice none 0 0, .slice none 0 0, .int .i64 0] 32)).drew) := (Below.refl wr.drew.heap.size wr.drew).alloc (Nat.le_refl _) (.cells #[.int .i64 0, .int .i64 0, .int .i64 0, .int .i64 0, .int .i64 0, .int .i64 0, .slice none 0 0, .slice none 0 0, .int .i64 0] 32)
        have RX : Room ((wr.alloc (.cells #[.int .i64 0, .int .i64 0, .int .i64 0, .int .i64 0, .int .i64 0, .int .i64 0, .slice none 0 0, .slice none 0 0, .int .i64 0] 32)).drew) wr.heap.size [.int .i64 0, .int .i64 0, .int .i64 0, .int .i64 0, .int .i64 0, .int .i64 0, .slice none 0 0, .slice none 0 0, .int .i64 0] := Room.new wr.drew [.int .i64 0, .int .i64 0, .int .i64 0, .int .i64 0, .int .i64 0, .int .i64 0, .slice none 0 0, .slice none 0 0, .int .i64 0] 32
        have z_m13 := hHeld.2.2.2.2.2.2.2.2.2.2.2.2.2.2.out
        have zs2 := z_m13.B.size
        have lP_ := z_m13.P.lt (by simp)
        have lQ_ := z_m13.Q.lt (by simp)
        have lK_ := z_m13.K.2.2.1
        have lO_ := z_m13.O.2.2.1
        have z2_m13 := z_m13.below bm13
        have kvm13 := Tk.kv hK (w := ((wr.alloc (.cells #[.int .i64 0, .int .i64 0, .int .i64 0, .int .i64 0, .int .i64 0, .int .i64 0, .slice none 0 0, .slice none 0 0, .int .i64 0] 32)).drew)) ⟨z2_m13.P.cell 0 rfl, z2_m13.P.cell 1 rfl, z2_m13.P.cell 2 rfl, z2_m13.P.cell 3 rfl, z2_m13.P.cell 4 rfl, z2_m13.P.cell 5 rfl, z2_m13.P.cell 6 rfl, z2_m13.P.cell 7 rfl, z2_m13.P.cell 8 rfl, (z2_m13.B.cell (p := ⟨gT, oT + j * 5, none⟩) hgT).trans e1, (z2_m13.B.cell (p := ⟨gT, oT + j * 5 + 1, none⟩) hgT).trans e2, (z2_m13.B.cell (p := ⟨gT, oT + j * 5 + 2, none⟩) hgT).trans e3, (z2_m13.B.cell (p := ⟨gT, oT + j * 5 + 3, none⟩) hgT).trans e4, (z2_m13.B.cell (p := ⟨gT, oT + j * 5 + 4, none⟩) hgT).trans e5, z2_m13⟩
        have zn := bm13.size
        clear bm13 z_m13 z2_m13
        obtain ⟨X, hX⟩ : ∃ x, x = wr.heap.size := ⟨_, rfl⟩
        rw [← hX] at RX ⊢
        have hX1 : X ≤ wr.heap.size := Nat.le_of_eq hX
        have hX2 : wr.heap.size ≤ X := Nat.le_of_eq hX.symm
        clear hX
        have lX : X < ((wr.alloc (.cells #[.int .i64 0, .int .i64 0, .int .i64 0, .int .i64 0, .int .i64 0, .int .i64 0, .slice none 0 0, .slice none 0 0, .int .i64 0] 32)).drew).heap.size := RX.lt (by simp)
        (try simp at zs2 lP_ lQ_ lK_ lO_ zn)
        generalize (wr.alloc (.cells #[.int .i64 0, .int .i64 0, .int .i64 0, .int .i64 0, .int .i64 0, .int .i64 0, .slice none 0 0, .slice none 0 0, .int .i64 0] 32)).drew = wX at kvm13 RX lX zn ⊢
        try dsimp only
        refine hK.out _ _ kvm13 ?_; clear hK K hHeld; intro hHeld; try simp only [Act.put, List.setIfInBounds_toArray, List.set_cons_zero, List.set_cons_succ]
        refine Tk.R 5 (some 33) (.call ⟨.value (.func 19), #[.tmp 28, .tmp 32], #[32, 53]⟩) 51 none (fun K hK => ?_)
        go_simp
        refine ((s_turn n l d r p s (ST n l d r p s k m ks os t ts j).2.2 gK 0 k cK gO 0 m cO aD aE aL aF aR cD cE cL cF cR _ _ (tt ts j) _ hHeld.2.2.2.2.2.2.2.2.2.2.2.2.2.2.out.K.row hHeld.2.2.2.2.2.2.2.2.2.2.2.2.2.2.out.O.row (hA.below hHeld.2.2.2.2.2.2.2.2.2.2.2.2.2.2.out.B) hOkj hk hwo)).mono ?_
        rintro e wD ⟨⟨gK', cK', gO', cO', rfl, hK', hO', hne'⟩, b_m14⟩
        rw [HOK.out, HT1.out]
        have z_m14 := hHeld.2.2.2.2.2.2.2.2.2.2.2.2.2.2.out
        have zs_m14 := z_m14.B.size
        have z2_m14 := z_m14.below b_m14
        have kvm14 := Tk.kv hK (w := wD) ⟨z2_m14.P.cell 0 rfl, z2_m14.P.cell 1 rfl, z2_m14.P.cell 2 rfl, z2_m14.P.cell 3 rfl, z2_m14.P.cell 4 rfl, z2_m14.P.cell 5 rfl, z2_m14.P.cell 6 rfl, z2_m14.P.cell 7 rfl, z2_m14.P.cell 8 rfl, (z2_m14.B.cell (p := ⟨gT, oT + j * 5, none⟩) hgT).trans e1, (z2_m14.B.cell (p := ⟨gT, oT + j * 5 + 1, none⟩) hgT).trans e2, (z2_m14.B.cell (p := ⟨gT, oT + j * 5 + 2, none⟩) hgT).trans e3, (z2_m14.B.cell (p := ⟨gT, oT + j * 5 + 3, none⟩) hgT).trans e4, (z2_m14.B.cell (p := ⟨gT, oT + j * 5 + 4, none⟩) hgT).trans e5, z2_m14⟩
        have q1 := hK'.2.1
        have q2 := hO'.2.1
        have q3 := hK'.2.2.1
        have q4 := hO'.2.2.1
        have hK2 : Has wD w.heap.size gK' 0 k (ST n l d r p s k m ks os t ts (j + 1)).1 := hasm hK' (by omega)
        have hO2 : Has wD w.heap.size gO' 0 m (ST n l d r p s k m ks os t ts (j + 1)).2.1 := hasm hO' (by omega)
        have zb := b_m14.size
        (try simp at q1 q2 zs_m14 zb)
        replace RX := RX.below b_m14
        clear hK' hO' z_m14 z2_m14 b_m14
        try dsimp only
        refine hK.out _ _ kvm14 ?_; clear hK K hHeld; intro hHeld; try simp only [Act.put, List.setIfInBounds_toArray, List.set_cons_zero, List.set_cons_succ]
        refine Tk.W 6 (some 27) (.move (.tmp 33)) 51 none ?_
        refine Tk.W 7 (some 34) (.extract (.tmp 27) 0) 32 none ?_
        refine Tk.W 8 (some 35) (.extract (.tmp 27) 1) 4 none ?_
        refine Tk.R 10 none (.store 32 (.tmp 8) (.tmp 34)) 0 none (fun K hK => ?_)
        have d0 := RX.cell 0 rfl
        have d1 := RX.cell 1 rfl
        have d2 := RX.cell 2 rfl
        have d3 := RX.cell 3 rfl
        have d4 := RX.cell 4 rfl
        have d5 := RX.cell 5 rfl
        have d6 := RX.cell 6 rfl
        have d7 := RX.cell 7 rfl
        have d8 := RX.cell 8 rfl
        have f0 := RX.froz 0 rfl
        have f1 := RX.froz 1 rfl
        have f2 := RX.froz 2 rfl
        have f3 := RX.froz 3 rfl
        have f4 := RX.froz 4 rfl
        have f5 := RX.froz 5 rfl
        have f6 := RX.froz 6 rfl
        have f7 := RX.froz 7 rfl
        have f8 := RX.froz 8 rfl
        go_simp
        clear d0 f0 d1 f1 d2 f2 d3 f3 d4 f4 d5 f5 d6 f6 d7 f7 d8 f8
        have z_m18 := hHeld.2.2.2.2.2.2.2.2.2.2.2.2.2.2.out
        have z2_m18 := z_m18.over (q := X) (by omega) (by omega) (by omega) (by omega) (by omega) (.int .i64 n) (.int .i64 l) (.int .i64 d) (.int .i64 r) (.int .i64 p) (.int .i64 s) (.slice (some ⟨gK', 0, none⟩) k cK') (.slice (some ⟨gO', 0, none⟩) m cO') (.int .i64 (ST n l d r p s k m ks os t ts (j + 1)).2.2)
        have kvm18 := Tk.kv hK (w := _) ⟨z2_m18.P.cell 0 rfl, z2_m18.P.cell 1 rfl, z2_m18.P.cell 2 rfl, z2_m18.P.cell 3 rfl, z2_m18.P.cell 4 rfl, z2_m18.P.cell 5 rfl, z2_m18.P.cell 6 rfl, z2_m18.P.cell 7 rfl, z2_m18.P.cell 8 rfl, (z2_m18.B.cell (p := ⟨gT, oT + j * 5, none⟩) hgT).trans e1, (z2_m18.B.cell (p := ⟨gT, oT + j * 5 + 1, none⟩) hgT).trans e2, (z2_m18.B.cell (p := ⟨gT, oT + j * 5 + 2, none⟩) hgT).trans e3, (z2_m18.B.cell (p := ⟨gT, oT + j * 5 + 3, none⟩) hgT).trans e4, (z2_m18.B.cell (p := ⟨gT, oT + j * 5 + 4, none⟩) hgT).trans e5, z2_m18⟩
        replace RX := Rm.over9 RX (.int .i64 n) (.int .i64 l) (.int .i64 d) (.int .i64 r) (.int .i64 p) (.int .i64 s) (.slice (some ⟨gK', 0, none⟩) k cK') (.slice (some ⟨gO', 0, none⟩) m cO') (.int .i64 (ST n l d r p s k m ks os t ts (j + 1)).2.2)
        replace hK2 := has9 hK2 (q := X) (by omega) (.int .i64 n) (.int .i64 l) (.int .i64 d) (.int .i64 r) (.int .i64 p) (.int .i64 s) (.slice (some ⟨gK', 0, none⟩) k cK') (.slice (some ⟨gO', 0, none⟩) m cO') (.int .i64 (ST n l d r p s k m ks os t ts (j + 1)).2.2)
        replace hO2 := has9 hO2 (q := X) (by omega) (.int .i64 n) (.int .i64 l) (.int .i64 d) (.int .i64 r) (.int .i64 p) (.int .i64 s) (.slice (some ⟨gK', 0, none⟩) k cK') (.slice (some ⟨gO', 0, none⟩) m cO') (.int .i64 (ST n l d r p s k m ks os t ts (j + 1)).2.2)
        clear z_m18 z2_m18
        try dsimp only
        refine hK.out _ _ kvm18 ?_; clear hK K hHeld; intro hHeld; try simp only [Act.put, List.setIfInBounds_toArray, List.set_cons_zero, List.set_cons_succ]
        refine Tk.W 11 (some 9) (.assign (.tmp 35)) 4 none ?_
        refine wpAnyH_done (by kernel_rfl) ?_ _
        refine NoPanic.normal ?_
        have Z := hHeld.2.2.2.2.2.2.2.2.2.2.2.2.2.2.out
        clear hHeld
        cases hok : oks n l d r p s k m ks os t ts j with
        | true =>
          have HS2 : Hid (CN n l d r p s k m ks os t ts (j + 1) = j + 1 ∧ WO n l d r p s (ST n l d r p s k m ks os t ts (j + 1)).1 k (ST n l d r p s k m ks os t ts (j + 1)).2.1 m (ST n l d r p s k m ks os t ts (j + 1)).2.2 = true) := ⟨by rw [CN, if_pos ⟨hcn, hok⟩], ok_wo hok⟩
          have x0 := Z.P.cell 0 rfl
          have x1 := Z.P.cell 1 rfl
          have x2 := Z.P.cell 2 rfl
          have x3 := Z.P.cell 3 rfl
          have x4 := Z.P.cell 4 rfl
          have x5 := Z.P.cell 5 rfl
          have x6 := Z.P.cell 6 rfl
          have x7 := Z.P.cell 7 rfl
          have x8 := Z.P.cell 8 rfl
          have f0 := Z.P.froz 0 rfl
          have f1 := Z.P.froz 1 rfl
          have f2 := Z.P.froz 2 rfl
          have f3 := Z.P.froz 3 rfl
          have f4 := Z.P.froz 4 rfl
          have f5 := Z.P.froz 5 rfl
          have f6 := Z.P.froz 6 rfl
          have f7 := Z.P.froz 7 rfl
          have f8 := Z.P.froz 8 rfl
          have y0 := RX.cell 0 rfl
          have y1 := RX.cell 1 rfl
          have y2 := RX.cell 2 rfl
          have y3 := RX.cell 3 rfl
          have y4 := RX.cell 4 rfl
          have y5 := RX.cell 5 rfl
          have y6 := RX.cell 6 rfl
          have y7 := RX.cell 7 rfl
          have y8 := RX.cell 8 rfl
          have RP2 := Rm.over9 Z.P (.int .i64 n) (.int .i64 l) (.int .i64 d) (.int .i64 r) (.int .i64 p) (.int .i64 s) (.slice (some ⟨gK', 0, none⟩) k cK') (.slice (some ⟨gO', 0, none⟩) m cO') (.int .i64 (ST n l d r p s k m ks os t ts (j + 1)).2.2)
          have BX := Z.B.trans ((Rm.belowOver9 _ w3.heap.size (.int .i64 n) (.int .i64 l) (.int .i64 d) (.int .i64 r) (.int .i64 p) (.int .i64 s) (.slice (some ⟨gK', 0, none⟩) k cK') (.slice (some ⟨gO', 0, none⟩) m cO') (.int .i64 (ST n l d r p s k m ks os t ts (j + 1)).2.2)).mono (by omega))
          have KX := has9 hK2 (q := w3.heap.size) (by omega) (.int .i64 n) (.int .i64 l) (.int .i64 d) (.int .i64 r) (.int .i64 p) (.int .i64 s) (.slice (some ⟨gK', 0, none⟩) k cK') (.slice (some ⟨gO', 0, none⟩) m cO') (.int .i64 (ST n l d r p s k m ks os t ts (j + 1)).2.2)
          have OX := has9 hO2 (q := w3.heap.size) (by omega) (.int .i64 n) (.int .i64 l) (.int .i64 d) (.int .i64 r) (.int .i64 p) (.int .i64 s) (.slice (some ⟨gK', 0, none⟩) k cK') (.slice (some ⟨gO', 0, none⟩) m cO') (.int .i64 (ST n l d r p s k m ks os t ts (j + 1)).2.2)
          have RQ2 := room9o Z.Q (q := w3.heap.size) (by omega) (.int .i64 n) (.int .i64 l) (.int .i64 d) (.int .i64 r) (.int .i64 p) (.int .i64 s) (.slice (some ⟨gK', 0, none⟩) k cK') (.slice (some ⟨gO', 0, none⟩) m cO') (.int .i64 (ST n l d r p s k m ks os t ts (j + 1)).2.2)
          have v1 : IntKind.i64.wrap ((j : Int) + 1) = (j : Int) + 1 := by rw [IntKind.wrap_i64]; omega
          clear hcn hwo hOkj HOK HT1 hok HS
          go_wp2_with fail
          go_roundw
          case rel => exact ⟨j + 1, gK', cK', gO', cO', by omega, by go_num, HS2, ⟨RP2, RQ2, KX, OX, BX⟩, ⟨by omega, by omega, by omega, by omega⟩, hne'⟩
          case measure => simp [intOf]; omega
        | false =>
          have hcn9 : Hid (CN n l d r p s k m ks os t ts nT = j) := cn_end hcn hok nT (by omega)
          clear RX hK2 hO2 HOK HT1 hok
          have x0 := Z.P.cell 0 rfl
          have x1 := Z.P.cell 1 rfl
          have x2 := Z.P.cell 2 rfl
          have x3 := Z.P.cell 3 rfl
          have x4 := Z.P.cell 4 rfl
          have x5 := Z.P.cell 5 rfl
          have x6 := Z.P.cell 6 rfl
          have x7 := Z.P.cell 7 rfl
          have x8 := Z.P.cell 8 rfl
          have c0 := Z.Q.cell 0 rfl
          have c1 := Z.Q.cell 1 rfl
          have c2 := Z.Q.cell 2 rfl
          have c3 := Z.Q.cell 3 rfl
          have c4 := Z.Q.cell 4 rfl
          have c5 := Z.Q.cell 5 rfl
          have c6 := Z.Q.cell 6 rfl
          have c7 := Z.Q.cell 7 rfl
          have c8 := Z.Q.cell 8 rfl
          have f0 := Z.Q.froz 0 rfl
          have f1 := Z.Q.froz 1 rfl
          have f2 := Z.Q.froz 2 rfl
          have f3 := Z.Q.froz 3 rfl
          have f4 := Z.Q.froz 4 rfl
          have f5 := Z.Q.froz 5 rfl
          have f6 := Z.Q.froz 6 rfl
          have f7 := Z.Q.froz 7 rfl
          have f8 := Z.Q.froz 8 rfl
          have RX9 := Rm.over9 Z.Q (.int .i64 n) (.int .i64 l) (.int .i64 d) (.int .i64 r) (.int .i64 p) (.int .i64 s) (.slice (some ⟨gK, 0, none⟩) k cK) (.slice (some ⟨gO, 0, none⟩) m cO) (.int .i64 (ST n l d r p s k m ks os t ts j).2.2)
          have BX := Z.B.trans ((Rm.belowOver9 _ (w.heap.size + 1) (.int .i64 n) (.int .i64 l) (.int .i64 d) (.int .i64 r) (.int .i64 p) (.int .i64 s) (.slice (some ⟨gK, 0, none⟩) k cK) (.slice (some ⟨gO, 0, none⟩) m cO) (.int .i64 (ST n l d r p s k m ks os t ts j).2.2)).mono (by omega))
          have KX := has9 Z.K (q := w.heap.size + 1) (by omega) (.int .i64 n) (.int .i64 l) (.int .i64 d) (.int .i64 r) (.int .i64 p) (.int .i64 s) (.slice (some ⟨gK, 0, none⟩) k cK) (.slice (some ⟨gO, 0, none⟩) m cO) (.int .i64 (ST n l d r p s k m ks os t ts j).2.2)
          have OX := has9 Z.O (q := w.heap.size + 1) (by omega) (.int .i64 n) (.int .i64 l) (.int .i64 d) (.int .i64 r) (.int .i64 p) (.int .i64 s) (.slice (some ⟨gK, 0, none⟩) k cK) (.slice (some ⟨gO, 0, none⟩) m cO) (.int .i64 (ST n l d r p s k m ks os t ts j).2.2)
          go_wp2_with fail
          refine bodyPost_ret (v := .tuple #[wld n l d r p s (.slice (some ⟨gK, 0, none⟩) k cK) (.slice (some ⟨gO, 0, none⟩) m cO) (ST n l d r p s k m ks os t ts j).2.2, .int .i64 (j : Int)]) (retWB Tryz.results6 rfl rfl RX9) rfl ?_
          first | exact ⟨⟨gK, cK, gO, ⟨cO, by rw [hcn9.out]⟩, by rw [hcn9.out]; exact KX, by rw [hcn9.out]; exact OX, fun e => hne e⟩, BX⟩ | exact ⟨⟨gK, cK, gO, cO, by rw [hcn9.out], by rw [hcn9.out]; exact KX, by rw [hcn9.out]; exact OX, hne⟩, BX⟩
    · have e9 : j = nT := by omega
      subst e9
      have hi : ¬ (j : Int) < (j : Int) := by omega
      have hcn9 : Hid (CN n l d r p s k m ks os t ts j = j) := HS.out.1
      have x0 := Z.P.cell 0 rfl
      have x1 := Z.P.cell 1 rfl
      have x2 := Z.P.cell 2 rfl
      have x3 := Z.P.cell 3 rfl
      have x4 := Z.P.cell 4 rfl
      have x5 := Z.P.cell 5 rfl
      have x6 := Z.P.cell 6 rfl
      have x7 := Z.P.cell 7 rfl
      have x8 := Z.P.cell 8 rfl
      have c0 := Z.Q.cell 0 rfl
      have c1 := Z.Q.cell 1 rfl
      have c2 := Z.Q.cell 2 rfl
      have c3 := Z.Q.cell 3 rfl
      have c4 := Z.Q.cell 4 rfl
      have c5 := Z.Q.cell 5 rfl
      have c6 := Z.Q.cell 6 rfl
      have c7 := Z.Q.cell 7 rfl
      have c8 := Z.Q.cell 8 rfl
      have f0 := Z.Q.froz 0 rfl
      have f1 := Z.Q.froz 1 rfl
      have f2 := Z.Q.froz 2 rfl
      have f3 := Z.Q.froz 3 rfl
      have f4 := Z.Q.froz 4 rfl
      have f5 := Z.Q.froz 5 rfl
      have f6 := Z.Q.froz 6 rfl
      have f7 := Z.Q.froz 7 rfl
      have f8 := Z.Q.froz 8 rfl
      have RX9 := Rm.over9 Z.Q (.int .i64 n) (.int .i64 l) (.int .i64 d) (.int .i64 r) (.int .i64 p) (.int .i64 s) (.slice (some ⟨gK, 0, none⟩) k cK) (.slice (some ⟨gO, 0, none⟩) m cO) (.int .i64 (ST n l d r p s k m ks os t ts j).2.2)
      have BX := Z.B.trans ((Rm.belowOver9 _ (w.heap.size + 1) (.int .i64 n) (.int .i64 l) (.int .i64 d) (.int .i64 r) (.int .i64 p) (.int .i64 s) (.slice (some ⟨gK, 0, none⟩) k cK) (.slice (some ⟨gO, 0, none⟩) m cO) (.int .i64 (ST n l d r p s k m ks os t ts j).2.2)).mono (by omega))
      have KX := has9 Z.K (q := w.heap.size + 1) (by omega) (.int .i64 n) (.int .i64 l) (.int .i64 d) (.int .i64 r) (.int .i64 p) (.int .i64 s) (.slice (some ⟨gK, 0, none⟩) k cK) (.slice (some ⟨gO, 0, none⟩) m cO) (.int .i64 (ST n l d r p s k m ks os t ts j).2.2)
      have OX := has9 Z.O (q := w.heap.size + 1) (by omega) (.int .i64 n) (.int .i64 l) (.int .i64 d) (.int .i64 r) (.int .i64 p) (.int .i64 s) (.slice (some ⟨gK, 0, none⟩) k cK) (.slice (some ⟨gO, 0, none⟩) m cO) (.int .i64 (ST n l d r p s k m ks os t ts j).2.2)
      go_wp2_with fail
      refine bodyPost_ret (v := .tuple #[wld n l d r p s (.slice (some ⟨gK, 0, none⟩) k cK) (.slice (some ⟨gO, 0, none⟩) m cO) (ST n l d r p s k m ks os t ts j).2.2, .int .i64 (j : Int)]) (retWB Tryz.results6 rfl rfl RX9) rfl ?_
      first | exact ⟨⟨gK, cK, gO, ⟨cO, by rw [hcn9.out]⟩, by rw [hcn9.out]; exact KX, by rw [hcn9.out]; exact OX, fun e => hne e⟩, BX⟩ | exact ⟨⟨gK, cK, gO, cO, by rw [hcn9.out], by rw [hcn9.out]; exact KX, by rw [hcn9.out]; exact OX, hne⟩, BX⟩

end Go.Proofs.YtcgcmceobmpdiaaGreat.Pl

namespace Go.Proofs.YtcgcmceobmpdiaaGreat.Pl
open Go.ChangeShapes Go.WideShapes Go.ChangeAt Go.RowKit
open Ls (el Row)
open Rm (Room)
open Ow (Has)
open Rd (Flags)
open Bo (HasB)
open Ss (RowsAt HasR Mid tot ln)
open Tu (trn z5 HasT)
set_option linter.unusedVariables false
set_option linter.unusedSimpArgs false

/-- How much a turn holds. -/
def sz (T : TT) : Nat := T.nD + (T.nE + tot T.es T.nE) + (T.nL + tot T.ls T.nL) + T.nF + T.nR
/-- How much the first turns hold. -/
def szs (ts : List TT) : Nat → Nat
  | 0 => 0
  | j + 1 => szs ts j + sz (tt ts j)
theorem szs_le (ts : List TT) {j k : Nat} (h : j ≤ k) : szs ts j ≤ szs ts k := by
  induction k with
  | zero => obtain rfl : j = 0 := by omega
            exact Nat.le_refl _
  | succ k ih =>
    by_cases e : j = k + 1
    · subst e; exact Nat.le_refl _
    · have := ih (by omega); have e2 : szs ts (k + 1) = szs ts k + sz (tt ts k) := rfl; omega
theorem sz_szs (ts : List TT) {j k : Nat} (h : j < k) : sz (tt ts j) ≤ szs ts k := by
  have := szs_le ts (show j + 1 ≤ k from h)
  have e2 : szs ts (j + 1) = szs ts j + sz (tt ts j) := rfl
  omega
theorem sz_ok {T : TT} (h : sz T ≤ 1048576) : T.Ok := by
  unfold sz at h
  exact ⟨by omega, by omega, by omega, by omega, by omega, by omega, by omega⟩
/-- A turn whose lists are slices. -/
structure TT.Fit (T : TT) : Prop where
  D : T.nD ≤ maxLen
  E : T.nE ≤ maxLen
  L : T.nL ≤ maxLen
  F : T.nF ≤ maxLen
  R : T.nR ≤ maxLen
  E2 : ∀ k, k < T.nE → ln T.es k ≤ maxLen
  L2 : ∀ k, k < T.nL → ln T.ls k ≤ maxLen

set_option maxHeartbeats 2000000 in
theorem szTurn_is (T : TT) (aD aE aL aF aR : Option Addr) (cD cE cL cF cR : Nat) (w : World) (q : Int) (hA : T.At w aD aE aL aF aR) (hz : (sz T : Int) ≤ q) (hq : q ≤ 1048576) :
    Calls Tryz.prog 16 #[trn (.slice aD T.nD cD) (.slice aE T.nE cE) (.slice aL T.nL cL) (.slice aF T.nF cF) (.slice aR T.nR cR), .int .i64 q] w fun e w' => e = .returned (.int .i64 (q - sz T)) ∧ Below w.heap.size w w' := by
  obtain ⟨rD, rE, rL, rF, rR⟩ := hA
  have HE : Hid (∀ x : Int, x = (((((q - (T.nD : Int)) - (T.nE : Int) - (tot T.es T.nE : Int)) - (T.nL : Int) - (tot T.ls T.nL : Int)) - (T.nF : Int)) - (T.nR : Int)) → x = q - (sz T : Int)) := fun x h => by unfold sz; omega
  unfold sz at hz
  obtain ⟨ds, es, ls, fs, rs, nD, nE, nL, nF, nR⟩ := T
  dsimp only at rD rE rL rF rR hz HE ⊢
  have B1 := (Below.refl w.heap.size w).alloc (Nat.le_refl _) (.cells #[.slice aD nD cD, .slice aE nE cE, .slice aL nL cL, .slice aF nF cF, .slice aR nR cR] 48)
  have s1 : decide ((q - (nD : Int)) < 0) = false := by simp; omega
  have s2 : decide (((q - (nD : Int)) - (nE : Int) - (tot es nE : Int)) < 0) = false := by simp; omega
  have s3 : decide ((((q - (nD : Int)) - (nE : Int) - (tot es nE : Int)) - (nL : Int) - (tot ls nL : Int)) < 0) = false := by simp; omega
  have s4 : decide (((((q - (nD : Int)) - (nE : Int) - (tot es nE : Int)) - (nL : Int) - (tot ls nL : Int)) - (nF : Int)) < 0) = false := by simp; omega
  have s5 : decide ((((((q - (nD : Int)) - (nE : Int) - (tot es nE : Int)) - (nL : Int) - (tot ls nL : Int)) - (nF : Int)) - (nR : Int)) < 0) = false := by simp; omega
  go_enter Tryz.func16, Tryz.ntmps16
  go_wp2_with fail
  refine (Wl.sz_yes aD nD cD q _ (by omega) (by omega)).mono ?_
  rintro e w ⟨rfl, rfl⟩
  go_wp2_with fail
  refine (Ss.sz_yes aE nE cE es _ _ ((rE.later B1 (Nat.le_refl _)).more B1.size) (by omega) (by omega)).mono ?_
  rintro e w ⟨rfl, rfl⟩
  go_wp2_with fail
  refine (Ss.sz_yes aL nL cL ls _ _ ((rL.later B1 (Nat.le_refl _)).more B1.size) (by omega) (by omega)).mono ?_
  rintro e w ⟨rfl, rfl⟩
  go_wp2_with fail
  refine (Tu.bz_yes aF nF cF _ _ (by omega) (by omega)).mono ?_
  rintro e w ⟨rfl, rfl⟩
  go_wp2_with fail
  refine (Tu.bz_yes aR nR cR _ _ (by omega) (by omega)).mono ?_
  rintro e w ⟨rfl, rfl⟩
  go_wp2
  go_ret
  exact ⟨Sp.reti (HE.out _ rfl), B1⟩

set_option maxHeartbeats 4000000 in
theorem szs_yes (aT : Option Addr) (n cap : Nat) (ts : List TT) (q : Int) (w : World) (hT : TurnsAt w w.heap.size aT n ts) (h0 : (n : Int) + szs ts n ≤ q) (h1 : q ≤ 1048576) :
    Calls Tryz.prog 5 #[.slice aT n cap, .int .i64 q] w fun e w' => (∃ x : Int, e = .returned (.int .i64 x) ∧ 0 ≤ x) ∧ Below w.heap.size w w' := by
  have h2 : decide (q - (n : Int) < 0) = false := by simp; omega
  go_enter Tryz.func5, Tryz.ntmps5
  go_wp2_with fail
  go_loopw [1, 5] (fun v i wr => ∃ k : Nat, k ≤ n ∧ i = .int .i64 k ∧ v = .int .i64 (q - n - szs ts k) ∧ Below w.heap.size w wr) (fun _ i _ => n - (intOf i).toNat)
  case atStart => exact ⟨0, Nat.zero_le _, rfl, by simp [szs], Below.refl _ _⟩
  case round =>
    obtain ⟨k, hk, rfl, rfl, BB⟩ := hrel
    by_cases hlt : k < n
    · have hi : (k : Int) < n := by omega
      have TR := hT.below BB
      obtain ⟨zT, hz | ⟨gT, oT, rfl, hgT, hcT⟩⟩ := id TR
      · omega
      obtain ⟨aD, cD, aE, cE, aL, cL, aF, cF, aR, cR, e1, e2, e3, e4, e5, hA⟩ := hcT k hlt
      have hsz := szs_le ts (show k + 1 ≤ n from hlt)
      have hs2 : szs ts (k + 1) = szs ts k + sz (tt ts k) := rfl
      have h3 : decide (q - (n : Int) - szs ts k - sz (tt ts k) < 0) = false := by simp; omega
      go_wp2_with fail
      clear e1 e2 e3 e4 e5
      refine (szTurn_is (tt ts k) aD aE aL aF aR cD cE cL cF cR _ _ hA (by omega) (by omega)).mono ?_
      rintro e w2 ⟨rfl, b2⟩
      replace BB := BB.trans (b2.mono BB.size)
      clear b2 hA TR hcT
      go_wp2_with fail
      go_roundw
      case rel => exact ⟨k + 1, by omega, by go_num, by rw [show (q - (n : Int) - szs ts k - sz (tt ts k)) = q - n - szs ts (k + 1) by omega], BB⟩
      case measure => simp [intOf]; omega
    · have hi : ¬ (k : Int) < n := by omega
      have e : k = n := by omega
      subst e
      go_wp2
      go_ret
      exact ⟨⟨_, rfl, by omega⟩, BB⟩

set_option maxHeartbeats 4000000 in
theorem szs_no (aT : Option Addr) (n cap : Nat) (ts : List TT) (q : Int) (w : World) (hT : TurnsAt w w.heap.size aT n ts) (h0 : q < (n : Int) + szs ts n) (hq0 : 0 ≤ q) (h1 : q ≤ 1048576) (hn : n ≤ maxLen) (hF : ∀ j, j < n → (tt ts j).Fit) :
    Calls Tryz.prog 5 #[.slice aT n cap, .int .i64 q] w fun e w' => e = .returned (.int .i64 (-1)) ∧ Below w.heap.size w w' := by
  have HF : Hid (∀ j, j < n → (tt ts j).Fit) := hF
  unfold maxLen at hn
  clear hF
  by_cases hq : (n : Int) ≤ q
  · have h2 : decide (q - (n : Int) < 0) = false := by simp; omega
    go_enter Tryz.func5, Tryz.ntmps5
    go_wp2_with fail
    go_loopw [1, 5] (fun v i wr => ∃ k : Nat, k ≤ n ∧ i = .int .i64 k ∧ v = .int .i64 (q - n - szs ts k) ∧ 0 ≤ q - n - szs ts k ∧ Below w.heap.size w wr) (fun _ i _ => n - (intOf i).toNat)
    case atStart => exact ⟨0, Nat.zero_le _, rfl, by simp [szs], by simp [szs]; omega, Below.refl _ _⟩
    case round =>
      obtain ⟨k, hk, rfl, rfl, hp, BB⟩ := hrel
      by_cases hlt : k < n
      · have hi : (k : Int) < n := by omega
        have TR := hT.below BB
        obtain ⟨zT, hz | ⟨gT, oT, rfl, hgT, hcT⟩⟩ := id TR
        · omega
        obtain ⟨aD, cD, aE, cE, aL, cL, aF, cF, aR, cR, e1, e2, e3, e4, e5, hA⟩ := hcT k hlt
        have hsz := szs_le ts (show k + 1 ≤ n from hlt)
        have hs2 : szs ts (k + 1) = szs ts k + sz (tt ts k) := rfl
        by_cases hx : (sz (tt ts k) : Int) ≤ q - n - szs ts k
        · have h3 : decide (q - (n : Int) - szs ts k - sz (tt ts k) < 0) = false := by simp; omega
          go_wp2_with fail
          clear e1 e2 e3 e4 e5
          refine (szTurn_is (tt ts k) aD aE aL aF aR cD cE cL cF cR _ _ hA (by omega) (by omega)).mono ?_
          rintro e w2 ⟨rfl, b2⟩
          replace BB := BB.trans (b2.mono BB.size)
          clear b2 hA TR hcT
          go_wp2_with fail
          go_roundw
          case rel => exact ⟨k + 1, by omega, by go_num, by rw [show (q - (n : Int) - szs ts k - sz (tt ts k)) = q - n - szs ts (k + 1) by omega], by omega, BB⟩
          case measure => simp [intOf]; omega
        · have F := HF.out k hlt
          unfold sz at hx
          go_wp2_with fail
          clear e1 e2 e3 e4 e5
          refine (Tu.szTurn_no aD aE aL aF aR _ cD _ cE _ cL _ cF _ cR _ _ _ _ _ _ _ hA.D hA.E hA.L hA.F hA.R (by omega) (by omega) hp F.D F.E F.L F.F F.R F.E2 F.L2).mono ?_
          rintro e w2 ⟨rfl, b2⟩
          replace BB := BB.trans (b2.mono BB.size)
          clear b2 hA TR hcT
          go_wp2
          go_ret
          exact ⟨rfl, BB⟩
      · have hi : ¬ (k : Int) < n := by omega
        have e : k = n := by omega
        subst e
        omega
  · have h3 : decide (q - (n : Int) < 0) = true := by simp; omega
    go_enter Tryz.func5, Tryz.ntmps5
    go_wp2
    go_ret
    exact ⟨rfl, Below.refl _ _⟩

/-- A turn with wider ends. -/
theorem HasT.wide {w : World} {B B' C g0 g1 g2 g3 g4 nD nE nL nF nR : Nat} {ds : List Int} {es ls : List (List Int)} {fs rs : List Bool} (h : HasT w B C g0 g1 g2 g3 g4 nD nE nL nF nR ds es ls fs rs) (hB : B' ≤ B) : HasT w B' C g0 g1 g2 g3 g4 nD nE nL nF nR ds es ls fs rs := by
  obtain ⟨B1, B2, B3, B4, h0, u0, h1, h2, h3, u3, h4, u4, b1, b2, b3, b4, b5, b6⟩ := h
  exact ⟨B1, B2, B3, B4, h0.mono hB, u0, h1, h2, h3, u3, h4, u4, by omega, b2, b3, b4, b5, b6⟩
abbrev sl (g n : Nat) : Value := .slice (some ⟨g, 0, none⟩) n n
/-- The first k turns of a list at block g, its cells vs: each one's rows from b j to b (j + 1), all behind g, below C. -/
structure TsUp (w : World) (C g : Nat) (vs : List Value) (ts : List TT) (G : Nat → Nat → Nat) (b : Nat → Nat) (k : Nat) : Prop where
  R : Room w g vs
  T : ∀ j, j < k → (vs[j * 5]? = some (sl (G j 0) (tt ts j).nD) ∧ vs[j * 5 + 1]? = some (sl (G j 1) (tt ts j).nE) ∧ vs[j * 5 + 2]? = some (sl (G j 2) (tt ts j).nL) ∧ vs[j * 5 + 3]? = some (sl (G j 3) (tt ts j).nF) ∧ vs[j * 5 + 4]? = some (sl (G j 4) (tt ts j).nR)) ∧
    HasT w (b j) (b (j + 1)) (G j 0) (G j 1) (G j 2) (G j 3) (G j 4) (tt ts j).nD (tt ts j).nE (tt ts j).nL (tt ts j).nF (tt ts j).nR (tt ts j).ds (tt ts j).es (tt ts j).ls (tt ts j).fs (tt ts j).rs
  lo : g < b 0
  up : ∀ j, j < k → b j ≤ b (j + 1)
  hi : b k ≤ C
  C : C ≤ w.heap.size
theorem TsUp.le {w : World} {C g : Nat} {vs : List Value} {ts : List TT} {G : Nat → Nat → Nat} {b : Nat → Nat} {k : Nat} (h : TsUp w C g vs ts G b k) : ∀ j, j ≤ k → g < b j
  | 0, _ => h.lo
  | j + 1, hj => Nat.lt_of_lt_of_le (h.le j (by omega)) (h.up j (by omega))
theorem TsUp.le2 {w : World} {C g : Nat} {vs : List Value} {ts : List TT} {G : Nat → Nat → Nat} {b : Nat → Nat} {k : Nat} (h : TsUp w C g vs ts G b k) {i : Nat} : ∀ j, i ≤ j → j ≤ k → b i ≤ b j
  | 0, hi, _ => by obtain rfl : i = 0 := by omega
                   exact Nat.le_refl _
  | j + 1, hi, hj => by
    by_cases e : i = j + 1
    · subst e; exact Nat.le_refl _
    · exact Nat.le_trans (h.le2 j (by omega) (by omega)) (h.up j (by omega))
theorem TsUp.mid {X Y : Nat} {w w' : World} {C g : Nat} {vs : List Value} {ts : List TT} {G : Nat → Nat → Nat} {b : Nat → Nat} {k : Nat} (h : TsUp w C g vs ts G b k) (m : Mid X Y w w') (hn : 0 < vs.length) (q : C ≤ X ∨ Y ≤ g) : TsUp w' C g vs ts G b k := by
  have h0 := h.le 0 (by omega)
  have hk := h.le k (Nat.le_refl _)
  have hC := h.hi
  refine ⟨m.room h.R hn (by omega), fun j hj => ⟨(h.T j hj).1, Tu.Mid.hasT m (h.T j hj).2 ?_⟩, h.lo, h.up, h.hi, Nat.le_trans h.C m.size⟩
  have a1 := h.le j (by omega)
  have a2 := h.le2 (i := j + 1) k (by omega) (Nat.le_refl _)
  omega
theorem TsUp.later {w w' : World} {C g : Nat} {vs : List Value} {ts : List TT} {G : Nat → Nat → Nat} {b : Nat → Nat} {k : Nat} (h : TsUp w C g vs ts G b k) (hn : 0 < vs.length) (hb : Below w.heap.size w w') : TsUp w' C g vs ts G b k :=
  h.mid (Mid.of_below (B := C) (C := g) hb) hn (.inl (Nat.le_refl _))
theorem TsUp.at {w : World} {C g : Nat} {vs : List Value} {ts : List TT} {G : Nat → Nat → Nat} {b : Nat → Nat} {n : Nat} (h : TsUp w C g vs ts G b n) (hl : ts.length = n) : TurnsAt w w.heap.size (some ⟨g, 0, none⟩) n ts := by
  refine ⟨hl, ?_⟩
  by_cases h0 : n = 0
  · exact .inl h0
  have hg : g < w.heap.size := by have := h.lo; have := h.le2 (i := 0) n (by omega) (Nat.le_refl _); have := h.hi; have := h.C; omega
  refine .inr ⟨g, 0, rfl, hg, fun j hj => ?_⟩
  obtain ⟨⟨c0, c1, c2, c3, c4⟩, B1, B2, B3, B4, t0, u0, t1, t2, t3, u3, t4, u4, _⟩ := h.T j hj
  rw [Nat.zero_add]
  exact ⟨_, _, _, _, _, _, _, _, _, _, h.R.cell _ c0, h.R.cell _ c1, h.R.cell _ c2, h.R.cell _ c3, h.R.cell _ c4, t0.row, t1.rows, t2.rows, t3.row, t4.row⟩

/-- One turn more. -/
theorem TsUp.next {w w2 : World} {g n k : Nat} {vs : List Value} {ts : List TT} {G : Nat → Nat → Nat} {b : Nat → Nat} (h : TsUp w w.heap.size g vs ts G b k) (hl : vs.length = n * 5) (hk : k < n) (hb : Below w.heap.size w w2) {g0 g1 g2 g3 g4 : Nat}
    (hT : HasT w2 w.heap.size w2.heap.size g0 g1 g2 g3 g4 (tt ts k).nD (tt ts k).nE (tt ts k).nL (tt ts k).nF (tt ts k).nR (tt ts k).ds (tt ts k).es (tt ts k).ls (tt ts k).fs (tt ts k).rs) :
    ∃ vs' G' b', vs'.length = n * 5 ∧ TsUp (((((w2.setCell ⟨g, k * 5, none⟩ (sl g0 (tt ts k).nD)).setCell ⟨g, k * 5 + 1, none⟩ (sl g1 (tt ts k).nE)).setCell ⟨g, k * 5 + 2, none⟩ (sl g2 (tt ts k).nL)).setCell ⟨g, k * 5 + 3, none⟩ (sl g3 (tt ts k).nF)).setCell ⟨g, k * 5 + 4, none⟩ (sl g4 (tt ts k).nR)) w2.heap.size g vs' ts G' b' (k + 1) := by
  have hz := hb.size
  have hgb := h.le k (Nat.le_refl _)
  have hbC := h.hi
  have h2 := h.later (by omega) hb
  have m : ∀ (w : World) (i : Nat) (u : Value), Mid g (g + 1) w (w.setCell ⟨g, i, none⟩ u) := fun w i u => ⟨rfl, rfl, rfl, by simp, fun k hk e => Below.heap_setCell _ _ _ _ (by simp; omega)⟩
  have mm := ((((m w2 (k * 5) (sl g0 (tt ts k).nD)).trans (m _ (k * 5 + 1) (sl g1 (tt ts k).nE))).trans (m _ (k * 5 + 2) (sl g2 (tt ts k).nL))).trans (m _ (k * 5 + 3) (sl g3 (tt ts k).nF))).trans (m _ (k * 5 + 4) (sl g4 (tt ts k).nR))
  refine ⟨((((vs.set (k * 5) (sl g0 (tt ts k).nD)).set (k * 5 + 1) (sl g1 (tt ts k).nE)).set (k * 5 + 2) (sl g2 (tt ts k).nL)).set (k * 5 + 3) (sl g3 (tt ts k).nF)).set (k * 5 + 4) (sl g4 (tt ts k).nR), fun j i => if j = k then (match i with | 0 => g0 | 1 => g1 | 2 => g2 | 3 => g3 | _ => g4) else G j i, fun j => if j = k + 1 then w2.heap.size else b j, by simpa using hl, ?_⟩
  refine ⟨((((h2.R.set _ _).set _ _).set _ _).set _ _).set _ _, fun j hj => ?_, ?_, fun j hj => ?_, ?_, by simp⟩
  · by_cases e : j = k
    · subst e
      simp only [if_true, if_neg (show ¬ j = j + 1 by omega)]
      refine ⟨⟨?_, ?_, ?_, ?_, ?_⟩, Tu.Mid.hasT mm (HasT.wide hT (by omega)) (.inr (by omega))⟩
      · rw [List.getElem?_set_ne (by omega), List.getElem?_set_ne (by omega), List.getElem?_set_ne (by omega), List.getElem?_set_ne (by omega), List.getElem?_set_self (by omega)]
      · rw [List.getElem?_set_ne (by omega), List.getElem?_set_ne (by omega), List.getElem?_set_ne (by omega), List.getElem?_set_self (by simp; omega)]
      · rw [List.getElem?_set_ne (by omega), List.getElem?_set_ne (by omega), List.getElem?_set_self (by simp; omega)]
      · rw [List.getElem?_set_ne (by omega), List.getElem?_set_self (by simp; omega)]
      · rw [List.getElem?_set_self (by simp; omega)]
    · have hj2 : j < k := by omega
      simp only [if_neg e, if_neg (show ¬ j = k + 1 by omega), if_neg (show ¬ j + 1 = k + 1 by omega)]
      obtain ⟨⟨c0, c1, c2, c3, c4⟩, hh⟩ := h2.T j hj2
      have a1 := h.le j (by omega)
      refine ⟨⟨?_, ?_, ?_, ?_, ?_⟩, Tu.Mid.hasT mm hh (.inr (by omega))⟩
      all_goals rw [List.getElem?_set_ne (by omega), List.getElem?_set_ne (by omega), List.getElem?_set_ne (by omega), List.getElem?_set_ne (by omega), List.getElem?_set_ne (by omega)]; assumption
  · simp only [if_neg (show ¬ 0 = k + 1 by omega)]; exact h.lo
  · by_cases e : j = k
    · subst e
      simp only [if_true, if_pos, if_neg (show ¬ j = j + 1 by omega)]
      omega
    · simp only [if_neg (show ¬ j = k + 1 by omega), if_neg (show ¬ j + 1 = k + 1 by omega)]
      exact h.up j (by omega)
  · simp only [if_true, if_pos]; exact Nat.le_refl _

/-- A whole list of turns that nothing else holds, at block g, all below C. -/
def TsAll (w : World) (C g n : Nat) (ts : List TT) : Prop := ∃ vs G b, vs.length = n * 5 ∧ TsUp w C g vs ts G b n

theorem infoTurn : (Tryz.prog.info? 53).map (fun i => (i.zero, i.size, i.bytes)) = some (some (trn (.slice none 0 0) (.slice none 0 0) (.slice none 0 0) (.slice none 0 0) (.slice none 0 0)), 5, 120) := by kernel_rfl
theorem made5 (n : Nat) : madeCells z5.toArray (n * 5) = (List.replicate (n * 5) (.slice none 0 0 : Value)).toArray := by
  apply Array.ext
  · simp [size_madeCells]
  · intro i h1 h2
    have h3 : i % 5 < 5 := Nat.mod_lt _ (by omega)
    simp only [madeCells, Array.getElem_map, Array.getElem_range, List.getElem_toArray, List.getElem_replicate]
    have : (z5.toArray : Array Value).size = 5 := rfl
    rw [this]
    rcases (show i % 5 = 0 ∨ i % 5 = 1 ∨ i % 5 = 2 ∨ i % 5 = 3 ∨ i % 5 = 4 by omega) with e | e | e | e | e
    all_goals rw [e]; rfl
theorem run_make5 (n : Nat) (hn : n ≤ 1048576) (w : World) : (Instr.makeSlice 36 (.int .i64 (n : Int)) (.int .i64 (n : Int))).run Tryz.prog w = .ok (.slice (some ⟨w.heap.size, 0, none⟩) n n) (w.alloc (.cells (List.replicate (n * 5) (.slice none 0 0 : Value)).toArray 53)) := by
  obtain ⟨i, hi, hzz⟩ := Option.map_eq_some_iff.1 infoTurn
  simp only [Prod.mk.injEq] at hzz
  obtain ⟨hz, hs, hb⟩ := hzz
  have h := run_make (P := Tryz.prog) w 36 53 i _ Tryz.underlying36 hi hz .i64 .i64 (n : Int) (n : Int) (by omega) (by omega) (by rw [hb]; omega) (by omega)
  simp only [Int.toNat_natCast, hs] at h
  rw [h, ← made5]
  rfl

set_option maxHeartbeats 4000000 in
theorem toTurnS (aT : Option Addr) (n cap : Nat) (ts : List TT) (w : World) (hT : TurnsAt w w.heap.size aT n ts) (hn : (n : Int) + szs ts n ≤ 1048576) :
    Calls Tryz.prog 8 #[.slice aT n cap] w fun e w' => e = .returned (.slice (some ⟨w.heap.size, 0, none⟩) n n) ∧ TsAll w' w'.heap.size w.heap.size n ts ∧ Below w.heap.size w w' := by
  have hmk := run_make5 n (by omega)
  have B0 := (Below.refl w.heap.size w).alloc (Nat.le_refl _) (.cells (List.replicate (n * 5) (.slice none 0 0 : Value)).toArray 53)
  have U0 : Hid (∃ vs G b, vs.length = n * 5 ∧ TsUp (w.alloc (.cells (List.replicate (n * 5) (.slice none 0 0 : Value)).toArray 53)) (w.alloc (.cells (List.replicate (n * 5) (.slice none 0 0 : Value)).toArray 53)).heap.size w.heap.size vs ts G b 0) :=
    ⟨List.replicate (n * 5) (.slice none 0 0), fun _ _ => 0, fun _ => w.heap.size + 1, by simp, Room.new w _ _, fun j hj => by omega, by simp, fun j hj => by omega, by simp, Nat.le_refl _⟩
  go_enter Tryz.func8, Tryz.ntmps8
  go_wp2_with fail
  go_loopw [4] (fun i wr => ∃ k : Nat, k ≤ n ∧ i = .int .i64 k ∧ Hid (∃ vs G b, vs.length = n * 5 ∧ TsUp wr wr.heap.size w.heap.size vs ts G b k) ∧ Below w.heap.size w wr) (fun i _ => n - (intOf i).toNat)
  case atStart => exact ⟨0, Nat.zero_le _, rfl, U0, B0⟩
  case round =>
    obtain ⟨k, hk, rfl, H, BB⟩ := hrel
    clear B0 U0
    by_cases hlt : k < n
    · have hi : (k : Int) < n := by omega
      obtain ⟨vs, G, b, hvl, hU⟩ := H.out
      clear H
      have HV : Hid (vs.length = n * 5) := hvl
      clear hvl
      have TR := hT.below BB
      obtain ⟨zT, hz | ⟨gT, oT, rfl, hgT, hcT⟩⟩ := id TR
      · omega
      obtain ⟨aD, cD, aE, cE, aL, cL, aF, cF, aR, cR, e1, e2, e3, e4, e5, hA⟩ := hcT k hlt
      have hsz := sz_szs ts hlt
      have hz3 : sz (tt ts k) ≤ 1048576 := by omega
      clear hsz
      have hz4 := hz3
      unfold sz at hz4
      go_wp2_with fail
      clear e1 e2 e3 e4 e5
      refine (Tu.toTurn aD aE aL aF aR _ cD _ cE _ cL _ cF _ cR _ _ _ _ _ _ hA.D hA.E hA.L hA.F hA.R hz4).mono ?_
      rintro e w2 ⟨⟨g0, g1, g2, g3, g4, rfl, hN⟩, b2⟩
      obtain ⟨vs', G', b', hl', hU'⟩ := hU.next HV.out hlt b2 hN
      have hU2 := hU.later (by rw [HV.out]; omega) b2
      have HN : Hid (∃ vs G b, vs.length = n * 5 ∧ TsUp (((((w2.setCell ⟨w.heap.size, k * 5, none⟩ (sl g0 (tt ts k).nD)).setCell ⟨w.heap.size, k * 5 + 1, none⟩ (sl g1 (tt ts k).nE)).setCell ⟨w.heap.size, k * 5 + 2, none⟩ (sl g2 (tt ts k).nL)).setCell ⟨w.heap.size, k * 5 + 3, none⟩ (sl g3 (tt ts k).nF)).setCell ⟨w.heap.size, k * 5 + 4, none⟩ (sl g4 (tt ts k).nR)) w2.heap.size w.heap.size vs ts G b (k + 1)) := ⟨vs', G', b', hl', hU'⟩
      have BN := ((((((BB.trans (b2.mono BB.size)).setCell (p := ⟨w.heap.size, k * 5, none⟩) (Nat.le_refl _) (sl g0 (tt ts k).nD)).setCell (p := ⟨w.heap.size, k * 5 + 1, none⟩) (Nat.le_refl _) (sl g1 (tt ts k).nE)).setCell (p := ⟨w.heap.size, k * 5 + 2, none⟩) (Nat.le_refl _) (sl g2 (tt ts k).nL)).setCell (p := ⟨w.heap.size, k * 5 + 3, none⟩) (Nat.le_refl _) (sl g3 (tt ts k).nF)).setCell (p := ⟨w.heap.size, k * 5 + 4, none⟩) (Nat.le_refl _) (sl g4 (tt ts k).nR))
      obtain ⟨v0, hv0⟩ : ∃ v, vs[k * 5]? = some v := ⟨_, List.getElem?_eq_getElem (by rw [HV.out]; omega)⟩
      obtain ⟨v1, hv1⟩ : ∃ v, vs[k * 5 + 1]? = some v := ⟨_, List.getElem?_eq_getElem (by rw [HV.out]; omega)⟩
      obtain ⟨v2, hv2⟩ : ∃ v, vs[k * 5 + 2]? = some v := ⟨_, List.getElem?_eq_getElem (by rw [HV.out]; omega)⟩
      obtain ⟨v3, hv3⟩ : ∃ v, vs[k * 5 + 3]? = some v := ⟨_, List.getElem?_eq_getElem (by rw [HV.out]; omega)⟩
      obtain ⟨v4, hv4⟩ : ∃ v, vs[k * 5 + 4]? = some v := ⟨_, List.getElem?_eq_getElem (by rw [HV.out]; omega)⟩
      have x0 := hU2.R.cell _ hv0
      have x1 := hU2.R.cell _ hv1
      have x2 := hU2.R.cell _ hv2
      have x3 := hU2.R.cell _ hv3
      have x4 := hU2.R.cell _ hv4
      have y0 := hU2.R.froz _ hv0
      have y1 := hU2.R.froz _ hv1
      have y2 := hU2.R.froz _ hv2
      have y3 := hU2.R.froz _ hv3
      have y4 := hU2.R.froz _ hv4
      clear hU hU' hU2 hN b2 TR hcT hl' hv0 hv1 hv2 hv3 hv4 hA BB
      go_wp2_with fail
      go_roundw
      case rel => exact ⟨k + 1, by omega, by go_num, by simpa only [World.size_setCell] using HN, BN⟩
      case measure => simp [intOf]; omega
    · have hi : ¬ (k : Int) < n := by omega
      have e : k = n := by omega
      subst e
      go_wp2
      go_ret
      exact ⟨rfl, H.out, BB⟩

set_option maxHeartbeats 4000000 in
theorem eqTurnS (aA aB : Option Addr) (n capA capB : Nat) (ts : List TT) (w : World) (hA : TurnsAt w w.heap.size aA n ts) (hB : TurnsAt w w.heap.size aB n ts) (hn : (n : Int) + szs ts n ≤ 1048576) :
    Calls Tryz.prog 11 #[.slice aA n capA, .slice aB n capB] w fun e w' => e = .returned (.bool true) ∧ Below w.heap.size w w' := by
  go_enter Tryz.func11, Tryz.ntmps11
  go_wp2_with fail
  go_loopw [5] (fun i wr => ∃ k : Nat, k ≤ n ∧ i = .int .i64 k ∧ Below w.heap.size w wr) (fun i _ => n - (intOf i).toNat)
  case atStart => exact ⟨0, Nat.zero_le _, rfl, Below.refl _ _⟩
  case round =>
    obtain ⟨k, hk, rfl, BB⟩ := hrel
    by_cases hlt : k < n
    · have hi : (k : Int) < n := by omega
      have TA := hA.below BB
      have TB := hB.below BB
      obtain ⟨zA, hz | ⟨gA, oA, rfl, hgA, hcA⟩⟩ := id TA
      · omega
      obtain ⟨zB, hz | ⟨gB, oB, rfl, hgB, hcB⟩⟩ := id TB
      · omega
      obtain ⟨aD, cD, aE, cE, aL, cL, aF, cF, aR, cR, e0, e1, e2, e3, e4, tA⟩ := hcA k hlt
      obtain ⟨bD, dD, bE, dE, bL, dL, bF, dF, bR, dR, f0, f1, f2, f3, f4, tB⟩ := hcB k hlt
      have hsz := sz_szs ts hlt
      have hz4 : sz (tt ts k) ≤ 1048576 := by omega
      unfold sz at hz4
      clear hcA hcB TA TB hsz
      go_wp2_with fail
      refine wp_region_noPanic ?_
      refine wp_region_held_drew (S := (fun w' => w'.cell? ⟨gA, oA + k * 5, none⟩ = some (.slice aD (tt ts k).nD cD) ∧ w'.cell? ⟨gA, oA + k * 5 + 1, none⟩ = some (.slice aE (tt ts k).nE cE) ∧ w'.cell? ⟨gA, oA + k * 5 + 2, none⟩ = some (.slice aL (tt ts k).nL cL) ∧ w'.cell? ⟨gA, oA + k * 5 + 3, none⟩ = some (.slice aF (tt ts k).nF cF) ∧ w'.cell? ⟨gA, oA + k * 5 + 4, none⟩ = some (.slice aR (tt ts k).nR cR) ∧ w'.cell? ⟨gB, oB + k * 5, none⟩ = some (.slice bD (tt ts k).nD dD) ∧ w'.cell? ⟨gB, oB + k * 5 + 1, none⟩ = some (.slice bE (tt ts k).nE dE) ∧ w'.cell? ⟨gB, oB + k * 5 + 2, none⟩ = some (.slice bL (tt ts k).nL dL) ∧ w'.cell? ⟨gB, oB + k * 5 + 3, none⟩ = some (.slice bF (tt ts k).nF dF) ∧ w'.cell? ⟨gB, oB + k * 5 + 4, none⟩ = some (.slice bR (tt ts k).nR dR) ∧ Hid ((tt ts k).At w' aD aE aL aF aR ∧ (tt ts k).At w' bD bE bL bF bR ∧ Below w.heap.size w w' ∧ gA < w'.heap.size ∧ gB < w'.heap.size))) (by kernel_rfl) ⟨e0, e1, e2, e3, e4, f0, f1, f2, f3, f4, ⟨tA.below (Below.refl _ _).drew, tB.below (Below.refl _ _).drew, BB.drew, hgA, hgB⟩⟩ (fun hHeld => ?_)
      refine Tk.W 0 (some 17) (.move (.tmp 0)) 36 none ?_
      refine Tk.W 1 (some 18) (.move (.tmp 5)) 3 none ?_
      refine Tk.W 2 (some 19) (.indexAddr 36 (.tmp 17) (.tmp 18)) 0 none ?_
      refine Tk.W 3 (some 20) (.load 53 (.tmp 19)) 53 none ?_
      refine Tk.W 4 (some 21) (.move (.tmp 1)) 36 none ?_
      refine Tk.W 5 (some 22) (.move (.tmp 5)) 3 none ?_
      refine Tk.W 6 (some 23) (.indexAddr 36 (.tmp 21) (.tmp 22)) 0 none ?_
      refine Tk.W 7 (some 24) (.load 53 (.tmp 23)) 53 none ?_
      refine Tk.R 8 (some 25) (.call ⟨.value (.func 28), #[.tmp 20, .tmp 24], #[53, 53]⟩) 4 none (fun K hK => ?_)
      go_simp
      refine (Tu.eqTurn aD aE aL aF aR bD bE bL bF bR _ cD dD _ cE dE _ cL dL _ cF dF _ cR dR _ _ _ _ _ _ hHeld.2.2.2.2.2.2.2.2.2.2.out.1.D hHeld.2.2.2.2.2.2.2.2.2.2.out.1.E hHeld.2.2.2.2.2.2.2.2.2.2.out.1.L hHeld.2.2.2.2.2.2.2.2.2.2.out.1.F hHeld.2.2.2.2.2.2.2.2.2.2.out.1.R hHeld.2.2.2.2.2.2.2.2.2.2.out.2.1.D hHeld.2.2.2.2.2.2.2.2.2.2.out.2.1.E hHeld.2.2.2.2.2.2.2.2.2.2.out.2.1.L hHeld.2.2.2.2.2.2.2.2.2.2.out.2.1.F hHeld.2.2.2.2.2.2.2.2.2.2.out.2.1.R hz4).mono ?_
      rintro e ve9 ⟨rfl, b_e9⟩
      have qe9 := hHeld.2.2.2.2.2.2.2.2.2.2.out
      have r0e9 := (b_e9.cell (p := ⟨gA, oA + k * 5, none⟩) qe9.2.2.2.1).trans hHeld.1
      have r1e9 := (b_e9.cell (p := ⟨gA, oA + k * 5 + 1, none⟩) qe9.2.2.2.1).trans hHeld.2.1
      have r2e9 := (b_e9.cell (p := ⟨gA, oA + k * 5 + 2, none⟩) qe9.2.2.2.1).trans hHeld.2.2.1
      have r3e9 := (b_e9.cell (p := ⟨gA, oA + k * 5 + 3, none⟩) qe9.2.2.2.1).trans hHeld.2.2.2.1
      have r4e9 := (b_e9.cell (p := ⟨gA, oA + k * 5 + 4, none⟩) qe9.2.2.2.1).trans hHeld.2.2.2.2.1
      have s0e9 := (b_e9.cell (p := ⟨gB, oB + k * 5, none⟩) qe9.2.2.2.2).trans hHeld.2.2.2.2.2.1
      have s1e9 := (b_e9.cell (p := ⟨gB, oB + k * 5 + 1, none⟩) qe9.2.2.2.2).trans hHeld.2.2.2.2.2.2.1
      have s2e9 := (b_e9.cell (p := ⟨gB, oB + k * 5 + 2, none⟩) qe9.2.2.2.2).trans hHeld.2.2.2.2.2.2.2.1
      have s3e9 := (b_e9.cell (p := ⟨gB, oB + k * 5 + 3, none⟩) qe9.2.2.2.2).trans hHeld.2.2.2.2.2.2.2.2.1
      have s4e9 := (b_e9.cell (p := ⟨gB, oB + k * 5 + 4, none⟩) qe9.2.2.2.2).trans hHeld.2.2.2.2.2.2.2.2.2.1
      have kve9 := Tk.kv hK (w := ve9) ⟨r0e9, r1e9, r2e9, r3e9, r4e9, s0e9, s1e9, s2e9, s3e9, s4e9, ⟨qe9.1.below b_e9, qe9.2.1.below b_e9, qe9.2.2.1.trans (b_e9.mono qe9.2.2.1.size), Nat.lt_of_lt_of_le qe9.2.2.2.1 b_e9.size, Nat.lt_of_lt_of_le qe9.2.2.2.2 b_e9.size⟩⟩
      clear qe9 b_e9 r0e9 s0e9 r1e9 s1e9 r2e9 s2e9 r3e9 s3e9 r4e9 s4e9
      try dsimp only
      refine hK.out _ _ kve9 ?_; clear hK K hHeld; intro hHeld; try simp only [Act.put, List.setIfInBounds_toArray, List.set_cons_zero, List.set_cons_succ]
      refine Tk.W 9 (some 26) (.unOp .not 4 (.tmp 25)) 4 none ?_
      refine wpAnyH_done (by kernel_rfl) ?_ _
      refine NoPanic.normal ?_
      clear BB tA tB e0 e1 e2 e3 e4 f0 f1 f2 f3 f4
      have BB := hHeld.2.2.2.2.2.2.2.2.2.2.out.2.2.1
      clear hHeld
      go_wp2_with fail
      go_roundw
      case rel => exact ⟨k + 1, by omega, by go_num, BB⟩
      case measure => simp [intOf]; omega
    · have hi : ¬ (k : Int) < n := by omega
      go_wp2
      go_ret
      exact ⟨rfl, BB⟩

/-- What the marks of the first turns add. -/
def mks (ts : List TT) : Nat → Nat
  | 0 => 0
  | j + 1 => mks ts j + ((tt ts j).nD + tot (tt ts j).es (tt ts j).nE + tot (tt ts j).ls (tt ts j).nL + (tt ts j).nF + (tt ts j).nR)
theorem mks_le (ts : List TT) : ∀ k, mks ts k ≤ szs ts k
  | 0 => Nat.le_refl _
  | k + 1 => by
    have := mks_le ts k
    have e1 : mks ts (k + 1) = mks ts k + ((tt ts k).nD + tot (tt ts k).es (tt ts k).nE + tot (tt ts k).ls (tt ts k).nL + (tt ts k).nF + (tt ts k).nR) := rfl
    have e2 : szs ts (k + 1) = szs ts k + sz (tt ts k) := rfl
    have e3 : sz (tt ts k) = (tt ts k).nD + ((tt ts k).nE + tot (tt ts k).es (tt ts k).nE) + ((tt ts k).nL + tot (tt ts k).ls (tt ts k).nL) + (tt ts k).nF + (tt ts k).nR := rfl
    omega

set_option maxHeartbeats 8000000 in
theorem markTurnS (s : Int) (C g n cap : Nat) (vs : List Value) (ts : List TT) (G : Nat → Nat → Nat) (b : Nat → Nat) (w : World) (hU : TsUp w C g vs ts G b n) (hl : vs.length = n * 5) (hn : (n : Int) + szs ts n ≤ 1048576) (hs0 : 0 ≤ s) (hs1 : s ≤ 10000000) :
    Calls Tryz.prog 13 #[.slice (some ⟨g, 0, none⟩) n cap, .int .i64 s] w fun e w' => e = .returned (.int .i64 (s + mks ts n)) ∧ Mid (g + 1) C w w' := by
  have HL : Hid (vs.length = n * 5) := hl
  have HU : Hid (TsUp w C g vs ts G b n) := hU
  clear hl hU
  go_enter Tryz.func13, Tryz.ntmps13
  go_wp2_with fail
  go_loopw [1, 5] (fun q i wr => ∃ k : Nat, k ≤ n ∧ i = .int .i64 k ∧ q = .int .i64 (s + mks ts k) ∧ Mid (g + 1) (b k) w wr) (fun _ i _ => n - (intOf i).toNat)
  case atStart => exact ⟨0, Nat.zero_le _, rfl, by simp [mks], ⟨rfl, rfl, rfl, Nat.le_refl _, fun _ _ _ => rfl⟩⟩
  case round =>
    obtain ⟨k, hk, rfl, rfl, MW⟩ := hrel
    by_cases hlt : k < n
    · have hi : (k : Int) < n := by omega
      have U := HU.out
      obtain ⟨⟨i0, i1, i2, i3, i4⟩, hh⟩ := U.T k hlt
      have hgk := U.le k (by omega)
      have hkk := U.up k hlt
      have hgC : b (k + 1) ≤ C := Nat.le_trans (U.le2 n (by omega) (Nat.le_refl _)) U.hi
      have hl0 : 0 < vs.length := by rw [HL.out]; omega
      have RG := MW.room U.R hl0 (.inl (Nat.lt_succ_self g))
      replace hh := Tu.Mid.hasT MW hh (.inr (Nat.le_refl _))
      have hsz := sz_szs ts hlt
      have hm := mks_le ts k
      have hm2 := szs_le ts (show k ≤ n from hk)
      have hz4 : sz (tt ts k) ≤ 1048576 := by omega
      unfold sz at hz4
      have em : mks ts (k + 1) = mks ts k + ((tt ts k).nD + tot (tt ts k).es (tt ts k).nE + tot (tt ts k).ls (tt ts k).nL + (tt ts k).nF + (tt ts k).nR) := rfl
      have EM : Hid (mks ts (k + 1) = _) := em
      clear em U hsz
      obtain ⟨B1, B2, B3, B4, h0, u0, h1, h2, h3, u3, h4, u4, b1, b2, b3, b4, b5, b6⟩ := hh
      have l0 := h0.2.1
      have l3 := h3.2.1
      have l4 := h4.2.1
      have v1 := h1.2.1
      have v2 := h2.2.1
      have MM : Mid (b k) (b (k + 1)) wr wr := ⟨rfl, rfl, rfl, Nat.le_refl _, fun _ _ _ => rfl⟩
      have c := RG.cell _ i0
      go_wp2_with fail
      clear c
      refine (Ow.mark (s + (mks ts k : Int)) (b k) (G k 0) 0 _ _ _ _ h0 (by omega) (by omega) (by omega)).mono ?_
      rintro e wm0 ⟨rfl, -, q⟩
      have m := Mid.of_grown (B := b k) (C := B1) q (by omega) (by omega)
      replace MM := MM.trans (m.wide (by omega) (by omega))
      replace RG := m.room RG hl0 (.inl (by omega))
      replace h1 := m.hasR h1 (by omega)
      replace h2 := m.hasR h2 (by omega)
      replace h3 := m.hasB h3 (by omega)
      replace h4 := m.hasB h4 (by omega)
      clear m q
      have c := RG.cell _ i1
      go_wp2_with fail
      clear c
      refine (Ss.mark ((s + (mks ts k : Int)) + ((tt ts k).nD : Int)) B1 B2 (G k 1) _ _ _ _ h1 (by omega) (by omega) (by omega) (by omega)).mono ?_
      rintro e wm1 ⟨rfl, q⟩
      have m := q
      replace MM := MM.trans (m.wide (by omega) (by omega))
      replace RG := m.room RG hl0 (.inl (by omega))
      replace h2 := m.hasR h2 (by omega)
      replace h3 := m.hasB h3 (by omega)
      replace h4 := m.hasB h4 (by omega)
      clear m q
      have c := RG.cell _ i2
      go_wp2_with fail
      clear c
      refine (Ss.mark (((s + (mks ts k : Int)) + ((tt ts k).nD : Int)) + (tot (tt ts k).es (tt ts k).nE : Int)) B2 B3 (G k 2) _ _ _ _ h2 (by omega) (by omega) (by omega) (by omega)).mono ?_
      rintro e wm2 ⟨rfl, q⟩
      have m := q
      replace MM := MM.trans (m.wide (by omega) (by omega))
      replace RG := m.room RG hl0 (.inl (by omega))
      replace h3 := m.hasB h3 (by omega)
      replace h4 := m.hasB h4 (by omega)
      clear m q
      have c := RG.cell _ i3
      go_wp2_with fail
      clear c
      refine (Bo.mark ((((s + (mks ts k : Int)) + ((tt ts k).nD : Int)) + (tot (tt ts k).es (tt ts k).nE : Int)) + (tot (tt ts k).ls (tt ts k).nL : Int)) B3 (G k 3) 0 _ _ _ _ h3 (by omega) (by omega) (by omega)).mono ?_
      rintro e wm3 ⟨rfl, q⟩
      have m := Mid.of_grown (B := B3) (C := B4) q (by omega) (by omega)
      replace MM := MM.trans (m.wide (by omega) (by omega))
      replace RG := m.room RG hl0 (.inl (by omega))
      replace h4 := m.hasB h4 (by omega)
      clear m q
      have c := RG.cell _ i4
      go_wp2_with fail
      clear c
      refine (Bo.mark (((((s + (mks ts k : Int)) + ((tt ts k).nD : Int)) + (tot (tt ts k).es (tt ts k).nE : Int)) + (tot (tt ts k).ls (tt ts k).nL : Int)) + ((tt ts k).nF : Int)) B4 (G k 4) 0 _ _ _ _ h4 (by omega) (by omega) (by omega)).mono ?_
      rintro e wm4 ⟨rfl, q⟩
      have m := Mid.of_grown (B := B4) (C := b (k + 1)) q (by omega) (by omega)
      replace MM := MM.trans (m.wide (by omega) (by omega))
      replace RG := m.room RG hl0 (.inl (by omega))
      clear m q
      have MN := (MW.wide (show g + 1 ≤ g + 1 from Nat.le_refl _) hkk).trans (MM.wide (show g + 1 ≤ b k by omega) (Nat.le_refl _))
      go_wp2_with fail
      go_roundw
      case rel => exact ⟨k + 1, by omega, by go_num, by rw [show ((((((s + (mks ts k : Int)) + ((tt ts k).nD : Int)) + (tot (tt ts k).es (tt ts k).nE : Int)) + (tot (tt ts k).ls (tt ts k).nL : Int)) + ((tt ts k).nF : Int)) + ((tt ts k).nR : Int)) = s + (mks ts (k + 1) : Int) by rw [EM.out]; omega], MN⟩
      case measure => simp [intOf]; omega
    · have hi : ¬ (k : Int) < n := by omega
      have e : k = n := by omega
      subst e
      have hC := HU.out.hi
      go_wp2
      go_ret
      exact ⟨rfl, MW.wide (Nat.le_refl _) hC⟩

end Go.Proofs.YtcgcmceobmpdiaaGreat.Pl

namespace Go.Proofs.YtcgcmceobmpdiaaGreat.Rd
open Go.ChangeShapes Go.WideShapes Go.ChangeAt Go.RowKit Go.Joins Go.Deep
open Pl (TT tt TurnsAt)
set_option linter.unusedVariables false

theorem turns {H : Type} {enc : TypeId × Value → H} {w : World} {base : Nat} {spare : Nat → Bool} {held : Bool} {cs : List Value} (h : Reads enc Tryz.prog w base spare held 27 cs) :
    ∃ (a : Option Addr) (n cap : Nat) (ts : List TT), cs = [.slice a n cap] ∧ TurnsAt w w.heap.size a n ts ∧ n ≤ maxLen ∧ ∀ j, j < n → (tt ts j).Fit := by
  rcases h.slice Tryz.underlying27 with rfl | ⟨a, n, cap, rfl, hl1, hl2, hel⟩
  · exact ⟨none, 0, 0, [], rfl, ⟨rfl, .inl rfl⟩, Nat.zero_le _, fun j hj => by omega⟩
  · have each : ∀ i, i < n → ∃ (T : TT) (aD aE aL aF aR : Option Addr) (cD cE cL cF cR : Nat), (w.cell? ((a.add (i * 5)).add 0) = some (.slice aD T.nD cD) ∧ w.cell? ((a.add (i * 5)).add 1) = some (.slice aE T.nE cE) ∧ w.cell? ((a.add (i * 5)).add 2) = some (.slice aL T.nL cL) ∧ w.cell? ((a.add (i * 5)).add 3) = some (.slice aF T.nF cF) ∧ w.cell? ((a.add (i * 5)).add 4) = some (.slice aR T.nR cR)) ∧ T.At w aD aE aL aF aR ∧ T.Fit := fun i hi => by
      obtain ⟨ds, h1, h2⟩ := hel i hi
      rw [cells_turn] at h1
      obtain ⟨aD, nD, cD, aE, nE, cE, aL, nL, cL, aF, nF, cF, aR, nR, cR, zs, es, ls, fs, rs, e, r0, r1, r2, r3, r4, m0, m1, m2, m3, m4, k1, k2⟩ := turn (cs := ds.toArray) (by simpa using h2)
      have e' : ds = [.slice aD nD cD, .slice aE nE cE, .slice aL nL cL, .slice aF nF cF, .slice aR nR cR] := by simpa using congrArg Array.toList e
      subst e'
      have hc := World.cells?_some h1
      exact ⟨⟨zs, es, ls, fs, rs, nD, nE, nL, nF, nR⟩, aD, aE, aL, aF, aR, cD, cE, cL, cF, cR, ⟨hc.2.2 0 (by omega), hc.2.2 1 (by omega), hc.2.2 2 (by omega), hc.2.2 3 (by omega), hc.2.2 4 (by omega)⟩, ⟨r0, r1, r2, r3, r4⟩, ⟨m0, m1, m2, m3, m4, k1, k2⟩⟩
    obtain ⟨f, hf⟩ : ∃ f : Nat → TT, ∀ i, i < n → ∃ (aD aE aL aF aR : Option Addr) (cD cE cL cF cR : Nat), (w.cell? ((a.add (i * 5)).add 0) = some (.slice aD (f i).nD cD) ∧ w.cell? ((a.add (i * 5)).add 1) = some (.slice aE (f i).nE cE) ∧ w.cell? ((a.add (i * 5)).add 2) = some (.slice aL (f i).nL cL) ∧ w.cell? ((a.add (i * 5)).add 3) = some (.slice aF (f i).nF cF) ∧ w.cell? ((a.add (i * 5)).add 4) = some (.slice aR (f i).nR cR)) ∧ (f i).At w aD aE aL aF aR ∧ (f i).Fit :=
      ⟨fun i => if hi : i < n then (each i hi).choose else Pl.t0, fun i hi => by simp only [hi, dif_pos]; exact (each i hi).choose_spec⟩
    have er : ∀ k, k < n → tt ((List.range n).map f) k = f k := fun k hk => by simp [tt, List.getD, hk]
    refine ⟨some a, n, cap, (List.range n).map f, rfl, ⟨by simp, ?_⟩, by omega, fun k hk => ?_⟩
    · by_cases h0 : n = 0
      · exact .inl h0
      · obtain ⟨b, off, spot⟩ := a
        obtain ⟨_, _, _, _, _, _, _, _, _, _, ⟨q0, _⟩, _⟩ := hf 0 (by omega)
        have hs : spot = none := by simpa [Addr.add] using World.cell?_spot q0
        subst hs
        have hb := World.block_lt_of_cell? _ _ q0
        refine .inr ⟨b, off, rfl, by simpa [Addr.add] using hb, fun k hk => ?_⟩
        obtain ⟨aD, aE, aL, aF, aR, cD, cE, cL, cF, cR, ⟨c0, c1, c2, c3, c4⟩, hA, _⟩ := hf k hk
        rw [add_plain, add_plain] at c0 c1 c2 c3 c4
        rw [er k hk]
        exact ⟨aD, cD, aE, cE, aL, cL, aF, cF, aR, cR, by simpa using c0, c1, c2, c3, c4, hA⟩
    · obtain ⟨_, _, _, _, _, _, _, _, _, _, _, _, hF⟩ := hf k hk
      rw [er k hk]
      exact hF

end Go.Proofs.YtcgcmceobmpdiaaGreat.Rd

namespace Go.Proofs.YtcgcmceobmpdiaaGreat.Pl
open Go.ChangeShapes Go.WideShapes Go.ChangeAt Go.RowKit
open Ls (el Row)
open Rm (Room)
open Ow (Has)
open Ss (Mid)
open Wl (WO wld)
set_option linter.unusedVariables false
set_option linter.unusedSimpArgs false

theorem TsAll.mid {X Y : Nat} {w w' : World} {C g n : Nat} {ts : List TT} (h : TsAll w C g n ts) (m : Mid X Y w w') (q : C ≤ X ∨ Y ≤ g) : TsAll w' C g n ts := by
  obtain ⟨vs, G, b, hl, hU⟩ := h
  by_cases hn : n = 0
  · subst hn
    have hv : vs = [] := List.eq_nil_of_length_eq_zero (by omega)
    subst hv
    exact ⟨[], G, b, rfl, ⟨fun i v hv => by simp at hv, fun j hj => by omega, hU.lo, hU.up, hU.hi, Nat.le_trans hU.C m.size⟩⟩
  · exact ⟨vs, G, b, hl, hU.mid m (by omega) q⟩
theorem TsAll.later {w w' : World} {C g n : Nat} {ts : List TT} (h : TsAll w C g n ts) (hb : Below w.heap.size w w') : TsAll w' C g n ts :=
  h.mid (Mid.of_below (B := C) (C := g) hb) (.inl (Nat.le_refl _))
theorem TsAll.at {w : World} {C g n : Nat} {ts : List TT} (h : TsAll w C g n ts) (hl : ts.length = n) : TurnsAt w w.heap.size (some ⟨g, 0, none⟩) n ts := by
  obtain ⟨vs, G, b, _, hU⟩ := h
  exact hU.at hl
theorem TsAll.lt {w : World} {C g n : Nat} {ts : List TT} (h : TsAll w C g n ts) : g < C ∧ C ≤ w.heap.size := by
  obtain ⟨vs, G, b, _, hU⟩ := h
  have h0 := hU.lo
  have h1 := hU.le2 (i := 0) n (by omega) (Nat.le_refl _)
  have h2 := hU.hi
  exact ⟨by omega, hU.C⟩
theorem markAll (s : Int) (C g n cap : Nat) (ts : List TT) (w : World) (h : TsAll w C g n ts) (hn : (n : Int) + szs ts n ≤ 1048576) (hs0 : 0 ≤ s) (hs1 : s ≤ 10000000) :
    Calls Tryz.prog 13 #[.slice (some ⟨g, 0, none⟩) n cap, .int .i64 s] w fun e w' => (∃ x : Int, e = .returned (.int .i64 x) ∧ 0 ≤ x) ∧ Mid (g + 1) C w w' := by
  obtain ⟨vs, G, b, hl, hU⟩ := h
  exact (markTurnS s C g n cap vs ts G b w hU hl hn hs0 hs1).mono fun e w' ⟨h, m⟩ => ⟨⟨_, h, by omega⟩, m⟩

/-- What is there behind the turns that are done. -/
def QC (n l d r p s : Int) (k m : Nat) (ks os : List Int) (t : Int) (ts : List TT) (nT : Nat) : Nat := CN n l d r p s k m ks os t ts nT
def QK (n l d r p s : Int) (k m : Nat) (ks os : List Int) (t : Int) (ts : List TT) (nT : Nat) : List Int := (ST n l d r p s k m ks os t ts (CN n l d r p s k m ks os t ts nT)).1
def QO (n l d r p s : Int) (k m : Nat) (ks os : List Int) (t : Int) (ts : List TT) (nT : Nat) : List Int := (ST n l d r p s k m ks os t ts (CN n l d r p s k m ks os t ts nT)).2.1
def QT (n l d r p s : Int) (k m : Nat) (ks os : List Int) (t : Int) (ts : List TT) (nT : Nat) : Int := (ST n l d r p s k m ks os t ts (CN n l d r p s k m ks os t ts nT)).2.2
theorem i_q (n l d r p s t : Int) (a b : Option Addr) (k ka m mb : Nat) (ks os : List Int) (aT : Option Addr) (nT cT : Nat) (ts : List TT) (w : World) (hr : Row w w.heap.size a k ks) (hs : Row w w.heap.size b m os) (hk : k ≤ 1048576) (hm : m ≤ 1048576) (hT : TurnsAt w w.heap.size aT nT ts) (hn : nT ≤ 1048576) (hOk : ∀ j, j < nT → (tt ts j).Ok) (hw : WO n l d r p s ks k os m t = true ∧ nT ≤ 200) :
    Calls Tryz.prog 9 #[wld n l d r p s (.slice a k ka) (.slice b m mb) t, .slice aT nT cT] w fun e w' => (∃ gK cK gO cO, e = .returned (.tuple #[wld n l d r p s (.slice (some ⟨gK, 0, none⟩) k cK) (.slice (some ⟨gO, 0, none⟩) m cO) (QT n l d r p s k m ks os t ts nT), .int .i64 (QC n l d r p s k m ks os t ts nT : Nat)]) ∧ Has w' 0 gK 0 k (QK n l d r p s k m ks os t ts nT) ∧ Has w' 0 gO 0 m (QO n l d r p s k m ks os t ts nT) ∧ gK ≠ gO ∧ w.heap.size ≤ gK ∧ w.heap.size ≤ gO) ∧ Below w.heap.size w w' :=
  (i_Played_yes n l d r p s t a b k ka m mb ks os aT nT cT ts w hr hs hk hm hT hn hOk hw.1 hw.2).mono fun e w' ⟨⟨gK, cK, gO, cO, h1, h2, h3, h4⟩, h5⟩ => ⟨⟨gK, cK, gO, cO, h1, hasm h2 (Nat.zero_le _), hasm h3 (Nat.zero_le _), h4, h2.2.1, h3.2.1⟩, h5⟩
theorem s_q (n l d r p s t : Int) (a b : Option Addr) (k ka m mb : Nat) (ks os : List Int) (aT : Option Addr) (nT cT : Nat) (ts : List TT) (w : World) (hr : Row w w.heap.size a k ks) (hs : Row w w.heap.size b m os) (hk : k ≤ 1048576) (hm : m ≤ 1048576) (hT : TurnsAt w w.heap.size aT nT ts) (hn : nT ≤ 1048576) (hOk : ∀ j, j < nT → (tt ts j).Ok) (hw : WO n l d r p s ks k os m t = true ∧ nT ≤ 200) :
    Calls Tryz.prog 6 #[wld n l d r p s (.slice a k ka) (.slice b m mb) t, .slice aT nT cT] w fun e w' => (∃ gK cK gO cO, e = .returned (.tuple #[wld n l d r p s (.slice (some ⟨gK, 0, none⟩) k cK) (.slice (some ⟨gO, 0, none⟩) m cO) (QT n l d r p s k m ks os t ts nT), .int .i64 (QC n l d r p s k m ks os t ts nT : Nat)]) ∧ Has w' 0 gK 0 k (QK n l d r p s k m ks os t ts nT) ∧ Has w' 0 gO 0 m (QO n l d r p s k m ks os t ts nT) ∧ gK ≠ gO ∧ w.heap.size ≤ gK ∧ w.heap.size ≤ gO) ∧ Below w.heap.size w w' :=
  (s_Played_yes n l d r p s t a b k ka m mb ks os aT nT cT ts w hr hs hk hm hT hn hOk hw.1 hw.2).mono fun e w' ⟨⟨gK, cK, gO, cO, h1, h2, h3, h4⟩, h5⟩ => ⟨⟨gK, cK, gO, cO, h1, hasm h2 (Nat.zero_le _), hasm h3 (Nat.zero_le _), h4, h2.2.1, h3.2.1⟩, h5⟩
theorem q_no {n l d r p s t : Int} {k m nT : Nat} {ks os : List Int} (h : ¬ (WO n l d r p s ks k os m t = true ∧ nT ≤ 200)) : WO n l d r p s ks k os m t = false ∨ 200 < nT := by
  cases e : WO n l d r p s ks k os m t with
  | false => exact .inl rfl
  | true => exact .inr (by have := mt (And.intro e) h; omega)

end Go.Proofs.YtcgcmceobmpdiaaGreat.Pl
