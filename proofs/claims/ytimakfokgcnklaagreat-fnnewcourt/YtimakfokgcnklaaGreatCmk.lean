/-
  Rows of peers and of parcels, marked.
-/
import Derived.Test.YtimakfokgcnklaaGreatCto
namespace Go.Proofs.YtimakfokgcnklaaGreat.Cd
open Go.ChangeShapes Go.WideShapes Go.ChangeAt Go.RowKit
open Ls (el Row)
open Rm (Room)
open Rd (Flags)
open Sb (S3 es fl sl Row3 SHas)
open Ns
set_option linter.unusedVariables false
set_option linter.unusedSimpArgs false

/-- What is left to be marked: those from k on. -/
structure PeerMk (w : World) (C g : Nat) (vs : List Value) (ps : List PD) (G : Nat → Nat) (n k : Nat) : Prop where
  R : Room w g vs
  len : vs.length = n * 4
  T : ∀ j, k ≤ j → j < n → vs[j * 4 + 3]? = some (Ns.ss (G j) (pd ps j).2.2.2.length) ∧ SHas w (G j) (G j) 0 (pd ps j).2.2.2.length (pd ps j).2.2.2
  lo : ∀ j, j < n → g < G j
  up : ∀ i j, i < j → j < n → G i < G j
  hi : ∀ j, j < n → G j < C
  gC : g < C
  C : C ≤ w.heap.size
theorem PeerMk.start {w : World} {C g n : Nat} {vs : List Value} {ps : List PD} {G : Nat → Nat} (h : PeerUp w C g vs ps G n) (hl : vs.length = n * 4) : PeerMk w C g vs ps G n 0 :=
  ⟨h.R, hl, fun j _ hj => ⟨(h.T j hj).1.2.2.2, (h.T j hj).2⟩, h.lo, h.up, h.hi, h.gC, h.C⟩
theorem PeerMk.put {w : World} {C g n k : Nat} {vs : List Value} {ps : List PD} {G : Nat → Nat} (h : PeerMk w C g vs ps G n k) (u0 u1 u2 : Value) : PeerMk (((w.setCell ⟨g, k * 4, none⟩ u0).setCell ⟨g, k * 4 + 1, none⟩ u1).setCell ⟨g, k * 4 + 2, none⟩ u2) C g (((vs.set (k * 4) u0).set (k * 4 + 1) u1).set (k * 4 + 2) u2) ps G n k := by
  have mm : Mid g (g + 1) w (((w.setCell ⟨g, k * 4, none⟩ u0).setCell ⟨g, k * 4 + 1, none⟩ u1).setCell ⟨g, k * 4 + 2, none⟩ u2) := (((Mid.set w g _ _).trans (Mid.set _ g _ _)).trans (Mid.set _ g _ _))
  refine ⟨(((h.R.set _ _).set _ _).set _ _), by simpa using h.len, fun j h1 h2 => ?_, h.lo, h.up, h.hi, h.gC, by simpa using h.C⟩
  obtain ⟨c, hS⟩ := h.T j h1 h2
  have := h.lo j h2
  refine ⟨?_, mm.hasS hS (.inr (by omega))⟩
  rw [List.getElem?_set_ne (by omega), List.getElem?_set_ne (by omega), List.getElem?_set_ne (by omega)]
  exact c
theorem PeerMk.step {w w2 : World} {C g n k : Nat} {vs : List Value} {ps : List PD} {G : Nat → Nat} (h : PeerMk w C g vs ps G n k) (hk : k < n) (hg : w.grownBy w2 (some (G k))) : PeerMk w2 C g vs ps G n (k + 1) := by
  have m := Mid.of_grown (B := G k) (C := G k + 1) hg (Nat.le_refl _) (by omega)
  have l := h.lo k hk
  refine ⟨m.room h.R (by rw [h.len]; omega) (.inl l), h.len, fun j h1 h2 => ?_, h.lo, h.up, h.hi, h.gC, Nat.le_trans h.C m.size⟩
  obtain ⟨c, hS⟩ := h.T j (by omega) h2
  exact ⟨c, m.hasS hS (.inr (h.up k j (by omega) h2))⟩

set_option maxHeartbeats 8000000 in
theorem markPeerS (s : Int) (C g n cap : Nat) (vs : List Value) (ps : List PD) (G : Nat → Nat) (w : World) (hU : PeerUp w C g vs ps G n) (hl : vs.length = n * 4) (hn : n + pz ps n ≤ 1048576) (hs0 : 0 ≤ s) (hs1 : s ≤ 40000000) :
    Calls Tryz.prog 76 #[.slice (some ⟨g, 0, none⟩) n cap, .int .i64 s] w fun e w' => e = .returned (.int .i64 (s + 3 * (n : Int) + 3 * (pz ps n : Int))) ∧ Mid g C w w' := by
  have PM := PeerMk.start hU hl
  clear hU hl
  go_enter Tryz.func76, Tryz.ntmps76
  go_wp2_with fail
  go_loopw [1, 5] (fun q i wr => ∃ k : Nat, k ≤ n ∧ i = .int .i64 k ∧ q = .int .i64 (s + 3 * (k : Int) + 3 * (pz ps k : Int)) ∧ Hid (∃ vs, PeerMk wr C g vs ps G n k) ∧ Mid g C w wr) (fun _ i _ => n - (intOf i).toNat)
  case atStart => exact ⟨0, Nat.zero_le _, rfl, by simp [pz], ⟨vs, PM⟩, Mid.refl _ _ _⟩
  case round =>
    clear PM
    obtain ⟨k, hk, rfl, rfl, HP, MW⟩ := hrel
    by_cases hlt : k < n
    · have hi : (k : Int) < n := by omega
      obtain ⟨vs, PM⟩ := HP.out
      clear HP
      obtain ⟨hc, hS⟩ := PM.T k (Nat.le_refl _) hlt
      have hsz := pl_pz ps hlt
      have hz := pz_le ps (show k ≤ n from hk)
      have hz3 : (pd ps k).2.2.2.length ≤ 1048576 := by omega
      have ez : pz ps (k + 1) = pz ps k + (pd ps k).2.2.2.length := rfl
      have EZ : Hid (pz ps (k + 1) = pz ps k + (pd ps k).2.2.2.length) := ez
      have hgC : G k < C := PM.hi k hlt
      have hgG : g < G k := PM.lo k hlt
      have hgC0 := PM.gC
      clear ez hsz
      have hlen := PM.len
      obtain ⟨v0, hv0⟩ : ∃ v, vs[k * 4]? = some v := ⟨_, List.getElem?_eq_getElem (by rw [hlen]; omega)⟩
      obtain ⟨v1, hv1⟩ : ∃ v, vs[k * 4 + 1]? = some v := ⟨_, List.getElem?_eq_getElem (by rw [hlen]; omega)⟩
      obtain ⟨v2, hv2⟩ : ∃ v, vs[k * 4 + 2]? = some v := ⟨_, List.getElem?_eq_getElem (by rw [hlen]; omega)⟩
      have c0 := PM.R.cell _ hv0
      have c1 := PM.R.cell _ hv1
      have c2 := PM.R.cell _ hv2
      have f0 := PM.R.froz _ hv0
      have f1 := PM.R.froz _ hv1
      have f2 := PM.R.froz _ hv2
      have c3 := PM.R.cell _ hc
      have P3 : Hid (∀ u0 u1 u2 : Value, PeerMk (((wr.setCell ⟨g, k * 4, none⟩ u0).setCell ⟨g, k * 4 + 1, none⟩ u1).setCell ⟨g, k * 4 + 2, none⟩ u2) C g (((vs.set (k * 4) u0).set (k * 4 + 1) u1).set (k * 4 + 2) u2) ps G n k) := fun u0 u1 u2 => PM.put u0 u1 u2
      have M3 : Hid (∀ u0 u1 u2 : Value, Mid g C wr (((wr.setCell ⟨g, k * 4, none⟩ u0).setCell ⟨g, k * 4 + 1, none⟩ u1).setCell ⟨g, k * 4 + 2, none⟩ u2)) := fun u0 u1 u2 => ((((Mid.set wr g _ _).trans (Mid.set _ g _ _)).trans (Mid.set _ g _ _))).wide (Nat.le_refl _) (by omega)
      clear PM hS hc hv0 hv1 hv2 hlen
      have hw : (pd ps k).2.2.2.length = (pd ps k).2.2.2.length := rfl
      go_wp2_with fail
      clear c0 f0 c1 f1 c2 f2 c3
      refine (Sb.markSealS (s + 3 * (k : Int) + 3 * (pz ps k : Int) + 1 + 1 + 1) (G k) (G k) 0 _ _ _ _ ((P3.out _ _ _).T k (Nat.le_refl _) hlt).2 hz3 (by omega) (by omega)).mono ?_
      rintro e w2 ⟨rfl, -, gq⟩
      have PM2 := (P3.out _ _ _).step hlt gq
      have MW2 := (MW.trans (M3.out _ _ _)).trans (Mid.of_grown (B := g) (C := C) gq (by omega) hgC)
      clear P3 M3 gq
      go_wp2_with fail
      go_roundw
      case rel => exact ⟨k + 1, by omega, by go_num, by rw [EZ.out]; go_num, ⟨_, PM2⟩, MW2⟩
      case measure => simp [intOf]; omega
    · have hi : ¬ (k : Int) < n := by omega
      have e : k = n := by omega
      subst e
      go_wp2
      go_ret
      exact ⟨rfl, MW⟩

/-- What is left to be marked: those from k on. -/
structure ParcelMk (w : World) (C g : Nat) (vs : List Value) (ps : List QD) (G : Nat → Nat) (n k : Nat) : Prop where
  R : Room w g vs
  len : vs.length = n * 3
  T : ∀ j, k ≤ j → j < n → vs[j * 3 + 2]? = some (Ns.ss (G j) (qd ps j).2.2.length) ∧ SHas w (G j) (G j) 0 (qd ps j).2.2.length (qd ps j).2.2
  lo : ∀ j, j < n → g < G j
  up : ∀ i j, i < j → j < n → G i < G j
  hi : ∀ j, j < n → G j < C
  gC : g < C
  C : C ≤ w.heap.size
theorem ParcelMk.start {w : World} {C g n : Nat} {vs : List Value} {ps : List QD} {G : Nat → Nat} (h : ParcelUp w C g vs ps G n) (hl : vs.length = n * 3) : ParcelMk w C g vs ps G n 0 :=
  ⟨h.R, hl, fun j _ hj => ⟨(h.T j hj).1.2.2, (h.T j hj).2⟩, h.lo, h.up, h.hi, h.gC, h.C⟩
theorem ParcelMk.put {w : World} {C g n k : Nat} {vs : List Value} {ps : List QD} {G : Nat → Nat} (h : ParcelMk w C g vs ps G n k) (u0 u1 : Value) : ParcelMk ((w.setCell ⟨g, k * 3, none⟩ u0).setCell ⟨g, k * 3 + 1, none⟩ u1) C g ((vs.set (k * 3) u0).set (k * 3 + 1) u1) ps G n k := by
  have mm : Mid g (g + 1) w ((w.setCell ⟨g, k * 3, none⟩ u0).setCell ⟨g, k * 3 + 1, none⟩ u1) := ((Mid.set w g _ _).trans (Mid.set _ g _ _))
  refine ⟨((h.R.set _ _).set _ _), by simpa using h.len, fun j h1 h2 => ?_, h.lo, h.up, h.hi, h.gC, by simpa using h.C⟩
  obtain ⟨c, hS⟩ := h.T j h1 h2
  have := h.lo j h2
  refine ⟨?_, mm.hasS hS (.inr (by omega))⟩
  rw [List.getElem?_set_ne (by omega), List.getElem?_set_ne (by omega)]
  exact c
theorem ParcelMk.step {w w2 : World} {C g n k : Nat} {vs : List Value} {ps : List QD} {G : Nat → Nat} (h : ParcelMk w C g vs ps G n k) (hk : k < n) (hg : w.grownBy w2 (some (G k))) : ParcelMk w2 C g vs ps G n (k + 1) := by
  have m := Mid.of_grown (B := G k) (C := G k + 1) hg (Nat.le_refl _) (by omega)
  have l := h.lo k hk
  refine ⟨m.room h.R (by rw [h.len]; omega) (.inl l), h.len, fun j h1 h2 => ?_, h.lo, h.up, h.hi, h.gC, Nat.le_trans h.C m.size⟩
  obtain ⟨c, hS⟩ := h.T j (by omega) h2
  exact ⟨c, m.hasS hS (.inr (h.up k j (by omega) h2))⟩

set_option maxHeartbeats 8000000 in
theorem markParcelS (s : Int) (C g n cap : Nat) (vs : List Value) (ps : List QD) (G : Nat → Nat) (w : World) (hU : ParcelUp w C g vs ps G n) (hl : vs.length = n * 3) (hn : n + qz ps n ≤ 1048576) (hs0 : 0 ≤ s) (hs1 : s ≤ 40000000) :
    Calls Tryz.prog 77 #[.slice (some ⟨g, 0, none⟩) n cap, .int .i64 s] w fun e w' => e = .returned (.int .i64 (s + 2 * (n : Int) + 3 * (qz ps n : Int))) ∧ Mid g C w w' := by
  have PM := ParcelMk.start hU hl
  clear hU hl
  go_enter Tryz.func77, Tryz.ntmps77
  go_wp2_with fail
  go_loopw [1, 5] (fun q i wr => ∃ k : Nat, k ≤ n ∧ i = .int .i64 k ∧ q = .int .i64 (s + 2 * (k : Int) + 3 * (qz ps k : Int)) ∧ Hid (∃ vs, ParcelMk wr C g vs ps G n k) ∧ Mid g C w wr) (fun _ i _ => n - (intOf i).toNat)
  case atStart => exact ⟨0, Nat.zero_le _, rfl, by simp [qz], ⟨vs, PM⟩, Mid.refl _ _ _⟩
  case round =>
    clear PM
    obtain ⟨k, hk, rfl, rfl, HP, MW⟩ := hrel
    by_cases hlt : k < n
    · have hi : (k : Int) < n := by omega
      obtain ⟨vs, PM⟩ := HP.out
      clear HP
      obtain ⟨hc, hS⟩ := PM.T k (Nat.le_refl _) hlt
      have hsz := ql_qz ps hlt
      have hz := qz_le ps (show k ≤ n from hk)
      have hz3 : (qd ps k).2.2.length ≤ 1048576 := by omega
      have ez : qz ps (k + 1) = qz ps k + (qd ps k).2.2.length := rfl
      have EZ : Hid (qz ps (k + 1) = qz ps k + (qd ps k).2.2.length) := ez
      have hgC : G k < C := PM.hi k hlt
      have hgG : g < G k := PM.lo k hlt
      have hgC0 := PM.gC
      clear ez hsz
      have hlen := PM.len
      obtain ⟨v0, hv0⟩ : ∃ v, vs[k * 3]? = some v := ⟨_, List.getElem?_eq_getElem (by rw [hlen]; omega)⟩
      obtain ⟨v1, hv1⟩ : ∃ v, vs[k * 3 + 1]? = some v := ⟨_, List.getElem?_eq_getElem (by rw [hlen]; omega)⟩
      have c0 := PM.R.cell _ hv0
      have c1 := PM.R.cell _ hv1
      have f0 := PM.R.froz _ hv0
      have f1 := PM.R.froz _ hv1
      have c2 := PM.R.cell _ hc
      have P3 : Hid (∀ u0 u1 : Value, ParcelMk ((wr.setCell ⟨g, k * 3, none⟩ u0).setCell ⟨g, k * 3 + 1, none⟩ u1) C g ((vs.set (k * 3) u0).set (k * 3 + 1) u1) ps G n k) := fun u0 u1 => PM.put u0 u1
      have M3 : Hid (∀ u0 u1 : Value, Mid g C wr ((wr.setCell ⟨g, k * 3, none⟩ u0).setCell ⟨g, k * 3 + 1, none⟩ u1)) := fun u0 u1 => (((Mid.set wr g _ _).trans (Mid.set _ g _ _))).wide (Nat.le_refl _) (by omega)
      clear PM hS hc hv0 hv1 hlen
      have hw : (qd ps k).2.2.length = (qd ps k).2.2.length := rfl
      go_wp2_with fail
      clear c0 f0 c1 f1 c2
      refine (Sb.markSealS (s + 2 * (k : Int) + 3 * (qz ps k : Int) + 1 + 1) (G k) (G k) 0 _ _ _ _ ((P3.out _ _).T k (Nat.le_refl _) hlt).2 hz3 (by omega) (by omega)).mono ?_
      rintro e w2 ⟨rfl, -, gq⟩
      have PM2 := (P3.out _ _).step hlt gq
      have MW2 := (MW.trans (M3.out _ _)).trans (Mid.of_grown (B := g) (C := C) gq (by omega) hgC)
      clear P3 M3 gq
      go_wp2_with fail
      go_roundw
      case rel => exact ⟨k + 1, by omega, by go_num, by rw [EZ.out]; go_num, ⟨_, PM2⟩, MW2⟩
      case measure => simp [intOf]; omega
    · have hi : ¬ (k : Int) < n := by omega
      have e : k = n := by omega
      subst e
      go_wp2
      go_ret
      exact ⟨rfl, MW⟩

end Go.Proofs.YtimakfokgcnklaaGreat.Cd
