/-
  A new court as data: what is asked of it, by both sides; new peers (impl.newPeers).
-/
import Derived.Test.YtimakfokgcnklaaGreatAc
namespace Go.Proofs.YtimakfokgcnklaaGreat.Nw
open Go.ChangeShapes Go.WideShapes Go.ChangeAt Go.RowKit
open Ls (el Row)
open Rm (Room)
open Rd (Flags)
open Ow (ints Own)
open Ct (bools OwnB pcs Peers CT)
open Mi (hid)
open Ns (PD pd PeersAt ParcelsAt)
open Cd (CD CO RO RK PK)
open Sb (S3 Row3)
set_option linter.unusedVariables false
set_option linter.unusedSimpArgs false

def mp (os : List Int) : List PD := os.map fun o => (o, 1, false, [])
/-- A new court. -/
abbrev nc (n f p a l m : Int) (zs : List Int) (bs : List Bool) (os : List Int) : CD := ⟨n, f, p, a, l, m, zs, bs, mp os, [], 0, [], []⟩
theorem mp_len (os : List Int) : (mp os).length = os.length := List.length_map _
theorem pd_mp {os : List Int} {k : Nat} (h : k < os.length) : pd (mp os) k = (el os k, 1, false, []) := by
  unfold pd mp el
  rw [List.getD_eq_getElem?_getD, List.getD_eq_getElem?_getD, List.getElem?_map, List.getElem?_eq_getElem h]
  rfl
theorem peersAt {w : World} {a : Option Addr} {os : List Int} (h : Peers w w.heap.size a os.length os) : PeersAt w w.heap.size a (mp os).length (mp os) := by
  refine ⟨rfl, ?_⟩
  obtain ⟨_, h0 | ⟨b, off, e, hb, hc⟩⟩ := h
  · exact .inl (by rw [mp_len]; exact h0)
  · refine .inr ⟨b, off, e, hb, fun j hj => ⟨none, 0, ?_⟩⟩
    rw [mp_len] at hj
    rw [pd_mp hj]
    exact ⟨hc j hj, rfl, .inl rfl⟩
theorem nil_q (w : World) (B : Nat) : ParcelsAt w B none 0 [] := ⟨rfl, .inl rfl⟩
theorem nil_3 (w : World) (B : Nat) : Row3 w B none 0 [] := ⟨rfl, .inl rfl⟩
theorem nc_at {w : World} {aK aL aP : Option Addr} {n f p a l m : Int} {zs os : List Int} {bs : List Bool} (hK : Row w w.heap.size aK zs.length zs) (hL : Flags w w.heap.size aL bs.length bs) (hP : Peers w w.heap.size aP os.length os) : (nc n f p a l m zs bs os).At w aK aL aP none none none :=
  ⟨hK, hL, peersAt hP, nil_q _ _, nil_3 _ _, nil_3 _ _⟩
theorem nc_sm {n f p a l m : Int} {zs os : List Int} {bs : List Bool} (h1 : zs.length ≤ 1048576) (h2 : bs.length ≤ 1048576) (h3 : os.length ≤ 1048576) : (nc n f p a l m zs bs os).Sm :=
  ⟨h1, h2, by show (mp os).length ≤ _; rw [mp_len]; exact h3, fun j hj => by
    have hj' : j < os.length := by rw [← mp_len]; exact hj
    show (pd (mp os) j).2.2.2.length ≤ _
    rw [pd_mp hj']; exact Nat.zero_le _, Nat.zero_le _, fun j hj => absurd hj (Nat.not_lt_zero _), Nat.zero_le _, Nat.zero_le _⟩
/-- Whether a new court is right. -/
def NO (n f p a l m : Int) (zs : List Int) (bs : List Bool) (os : List Int) : Bool := CO (nc n f p a l m zs bs os)
theorem no_of {n f p a l m : Int} {zs os : List Int} {bs : List Bool} (h : NO n f p a l m zs bs os = true) :
    RK n f p a l m ∧ Sl.KO zs zs.length = true ∧ (zs.length : Int) = n ∧ bs.length = zs.length ∧ os.length = zs.length ∧ (CT bs bs.length : Int) ≤ f ∧ ∀ k, k < os.length → -1000000000000000 ≤ el os k ∧ el os k ≤ 1000000000000000 := by
  obtain ⟨⟨h1, h2, h3, h4, h5, h6⟩, _, h8, _⟩ := Cd.co_of h
  refine ⟨of_decide_eq_true h1, h2, h3, h4, by rw [← mp_len]; exact h5, h6, fun k hk => ?_⟩
  have q := Cd.pk_bd (h8 k (by show k < (mp os).length; rw [mp_len]; exact hk))
  have e : (pd (mp os) k).1 = el os k := by rw [pd_mp hk]
  exact ⟨by rw [← e]; exact q.1.1, by rw [← e]; exact q.1.2⟩
abbrev V13 (n f p a l m : Int) (K L P : Value) : Value := .agg #[.int .i64 n, .int .i64 f, .int .i64 p, .int .i64 a, .int .i64 l, .int .i64 m, K, L, P, .slice none 0 0, .int .i64 0, .slice none 0 0, .slice none 0 0]

theorem courtI (n f p a l m : Int) (zs os : List Int) (bs : List Bool) (aK aL aP : Option Addr) (cK cL cP : Nat) (w : World) (hK : Row w w.heap.size aK zs.length zs) (hL : Flags w w.heap.size aL bs.length bs) (hP : Peers w w.heap.size aP os.length os) (h1 : zs.length ≤ 1048576) (h2 : bs.length ≤ 1048576) (h3 : os.length ≤ 1048576) :
    Calls Tryz.prog 17 #[V13 n f p a l m (.slice aK zs.length cK) (.slice aL bs.length cL) (.slice aP os.length cP)] w fun e w' => e = .returned (.bool (NO n f p a l m zs bs os)) ∧ Below w.heap.size w w' := by
  have h := Mi.i_CourtOk (nc n f p a l m zs bs os) aK aL aP none none none cK cL cP 0 0 0 w (nc_at hK hL hP) (nc_sm h1 h2 h3)
  have e : (nc n f p a l m zs bs os).ps.length = os.length := mp_len os
  rw [e] at h
  exact h
theorem courtS (n f p a l m : Int) (zs os : List Int) (bs : List Bool) (aK aL aP : Option Addr) (cK cL cP : Nat) (w : World) (hK : Row w w.heap.size aK zs.length zs) (hL : Flags w w.heap.size aL bs.length bs) (hP : Peers w w.heap.size aP os.length os) (h1 : zs.length ≤ 1048576) (h2 : bs.length ≤ 1048576) (h3 : os.length ≤ 1048576) :
    Calls Tryz.prog 19 #[V13 n f p a l m (.slice aK zs.length cK) (.slice aL bs.length cL) (.slice aP os.length cP)] w fun e w' => e = .returned (.bool (NO n f p a l m zs bs os)) ∧ Below w.heap.size w w' := by
  have h := Cd.courtS (nc n f p a l m zs bs os) aK aL aP none none none cK cL cP 0 0 0 w (nc_at hK hL hP) (nc_sm h1 h2 h3)
  have e : (nc n f p a l m zs bs os).ps.length = os.length := mp_len os
  rw [e] at h
  exact h
theorem readI (n f p a l m : Int) (zs os : List Int) (bs : List Bool) (aK aL aP : Option Addr) (cK cL cP : Nat) (j : Nat) (w : World) (hK : Row w w.heap.size aK zs.length zs) (hL : Flags w w.heap.size aL bs.length bs) (hP : Peers w w.heap.size aP os.length os) (h1 : zs.length ≤ 1048576) (h2 : bs.length ≤ 1048576) (h3 : os.length ≤ 1048576) (hN : NO n f p a l m zs bs os = true) (hj : j < os.length) :
    Calls Tryz.prog 15 #[V13 n f p a l m (.slice aK zs.length cK) (.slice aL bs.length cL) (.slice aP os.length cP), .int .i64 (j : Int)] w fun e w' => e = .returned (.tuple #[.int .i64 (el os j), .bool true]) ∧ Below w.heap.size w w' := by
  have h := Mi.i_ReadingOf (nc n f p a l m zs bs os) aK aL aP none none none cK cL cP 0 0 0 (j : Int) w (nc_at hK hL hP) (nc_sm h1 h2 h3)
  have e : (nc n f p a l m zs bs os).ps.length = os.length := mp_len os
  obtain ⟨q1, q2⟩ := Cd.rg_yes (j := j) hN (by rw [e]; exact hj)
  have e2 : (pd (mp os) j).1 = el os j := by rw [pd_mp hj]
  have q3 : Cd.RW (nc n f p a l m zs bs os) (j : Int) = el os j := by rw [q2]; show (0 : Int) + (pd (mp os) j).1 = _; rw [e2]; omega
  rw [e, q1, q3] at h
  exact h
theorem honestI (n f p a l m : Int) (zs os : List Int) (bs : List Bool) (aK aL aP : Option Addr) (cK cL cP : Nat) (w : World) (hK : Row w w.heap.size aK zs.length zs) (hL : Flags w w.heap.size aL bs.length bs) (hP : Peers w w.heap.size aP os.length os) (h1 : zs.length ≤ 1048576) (h2 : bs.length ≤ 1048576) (h3 : os.length ≤ 1048576) (hN : NO n f p a l m zs bs os = true) :
    Calls Tryz.prog 14 #[V13 n f p a l m (.slice aK zs.length cK) (.slice aL bs.length cL) (.slice aP os.length cP)] w fun e w' => (∃ g cap, e = .returned (.slice (some ⟨g, 0, none⟩) (Cd.HN bs bs.length).length cap) ∧ Own w' w.heap.size g (Cd.HN bs bs.length).length cap (Cd.HN bs bs.length)) ∧ Below w.heap.size w w' := by
  have h := Mi.i_HonestIn (nc n f p a l m zs bs os) aK aL aP none none none cK cL cP 0 0 0 w (nc_at hK hL hP) (nc_sm h1 h2 h3)
  have e : (nc n f p a l m zs bs os).ps.length = os.length := mp_len os
  have q : Cd.HI (nc n f p a l m zs bs os) = Cd.HN bs bs.length := by unfold Cd.HI; exact if_pos hN
  rw [e, q] at h
  exact h
theorem nc_sz {n f p a l m : Int} {zs os : List Int} {bs : List Bool} (hN : NO n f p a l m zs bs os = true) : (nc n f p a l m zs bs os).sz ≤ 1048576 := by
  obtain ⟨rk, ko, h3, h4, h5, _⟩ := no_of hN
  have hk := (Sl.ko_of ko).1
  have hz : ∀ k, Ns.pz (mp os) k = 0 ∨ os.length < k := by
    intro k
    induction k with
    | zero => exact .inl rfl
    | succ k ih =>
      rcases ih with ih | ih
      · by_cases hk : k < os.length
        · left
          show Ns.pz (mp os) k + (pd (mp os) k).2.2.2.length = 0
          rw [ih, pd_mp hk]; rfl
        · right; omega
      · right; omega
  have e := (hz os.length).resolve_right (by omega)
  show zs.length + bs.length + ((mp os).length + Ns.pz (mp os) (mp os).length) + (0 + Ns.qz [] 0) + 0 + 0 ≤ _
  rw [mp_len, e]
  show zs.length + bs.length + (os.length + 0) + (0 + 0) + 0 + 0 ≤ _
  omega
theorem eqN (n f p a l m : Int) (zs os : List Int) (bs : List Bool) (aK aL aP bK bL bP : Option Addr) (cK cL cP dK dL dP : Nat) (w : World) (hK : Row w w.heap.size aK zs.length zs) (hL : Flags w w.heap.size aL bs.length bs) (hP : Peers w w.heap.size aP os.length os) (gK : Row w w.heap.size bK zs.length zs) (gL : Flags w w.heap.size bL bs.length bs) (gP : Peers w w.heap.size bP os.length os) (hN : NO n f p a l m zs bs os = true) :
    Calls Tryz.prog 21 #[V13 n f p a l m (.slice aK zs.length cK) (.slice aL bs.length cL) (.slice aP os.length cP), V13 n f p a l m (.slice bK zs.length dK) (.slice bL bs.length dL) (.slice bP os.length dP)] w fun e w' => e = .returned (.bool true) ∧ Below w.heap.size w w' := by
  have h := Cd.eqCourt (nc n f p a l m zs bs os) aK aL aP none none none bK bL bP none none none cK cL cP 0 0 0 dK dL dP 0 0 0 w (nc_at hK hL hP) (nc_at gK gL gP) (nc_sz hN)
  have e : (nc n f p a l m zs bs os).ps.length = os.length := mp_len os
  rw [e] at h
  exact h
abbrev Z13 : Value := V13 0 0 0 0 0 0 (.slice none 0 0) (.slice none 0 0) (.slice none 0 0)
theorem eqZ (w : World) : Calls Tryz.prog 21 #[Z13, Z13] w fun e w' => e = .returned (.bool true) ∧ Below w.heap.size w w' :=
  Cd.eqCourt (nc 0 0 0 0 0 0 [] [] []) none none none none none none none none none none none none 0 0 0 0 0 0 0 0 0 0 0 0 w (nc_at ⟨rfl, .inl rfl⟩ ⟨rfl, .inl rfl⟩ ⟨rfl, .inl rfl⟩) (nc_at ⟨rfl, .inl rfl⟩ ⟨rfl, .inl rfl⟩ ⟨rfl, .inl rfl⟩) (by decide)

/-! New peers, made. -/
structure PU (wr : World) (g : Nat) (os : List Int) (vs : List Value) (k : Nat) : Prop where
  R : Room wr g vs
  L : vs.length = os.length * 4
  T : ∀ j, j < k → vs[j * 4]? = some (.int .i64 (el os j)) ∧ vs[j * 4 + 1]? = some (.int .i64 1) ∧ vs[j * 4 + 2]? = some (.bool false) ∧ vs[j * 4 + 3]? = some (.slice none 0 0)
  z : g < wr.heap.size
theorem PU.next {wr : World} {g : Nat} {os : List Int} {vs : List Value} {k : Nat} (h : PU wr g os vs k) (hk : k < os.length) :
    PU ((((wr.setCell ⟨g, k * 4, none⟩ (.int .i64 (el os k))).setCell ⟨g, k * 4 + 1, none⟩ (.int .i64 1)).setCell ⟨g, k * 4 + 2, none⟩ (.bool false)).setCell ⟨g, k * 4 + 3, none⟩ (.slice none 0 0)) g os ((((vs.set (k * 4) (.int .i64 (el os k))).set (k * 4 + 1) (.int .i64 1)).set (k * 4 + 2) (.bool false)).set (k * 4 + 3) (.slice none 0 0)) (k + 1) := by
  have hl := h.L
  refine ⟨(((h.R.set _ _).set _ _).set _ _).set _ _, by simpa using h.L, fun j hj => ?_, by simpa using h.z⟩
  by_cases e : j = k
  · subst e
    refine ⟨?_, ?_, ?_, ?_⟩
    · rw [List.getElem?_set_ne (by omega), List.getElem?_set_ne (by omega), List.getElem?_set_ne (by omega), List.getElem?_set_self (by omega)]
    · rw [List.getElem?_set_ne (by omega), List.getElem?_set_ne (by omega), List.getElem?_set_self (by simp; omega)]
    · rw [List.getElem?_set_ne (by omega), List.getElem?_set_self (by simp; omega)]
    · rw [List.getElem?_set_self (by simp; omega)]
  · obtain ⟨a, b, c, d⟩ := h.T j (by omega)
    refine ⟨?_, ?_, ?_, ?_⟩ <;> rw [List.getElem?_set_ne (by omega), List.getElem?_set_ne (by omega), List.getElem?_set_ne (by omega), List.getElem?_set_ne (by omega)] <;> assumption
theorem PU.all {wr : World} {g : Nat} {os : List Int} {vs : List Value} (h : PU wr g os vs os.length) : vs = pcs os := by
  apply List.ext_getElem?
  intro i
  by_cases hi : i < os.length * 4
  · obtain ⟨a0, a1, a2, a3⟩ := h.T (i / 4) (by omega)
    obtain ⟨b0, b1, b2, b3⟩ := Ct.pcs_at os (i / 4) (by omega)
    rcases (show i % 4 = 0 ∨ i % 4 = 1 ∨ i % 4 = 2 ∨ i % 4 = 3 by omega) with e | e | e | e
    · rw [show i = i / 4 * 4 by omega, a0, b0]
    · rw [show i = i / 4 * 4 + 1 by omega, a1, b1]
    · rw [show i = i / 4 * 4 + 2 by omega, a2, b2]
    · rw [show i = i / 4 * 4 + 3 by omega, a3, b3]
  · rw [List.getElem?_eq_none (by rw [h.L]; omega), List.getElem?_eq_none (by rw [Ct.pcs_len]; omega)]
theorem peers_room {w : World} {g : Nat} {os : List Int} (hz : g < w.heap.size) (R : Room w g (pcs os)) : Peers w w.heap.size (some ⟨g, 0, none⟩) os.length os :=
  ⟨rfl, .inr ⟨g, 0, rfl, hz, fun k hk => by
    obtain ⟨a, b, c, d⟩ := Ct.pcs_at os k hk
    rw [Nat.zero_add]
    exact ⟨R.cell _ a, R.cell _ b, R.cell _ c, R.cell _ d⟩⟩⟩

set_option maxHeartbeats 4000000 in
theorem newPeers (a : Option Addr) (cap : Nat) (os : List Int) (w : World) (hr : Row w w.heap.size a os.length os) (hn : os.length ≤ 1048576) :
    Calls Tryz.prog 45 #[.slice a os.length cap] w fun e w' => (∃ g, e = .returned (.slice (some ⟨g, 0, none⟩) os.length os.length) ∧ w.heap.size ≤ g ∧ g < w'.heap.size ∧ Room w' g (pcs os)) ∧ Below w.heap.size w w' := by
  have hmk := Cd.run_makep os.length hn
  have B0 := (Below.refl w.heap.size w).alloc (Nat.le_refl _) (.cells (Cd.zcp os.length).toArray 44)
  have U0 : Hid (∃ vs, PU (w.alloc (.cells (Cd.zcp os.length).toArray 44)) w.heap.size os vs 0) := ⟨Cd.zcp os.length, Room.new w _ _, Cd.zcp_len _, fun j hj => by omega, by simp⟩
  go_enter Tryz.func45, Tryz.ntmps45
  go_wp2_with fail
  go_loopw [11] (fun i wr => ∃ k : Nat, k ≤ os.length ∧ i = .int .i64 k ∧ Hid (∃ vs, PU wr w.heap.size os vs k) ∧ Below w.heap.size w wr) (fun i _ => os.length - (intOf i).toNat)
  case atStart => exact ⟨0, Nat.zero_le _, rfl, U0, B0⟩
  case round =>
    obtain ⟨k, hk, rfl, H, BB⟩ := hrel
    clear B0 U0
    by_cases hlt : k < os.length
    · have hi : (k : Int) < os.length := by omega
      obtain ⟨vs, hU⟩ := H.out
      clear H
      obtain ⟨_, hz | ⟨b, off, rfl, hb, hc⟩⟩ := hr
      · omega
      have e0 := (BB.cell (p := ⟨b, off + k, none⟩) hb).trans (hc k hlt)
      have HV : Hid (vs.length = os.length * 4) := hU.L
      have HN : Hid (∃ vs, PU ((((wr.setCell ⟨w.heap.size, k * 4, none⟩ (.int .i64 (el os k))).setCell ⟨w.heap.size, k * 4 + 1, none⟩ (.int .i64 1)).setCell ⟨w.heap.size, k * 4 + 2, none⟩ (.bool false)).setCell ⟨w.heap.size, k * 4 + 3, none⟩ (.slice none 0 0)) w.heap.size os vs (k + 1)) := ⟨_, hU.next hlt⟩
      have BN : Below w.heap.size w ((((wr.setCell ⟨w.heap.size, k * 4, none⟩ (.int .i64 (el os k))).setCell ⟨w.heap.size, k * 4 + 1, none⟩ (.int .i64 1)).setCell ⟨w.heap.size, k * 4 + 2, none⟩ (.bool false)).setCell ⟨w.heap.size, k * 4 + 3, none⟩ (.slice none 0 0)) := ((((BB.setCell (p := ⟨w.heap.size, k * 4, none⟩) (Nat.le_refl _) _).setCell (p := ⟨w.heap.size, k * 4 + 1, none⟩) (Nat.le_refl _) _).setCell (p := ⟨w.heap.size, k * 4 + 2, none⟩) (Nat.le_refl _) _).setCell (p := ⟨w.heap.size, k * 4 + 3, none⟩) (Nat.le_refl _) _)
      obtain ⟨v0, hv0⟩ : ∃ v, vs[k * 4]? = some v := ⟨_, List.getElem?_eq_getElem (by rw [HV.out]; omega)⟩
      obtain ⟨v1, hv1⟩ : ∃ v, vs[k * 4 + 1]? = some v := ⟨_, List.getElem?_eq_getElem (by rw [HV.out]; omega)⟩
      obtain ⟨v2, hv2⟩ : ∃ v, vs[k * 4 + 2]? = some v := ⟨_, List.getElem?_eq_getElem (by rw [HV.out]; omega)⟩
      obtain ⟨v3, hv3⟩ : ∃ v, vs[k * 4 + 3]? = some v := ⟨_, List.getElem?_eq_getElem (by rw [HV.out]; omega)⟩
      have x0 := hU.R.cell _ hv0
      have x1 := hU.R.cell _ hv1
      have x2 := hU.R.cell _ hv2
      have x3 := hU.R.cell _ hv3
      have y0 := hU.R.froz _ hv0
      have y1 := hU.R.froz _ hv1
      have y2 := hU.R.froz _ hv2
      have y3 := hU.R.froz _ hv3
      clear hU hc hv0 hv1 hv2 hv3 BB hmk
      go_wp2_with fail
      go_roundw
      case rel => exact ⟨k + 1, by omega, by go_num, HN, BN⟩
      case measure => simp [intOf]; omega
    · have hi : ¬ (k : Int) < os.length := by omega
      have e : k = os.length := by omega
      subst e
      obtain ⟨vs, hU⟩ := H.out
      have q := hU.all
      subst q
      go_wp2
      go_ret
      exact ⟨⟨_, rfl, Nat.le_refl _, hU.z, hU.R⟩, BB⟩

end Go.Proofs.YtimakfokgcnklaaGreat.Nw
