/-
  A court of the laws: a copy of it; whether two are alike; one that is marked.
-/
import Derived.Test.YtimakfokgcnklaaGreatCmk
import Derived.Test.YtimakfokgcnklaaGreatFb
import Derived.Test.YtimakfokgcnklaaGreatBools
namespace Go.Proofs.YtimakfokgcnklaaGreat.Cd
open Go.ChangeShapes Go.WideShapes Go.ChangeAt Go.RowKit
open Ls (el Row)
open Ow (Has)
open Bo (HasB)
open Rm (Room)
open Rd (Flags)
open Sb (S3 es fl sl Row3 SHas)
open Ns
set_option linter.unusedVariables false
set_option linter.unusedSimpArgs false

/-- These values stored from cell i on. -/
def sets (w : World) (X : Nat) : Nat → List Value → World
  | _, [] => w
  | i, v :: vs => sets (w.setCell ⟨X, i, none⟩ v) X (i + 1) vs
theorem sets_mid (X : Nat) (vs : List Value) : ∀ (i : Nat) (w : World), Mid X (X + 1) w (sets w X i vs) := by
  induction vs with
  | nil => intro i w; exact Mid.refl _ _ _
  | cons v vs ih => intro i w; exact (Mid.set w X i v).trans (ih _ _)
theorem sets_room {X : Nat} (vs : List Value) : ∀ (i : Nat) (w : World) (pre us : List Value), Room w X (pre ++ us) → us.length = vs.length → pre.length = i → Room (sets w X i vs) X (pre ++ vs) := by
  induction vs with
  | nil => intro i w pre us h h1 h2; have : us = [] := List.eq_nil_of_length_eq_zero (by simpa using h1); subst this; exact h
  | cons v vs ih =>
    intro i w pre us h h1 h2
    cases us with
    | nil => simp at h1
    | cons u us =>
      have q := h.set i v
      have e : (pre ++ u :: us).set i v = (pre ++ [v]) ++ us := by
        rw [List.set_append_right _ _ (by omega)]
        simp [h2]
      rw [e] at q
      have r := ih (i + 1) _ (pre ++ [v]) us q (by simpa using h1) (by simp [h2])
      rw [List.append_assoc] at r
      exact r
theorem _root_.Go.Proofs.YtimakfokgcnklaaGreat.Ns.Mid.has {B C : Nat} {w w' : World} (m : Mid B C w w') {A g off n : Nat} {zs : List Int} (h : Has w A g off n zs) (q : g < B ∨ C ≤ g) : Has w' A g off n zs := by
  obtain ⟨h1, h2, h3, h4, h5⟩ := h
  have e := m.block g h3 q
  exact ⟨h1, h2, Nat.lt_of_lt_of_le h3 m.size, fun k hk => by rw [World.cell?_of_block (a := ⟨g, off + k, none⟩) e]; exact h4 k hk, fun k hk => by rw [World.frozen?_of_block (a := ⟨g, off + k, none⟩) e]; exact h5 k hk⟩
theorem _root_.Go.Proofs.YtimakfokgcnklaaGreat.Ns.Mid.hasB {B C : Nat} {w w' : World} (m : Mid B C w w') {A g off n : Nat} {zs : List Bool} (h : HasB w A g off n zs) (q : g < B ∨ C ≤ g) : HasB w' A g off n zs := by
  obtain ⟨h1, h2, h3, h4, h5⟩ := h
  have e := m.block g h3 q
  exact ⟨h1, h2, Nat.lt_of_lt_of_le h3 m.size, fun k hk => by rw [World.cell?_of_block (a := ⟨g, off + k, none⟩) e]; exact h4 k hk, fun k hk => by rw [World.frozen?_of_block (a := ⟨g, off + k, none⟩) e]; exact h5 k hk⟩

set_option maxHeartbeats 1000000 in
theorem toRule (c : CD) (w : World) :
    Calls Tryz.prog 22 #[rul c] w fun e w' => e = .returned (rul c) ∧ Below w.heap.size w w' := by
  go_enter Tryz.func22, Tryz.ntmps22
  go_wp2
  refine bodyPost_ret (v := rul c) (by simp [results, Tryz.results22, go_sem]) rfl ⟨rfl, ?_⟩
  (repeat (first | exact Below.refl _ _ | assumption | refine Below.setCell ?_ (by first | omega | (simp <;> omega)) _ | refine Below.alloc ?_ (by first | omega | (simp <;> omega)) _ | refine Below.drew ?_ | refine below_drewN ?_ _))
set_option maxHeartbeats 1000000 in
theorem eqRule (c : CD) (w : World) :
    Calls Tryz.prog 71 #[rul c, rul c] w fun e w' => e = .returned (.bool true) ∧ Below w.heap.size w w' := by
  go_enter Tryz.func71, Tryz.ntmps71
  go_wp2
  go_ret
  refine ⟨rfl, ?_⟩
  (repeat (first | exact Below.refl _ _ | assumption | refine Below.setCell ?_ (by first | omega | (simp <;> omega)) _ | refine Below.alloc ?_ (by first | omega | (simp <;> omega)) _ | refine Below.drew ?_ | refine below_drewN ?_ _))

/-- The lists of a court that nothing else holds, the first j of them; none older than B. -/
structure Own (c : CD) (w : World) (B gK gL gP CP gQ CQ gM gF : Nat) (j : Nat) : Prop where
  K : 0 < j → Has w gK gK 0 c.zs.length c.zs
  iK : 0 < j → B ≤ gK
  L : 1 < j → HasB w gL gL 0 c.bs.length c.bs
  iL : 1 < j → gK < gL
  P : 2 < j → PeerAll w CP gP c.ps.length c.ps
  iP : 2 < j → gL < gP
  Q : 3 < j → ParcelAll w CQ gQ c.qs.length c.qs
  iQ : 3 < j → CP ≤ gQ
  M : 4 < j → SHas w gM gM 0 c.ms.length c.ms
  iM : 4 < j → CQ ≤ gM
  F : 5 < j → SHas w gF gF 0 c.fs.length c.fs
  iF : 5 < j → gM < gF
theorem Own.mid {c : CD} {w w' : World} {B gK gL gP CP gQ CQ gM gF j X Y : Nat} (h : Own c w B gK gL gP CP gQ CQ gM gF j) (m : Mid X Y w w') (hY : Y ≤ B) : Own c w' B gK gL gP CP gQ CQ gM gF j :=
  ⟨fun q => m.has (h.K q) (.inr (Nat.le_trans hY (by have := h.iK q; omega))), h.iK,
   fun q => m.hasB (h.L q) (.inr (by have := h.iK (by omega); have := h.iL q; omega)), h.iL,
   fun q => (h.P q).mid m (.inr (by have := h.iK (by omega); have := h.iL (by omega); have := h.iP q; omega)), h.iP,
   fun q => (h.Q q).mid m (.inr (by have := h.iK (by omega); have := h.iL (by omega); have := h.iP (by omega); have := (h.P (by omega)).lt; have := h.iQ q; omega)), h.iQ,
   fun q => m.hasS (h.M q) (.inr (by have := h.iK (by omega); have := h.iL (by omega); have := h.iP (by omega); have := (h.P (by omega)).lt; have := h.iQ (by omega); have := (h.Q (by omega)).lt; have := h.iM q; omega)), h.iM,
   fun q => m.hasS (h.F q) (.inr (by have := h.iK (by omega); have := h.iL (by omega); have := h.iP (by omega); have := (h.P (by omega)).lt; have := h.iQ (by omega); have := (h.Q (by omega)).lt; have := h.iM (by omega); have := h.iF q; omega)), h.iF⟩
theorem Own.below {c : CD} {w w' : World} {B gK gL gP CP gQ CQ gM gF j : Nat} (h : Own c w B gK gL gP CP gQ CQ gM gF j) (b : Below w.heap.size w w') : Own c w' B gK gL gP CP gQ CQ gM gF j := h.mid (Mid.of_below (B := B) (C := B) b) (Nat.le_refl _)
theorem Own.at {c : CD} {w : World} {B gK gL gP CP gQ CQ gM gF : Nat} (h : Own c w B gK gL gP CP gQ CQ gM gF 6) (hP : c.ps.length = c.ps.length) : c.At w (some ⟨gK, 0, none⟩) (some ⟨gL, 0, none⟩) (some ⟨gP, 0, none⟩) (some ⟨gQ, 0, none⟩) (some ⟨gM, 0, none⟩) (some ⟨gF, 0, none⟩) :=
  ⟨(h.K (by omega)).row, (h.L (by omega)).row, (h.P (by omega)).at rfl, (h.Q (by omega)).at rfl, (h.M (by omega)).row, (h.F (by omega)).row⟩
theorem Own.addK {c : CD} {w w1 : World} {B gK gL gP CP gQ CQ gM gF g : Nat} (h : Own c w B gK gL gP CP gQ CQ gM gF 0) (b : Below w.heap.size w w1) (hB : B ≤ w.heap.size) (hge : w.heap.size ≤ g) (hN : Has w1 w.heap.size g 0 c.zs.length c.zs) : Own c w1 B g gL gP CP gQ CQ gM gF 1 :=
  have h2 := h.below b
  ⟨fun _ => ⟨hN.1, Nat.le_refl _, hN.2.2⟩, fun _ => by omega, fun q => absurd q (by omega), fun q => absurd q (by omega), fun q => absurd q (by omega), fun q => absurd q (by omega), fun q => absurd q (by omega), fun q => absurd q (by omega), fun q => absurd q (by omega), fun q => absurd q (by omega), fun q => absurd q (by omega), fun q => absurd q (by omega)⟩
theorem Own.addL {c : CD} {w w1 : World} {B gK gL gP CP gQ CQ gM gF g : Nat} (h : Own c w B gK gL gP CP gQ CQ gM gF 1) (b : Below w.heap.size w w1) (hB : B ≤ w.heap.size) (hge : w.heap.size ≤ g) (hN : HasB w1 w.heap.size g 0 c.bs.length c.bs) : Own c w1 B gK g gP CP gQ CQ gM gF 2 :=
  have h2 := h.below b
  ⟨fun q => (h2.K (by omega)), fun q => h2.iK (by omega), fun _ => ⟨hN.1, Nat.le_refl _, hN.2.2⟩, fun _ => by have := (h.K (by omega)).2.2.1; omega, fun q => absurd q (by omega), fun q => absurd q (by omega), fun q => absurd q (by omega), fun q => absurd q (by omega), fun q => absurd q (by omega), fun q => absurd q (by omega), fun q => absurd q (by omega), fun q => absurd q (by omega)⟩
theorem Own.addP {c : CD} {w w1 : World} {B gK gL gP CP gQ CQ gM gF g : Nat} (h : Own c w B gK gL gP CP gQ CQ gM gF 2) (b : Below w.heap.size w w1) (hB : B ≤ w.heap.size) (hge : w.heap.size ≤ g) (hN : PeerAll w1 w1.heap.size g c.ps.length c.ps) : Own c w1 B gK gL g w1.heap.size gQ CQ gM gF 3 :=
  have h2 := h.below b
  ⟨fun q => (h2.K (by omega)), fun q => h2.iK (by omega), fun q => (h2.L (by omega)), fun q => h2.iL (by omega), fun _ => hN, fun _ => by have := (h.L (by omega)).2.2.1; omega, fun q => absurd q (by omega), fun q => absurd q (by omega), fun q => absurd q (by omega), fun q => absurd q (by omega), fun q => absurd q (by omega), fun q => absurd q (by omega)⟩
theorem Own.addQ {c : CD} {w w1 : World} {B gK gL gP CP gQ CQ gM gF g : Nat} (h : Own c w B gK gL gP CP gQ CQ gM gF 3) (b : Below w.heap.size w w1) (hB : B ≤ w.heap.size) (hge : w.heap.size ≤ g) (hN : ParcelAll w1 w1.heap.size g c.qs.length c.qs) : Own c w1 B gK gL gP CP g w1.heap.size gM gF 4 :=
  have h2 := h.below b
  ⟨fun q => (h2.K (by omega)), fun q => h2.iK (by omega), fun q => (h2.L (by omega)), fun q => h2.iL (by omega), fun q => (h2.P (by omega)), fun q => h2.iP (by omega), fun _ => hN, fun _ => by have := (h.P (by omega)).lt; omega, fun q => absurd q (by omega), fun q => absurd q (by omega), fun q => absurd q (by omega), fun q => absurd q (by omega)⟩
theorem Own.addM {c : CD} {w w1 : World} {B gK gL gP CP gQ CQ gM gF g : Nat} (h : Own c w B gK gL gP CP gQ CQ gM gF 4) (b : Below w.heap.size w w1) (hB : B ≤ w.heap.size) (hge : w.heap.size ≤ g) (hN : SHas w1 w.heap.size g 0 c.ms.length c.ms) : Own c w1 B gK gL gP CP gQ CQ g gF 5 :=
  have h2 := h.below b
  ⟨fun q => (h2.K (by omega)), fun q => h2.iK (by omega), fun q => (h2.L (by omega)), fun q => h2.iL (by omega), fun q => (h2.P (by omega)), fun q => h2.iP (by omega), fun q => (h2.Q (by omega)), fun q => h2.iQ (by omega), fun _ => ⟨hN.1, Nat.le_refl _, hN.2.2⟩, fun _ => by have := (h.Q (by omega)).lt; omega, fun q => absurd q (by omega), fun q => absurd q (by omega)⟩
theorem Own.addF {c : CD} {w w1 : World} {B gK gL gP CP gQ CQ gM gF g : Nat} (h : Own c w B gK gL gP CP gQ CQ gM gF 5) (b : Below w.heap.size w w1) (hB : B ≤ w.heap.size) (hge : w.heap.size ≤ g) (hN : SHas w1 w.heap.size g 0 c.fs.length c.fs) : Own c w1 B gK gL gP CP gQ CQ gM g 6 :=
  have h2 := h.below b
  ⟨fun q => (h2.K (by omega)), fun q => h2.iK (by omega), fun q => (h2.L (by omega)), fun q => h2.iL (by omega), fun q => (h2.P (by omega)), fun q => h2.iP (by omega), fun q => (h2.Q (by omega)), fun q => h2.iQ (by omega), fun q => (h2.M (by omega)), fun q => h2.iM (by omega), fun _ => ⟨hN.1, Nat.le_refl _, hN.2.2⟩, fun _ => by have := (h.M (by omega)).2.2.1; omega⟩
/-- The copy's cells, what it is of. -/
structure Tc (c : CD) (w wr : World) (src vs : List Value) (gK gL gP CP gQ CQ gM gF j : Nat) : Prop where
  S : Room wr w.heap.size src
  R : Room wr (w.heap.size + 1) [.int .i64 0, .int .i64 0, .int .i64 0, .int .i64 0, .int .i64 0, .int .i64 0, .slice none 0 0, .slice none 0 0, .slice none 0 0, .slice none 0 0, .int .i64 0, .slice none 0 0, .slice none 0 0]
  X : Room wr (w.heap.size + 2) vs
  B : Below w.heap.size w wr
  z : w.heap.size + 3 ≤ wr.heap.size
  O : Own c wr (w.heap.size + 3) gK gL gP CP gQ CQ gM gF j
theorem Tc.below {c : CD} {w wr w2 : World} {src vs : List Value} {gK gL gP CP gQ CQ gM gF j : Nat} (h : Tc c w wr src vs gK gL gP CP gQ CQ gM gF j) (b : Below wr.heap.size wr w2) : Tc c w w2 src vs gK gL gP CP gQ CQ gM gF j :=
  ⟨h.S.below b, h.R.below b, h.X.below b, h.B.trans (b.mono h.B.size), by have := b.size; have := h.z; omega, h.O.below b⟩
theorem Tc.put {c : CD} {w wr : World} {src vs : List Value} {gK gL gP CP gQ CQ gM gF j : Nat} (h : Tc c w wr src vs gK gL gP CP gQ CQ gM gF j) (i : Nat) (v : Value) : Tc c w (wr.setCell ⟨w.heap.size + 2, i, none⟩ v) src (vs.set i v) gK gL gP CP gQ CQ gM gF j :=
  ⟨h.S.setOther (by omega) _ _, h.R.setOther (by omega) _ _, h.X.set i v, h.B.setCell (p := ⟨w.heap.size + 2, i, none⟩) (by simp) _, by simpa using h.z, h.O.mid (Mid.set wr (w.heap.size + 2) i v) (by omega)⟩
theorem Tc.puts {c : CD} {w wr : World} {src vs : List Value} {gK gL gP CP gQ CQ gM gF j : Nat} (h : Tc c w wr src vs gK gL gP CP gQ CQ gM gF j) (us : List Value) : ∀ (i : Nat) (wq : World) (ws : List Value), Tc c w wq src ws gK gL gP CP gQ CQ gM gF j → ∃ ws', Tc c w (sets wq (w.heap.size + 2) i us) src ws' gK gL gP CP gQ CQ gM gF j := by
  induction us with
  | nil => intro i wq ws hq; exact ⟨ws, hq⟩
  | cons u us ih => intro i wq ws hq; exact ih _ _ _ (hq.put i u)

theorem ret13 {fn : Func} {ts : Array Value} {W : World} {R i : Nat} {x0 x1 x2 x3 x4 x5 xn : Int} {a6 a7 a8 a9 a11 a12 : Option Addr} {n6 c6 n7 c7 n8 c8 n9 c9 n11 c11 n12 c12 : Nat} (hf : fn.results = #[.cell i 35]) (h2 : ts[i]? = some (.pointer (some ⟨R, 0, none⟩)))
    (h : Room W R [.int .i64 x0, .int .i64 x1, .int .i64 x2, .int .i64 x3, .int .i64 x4, .int .i64 x5, .slice a6 n6 c6, .slice a7 n7 c7, .slice a8 n8 c8, .slice a9 n9 c9, .int .i64 xn, .slice a11 n11 c11, .slice a12 n12 c12]) :
    (results fn ts).run Tryz.prog W = .ok (.agg #[.int .i64 x0, .int .i64 x1, .int .i64 x2, .int .i64 x3, .int .i64 x4, .int .i64 x5, .slice a6 n6 c6, .slice a7 n7 c7, .slice a8 n8 c8, .slice a9 n9 c9, .int .i64 xn, .slice a11 n11 c11, .slice a12 n12 c12]) W := by
  have q0 := h.cell 0 rfl
  have q1 := h.cell 1 rfl
  have q2 := h.cell 2 rfl
  have q3 := h.cell 3 rfl
  have q4 := h.cell 4 rfl
  have q5 := h.cell 5 rfl
  have q6 := h.cell 6 rfl
  have q7 := h.cell 7 rfl
  have q8 := h.cell 8 rfl
  have q9 := h.cell 9 rfl
  have q10 := h.cell 10 rfl
  have q11 := h.cell 11 rfl
  have q12 := h.cell 12 rfl
  simp [results, hf, h2, go_sem, q0, q1, q2, q3, q4, q5, q6, q7, q8, q9, q10, q11, q12]

set_option maxHeartbeats 8000000 in
set_option maxRecDepth 100000 in
theorem toCourt (c : CD) (aK aL aP aQ aM aF : Option Addr) (cK cL cP cQ cM cF : Nat) (w : World) (hA : c.At w aK aL aP aQ aM aF) (hz : c.sz ≤ 1048576) :
    Calls Tryz.prog 20 #[crt c (.slice aK c.zs.length cK) (.slice aL c.bs.length cL) (.slice aP c.ps.length cP) (.slice aQ c.qs.length cQ) (.slice aM c.ms.length cM) (.slice aF c.fs.length cF)] w fun e w' => (∃ gK gL gP CP gQ CQ gM gF, e = .returned (crt c (.slice (some ⟨gK, 0, none⟩) c.zs.length c.zs.length) (.slice (some ⟨gL, 0, none⟩) c.bs.length c.bs.length) (.slice (some ⟨gP, 0, none⟩) c.ps.length c.ps.length) (.slice (some ⟨gQ, 0, none⟩) c.qs.length c.qs.length) (.slice (some ⟨gM, 0, none⟩) c.ms.length c.ms.length) (.slice (some ⟨gF, 0, none⟩) c.fs.length c.fs.length)) ∧ Own c w' (w.heap.size + 3) gK gL gP CP gQ CQ gM gF 6) ∧ Below w.heap.size w w' := by
  have TC : Tc c w (((w.alloc (.cells #[.int .i64 c.n, .int .i64 c.f, .int .i64 c.p, .int .i64 c.a, .int .i64 c.l, .int .i64 c.m, .slice aK c.zs.length cK, .slice aL c.bs.length cL, .slice aP c.ps.length cP, .slice aQ c.qs.length cQ, .int .i64 c.now, .slice aM c.ms.length cM, .slice aF c.fs.length cF] 52)).alloc (.cells #[.int .i64 0, .int .i64 0, .int .i64 0, .int .i64 0, .int .i64 0, .int .i64 0, .slice none 0 0, .slice none 0 0, .slice none 0 0, .slice none 0 0, .int .i64 0, .slice none 0 0, .slice none 0 0] 35)).alloc (.cells #[.int .i64 0, .int .i64 0, .int .i64 0, .int .i64 0, .int .i64 0, .int .i64 0, .slice none 0 0, .slice none 0 0, .slice none 0 0, .slice none 0 0, .int .i64 0, .slice none 0 0, .slice none 0 0] 35)) [.int .i64 c.n, .int .i64 c.f, .int .i64 c.p, .int .i64 c.a, .int .i64 c.l, .int .i64 c.m, .slice aK c.zs.length cK, .slice aL c.bs.length cL, .slice aP c.ps.length cP, .slice aQ c.qs.length cQ, .int .i64 c.now, .slice aM c.ms.length cM, .slice aF c.fs.length cF] [.int .i64 0, .int .i64 0, .int .i64 0, .int .i64 0, .int .i64 0, .int .i64 0, .slice none 0 0, .slice none 0 0, .slice none 0 0, .slice none 0 0, .int .i64 0, .slice none 0 0, .slice none 0 0] 0 0 0 0 0 0 0 0 0 := ⟨((Room.new w [.int .i64 c.n, .int .i64 c.f, .int .i64 c.p, .int .i64 c.a, .int .i64 c.l, .int .i64 c.m, .slice aK c.zs.length cK, .slice aL c.bs.length cL, .slice aP c.ps.length cP, .slice aQ c.qs.length cQ, .int .i64 c.now, .slice aM c.ms.length cM, .slice aF c.fs.length cF] 52).alloc _).alloc _, (Room.at _ [.int .i64 0, .int .i64 0, .int .i64 0, .int .i64 0, .int .i64 0, .int .i64 0, .slice none 0 0, .slice none 0 0, .slice none 0 0, .slice none 0 0, .int .i64 0, .slice none 0 0, .slice none 0 0] 35 (w.heap.size + 1) (by simp)).alloc _, Room.at _ [.int .i64 0, .int .i64 0, .int .i64 0, .int .i64 0, .int .i64 0, .int .i64 0, .slice none 0 0, .slice none 0 0, .slice none 0 0, .slice none 0 0, .int .i64 0, .slice none 0 0, .slice none 0 0] 35 (w.heap.size + 2) (by simp), (((Below.refl w.heap.size w).alloc (Nat.le_refl _) _).alloc (by simp) _).alloc (by simp <;> omega) _, by simp, ⟨fun q => absurd q (by omega), fun q => absurd q (by omega), fun q => absurd q (by omega), fun q => absurd q (by omega), fun q => absurd q (by omega), fun q => absurd q (by omega), fun q => absurd q (by omega), fun q => absurd q (by omega), fun q => absurd q (by omega), fun q => absurd q (by omega), fun q => absurd q (by omega), fun q => absurd q (by omega)⟩⟩
  go_enter Tryz.func20, Tryz.ntmps20
  go_wp2_with fail
  generalize ((w.alloc (.cells #[.int .i64 c.n, .int .i64 c.f, .int .i64 c.p, .int .i64 c.a, .int .i64 c.l, .int .i64 c.m, .slice aK c.zs.length cK, .slice aL c.bs.length cL, .slice aP c.ps.length cP, .slice aQ c.qs.length cQ, .int .i64 c.now, .slice aM c.ms.length cM, .slice aF c.fs.length cF] 52)).alloc (.cells #[.int .i64 0, .int .i64 0, .int .i64 0, .int .i64 0, .int .i64 0, .int .i64 0, .slice none 0 0, .slice none 0 0, .slice none 0 0, .slice none 0 0, .int .i64 0, .slice none 0 0, .slice none 0 0] 35)).alloc (.cells #[.int .i64 0, .int .i64 0, .int .i64 0, .int .i64 0, .int .i64 0, .int .i64 0, .slice none 0 0, .slice none 0 0, .slice none 0 0, .slice none 0 0, .int .i64 0, .slice none 0 0, .slice none 0 0] 35) = w0 at TC ⊢
  refine (toRule c _).mono ?_
  rintro e w1 ⟨rfl, b1⟩
  replace TC := TC.below b1
  clear b1
  have s6 := TC.S.cell 6 rfl
  have x0 := TC.X.cell 0 rfl
  have f0 := TC.X.froz 0 rfl
  have x1 := TC.X.cell 1 rfl
  have f1 := TC.X.froz 1 rfl
  have x2 := TC.X.cell 2 rfl
  have f2 := TC.X.froz 2 rfl
  have x3 := TC.X.cell 3 rfl
  have f3 := TC.X.froz 3 rfl
  have x4 := TC.X.cell 4 rfl
  have f4 := TC.X.froz 4 rfl
  have x5 := TC.X.cell 5 rfl
  have f5 := TC.X.froz 5 rfl
  go_wp2_with fail
  clear s6 x0 f0 x1 f1 x2 f2 x3 f3 x4 f4 x5 f5
  replace TC := ((((((TC.put 0 (.int .i64 c.n)).put 1 (.int .i64 c.f)).put 2 (.int .i64 c.p)).put 3 (.int .i64 c.a)).put 4 (.int .i64 c.l)).put 5 (.int .i64 c.m))
  generalize ((((((w1.setCell ⟨w.heap.size + 2, 0, none⟩ (.int .i64 c.n)).setCell ⟨w.heap.size + 2, 1, none⟩ (.int .i64 c.f)).setCell ⟨w.heap.size + 2, 2, none⟩ (.int .i64 c.p)).setCell ⟨w.heap.size + 2, 3, none⟩ (.int .i64 c.a)).setCell ⟨w.heap.size + 2, 4, none⟩ (.int .i64 c.l)).setCell ⟨w.heap.size + 2, 5, none⟩ (.int .i64 c.m)) = wq0 at TC ⊢
  refine (Ow.copied _ _ _ _ _ (hA.below TC.B).K (by unfold CD.sz at hz; omega)).mono ?_
  rintro e wn0 ⟨⟨gK, rfl, hN⟩, b2⟩
  have hge := hN.2.1
  have hO := TC.O.addK b2 (by have := TC.z; omega) hge hN
  replace TC := TC.below b2
  replace TC := (⟨TC.S, TC.R, TC.X, TC.B, TC.z, hO⟩ : Tc c w wn0 _ _ _ _ _ _ _ _ _ _ 1)
  clear b2 hN hO hge
  have s7 := TC.S.cell 7 rfl
  have x6 := TC.X.cell 6 rfl
  have f6 := TC.X.froz 6 rfl
  go_wp2_with fail
  clear s7 x6 f6
  replace TC := (TC.put 6 (.slice (some ⟨gK, 0, none⟩) c.zs.length c.zs.length))
  generalize (wn0.setCell ⟨w.heap.size + 2, 6, none⟩ (.slice (some ⟨gK, 0, none⟩) c.zs.length c.zs.length)) = wq1 at TC ⊢
  refine (Bo.copied _ _ _ _ _ (hA.below TC.B).L (by unfold CD.sz at hz; omega)).mono ?_
  rintro e wn1 ⟨⟨gL, rfl, hN⟩, b2⟩
  have hge := hN.2.1
  have hO := TC.O.addL b2 (by have := TC.z; omega) hge hN
  replace TC := TC.below b2
  replace TC := (⟨TC.S, TC.R, TC.X, TC.B, TC.z, hO⟩ : Tc c w wn1 _ _ _ _ _ _ _ _ _ _ 2)
  clear b2 hN hO hge
  have s8 := TC.S.cell 8 rfl
  have x7 := TC.X.cell 7 rfl
  have f7 := TC.X.froz 7 rfl
  go_wp2_with fail
  clear s8 x7 f7
  replace TC := (TC.put 7 (.slice (some ⟨gL, 0, none⟩) c.bs.length c.bs.length))
  generalize (wn1.setCell ⟨w.heap.size + 2, 7, none⟩ (.slice (some ⟨gL, 0, none⟩) c.bs.length c.bs.length)) = wq2 at TC ⊢
  refine (toPeerS _ _ _ _ _ (hA.below TC.B).P (by unfold CD.sz at hz; omega)).mono ?_
  rintro e wn2 ⟨rfl, hN, b2⟩
  obtain ⟨gP, hgP⟩ : ∃ g, g = wq2.heap.size := ⟨_, rfl⟩
  rw [← hgP] at hN ⊢
  have hge : wq2.heap.size ≤ gP := by omega
  have hO := TC.O.addP b2 (by have := TC.z; omega) hge hN
  replace TC := TC.below b2
  replace TC := (⟨TC.S, TC.R, TC.X, TC.B, TC.z, hO⟩ : Tc c w wn2 _ _ _ _ _ _ _ _ _ _ 3)
  clear b2 hN hO hge hgP
  obtain ⟨CP, hCP⟩ : ∃ C, C = wn2.heap.size := ⟨_, rfl⟩
  rw [← hCP] at TC
  clear hCP
  have s9 := TC.S.cell 9 rfl
  have x8 := TC.X.cell 8 rfl
  have f8 := TC.X.froz 8 rfl
  go_wp2_with fail
  clear s9 x8 f8
  replace TC := (TC.put 8 (.slice (some ⟨gP, 0, none⟩) c.ps.length c.ps.length))
  generalize (wn2.setCell ⟨w.heap.size + 2, 8, none⟩ (.slice (some ⟨gP, 0, none⟩) c.ps.length c.ps.length)) = wq3 at TC ⊢
  refine (toParcelS _ _ _ _ _ (hA.below TC.B).Q (by unfold CD.sz at hz; omega)).mono ?_
  rintro e wn3 ⟨rfl, hN, b2⟩
  obtain ⟨gQ, hgQ⟩ : ∃ g, g = wq3.heap.size := ⟨_, rfl⟩
  rw [← hgQ] at hN ⊢
  have hge : wq3.heap.size ≤ gQ := by omega
  have hO := TC.O.addQ b2 (by have := TC.z; omega) hge hN
  replace TC := TC.below b2
  replace TC := (⟨TC.S, TC.R, TC.X, TC.B, TC.z, hO⟩ : Tc c w wn3 _ _ _ _ _ _ _ _ _ _ 4)
  clear b2 hN hO hge hgQ
  obtain ⟨CQ, hCQ⟩ : ∃ C, C = wn3.heap.size := ⟨_, rfl⟩
  rw [← hCQ] at TC
  clear hCQ
  have s11 := TC.S.cell 11 rfl
  have x9 := TC.X.cell 9 rfl
  have f9 := TC.X.froz 9 rfl
  have x10 := TC.X.cell 10 rfl
  have f10 := TC.X.froz 10 rfl
  have s10 := TC.S.cell 10 rfl
  go_wp2_with fail
  clear s11 x9 f9 x10 f10 s10
  replace TC := ((TC.put 9 (.slice (some ⟨gQ, 0, none⟩) c.qs.length c.qs.length)).put 10 (.int .i64 c.now))
  generalize ((wn3.setCell ⟨w.heap.size + 2, 9, none⟩ (.slice (some ⟨gQ, 0, none⟩) c.qs.length c.qs.length)).setCell ⟨w.heap.size + 2, 10, none⟩ (.int .i64 c.now)) = wq4 at TC ⊢
  refine (Sb.toSealS _ _ _ _ _ (hA.below TC.B).M (by unfold CD.sz at hz; omega)).mono ?_
  rintro e wn4 ⟨⟨gM, rfl, hN⟩, b2⟩
  have hge := hN.2.1
  have hO := TC.O.addM b2 (by have := TC.z; omega) hge hN
  replace TC := TC.below b2
  replace TC := (⟨TC.S, TC.R, TC.X, TC.B, TC.z, hO⟩ : Tc c w wn4 _ _ _ _ _ _ _ _ _ _ 5)
  clear b2 hN hO hge
  have s12 := TC.S.cell 12 rfl
  have x11 := TC.X.cell 11 rfl
  have f11 := TC.X.froz 11 rfl
  go_wp2_with fail
  clear s12 x11 f11
  replace TC := (TC.put 11 (.slice (some ⟨gM, 0, none⟩) c.ms.length c.ms.length))
  generalize (wn4.setCell ⟨w.heap.size + 2, 11, none⟩ (.slice (some ⟨gM, 0, none⟩) c.ms.length c.ms.length)) = wq5 at TC ⊢
  refine (Fb.toFactS _ _ _ _ _ (hA.below TC.B).F (by unfold CD.sz at hz; omega)).mono ?_
  rintro e wn5 ⟨⟨gF, rfl, hN⟩, b2⟩
  have hge := hN.2.1
  have hO := TC.O.addF b2 (by have := TC.z; omega) hge hN
  replace TC := TC.below b2
  replace TC := (⟨TC.S, TC.R, TC.X, TC.B, TC.z, hO⟩ : Tc c w wn5 _ _ _ _ _ _ _ _ _ _ 6)
  clear b2 hN hO hge
  have x0 := TC.X.cell 0 rfl
  have f0 := TC.X.froz 0 rfl
  have x1 := TC.X.cell 1 rfl
  have f1 := TC.X.froz 1 rfl
  have x2 := TC.X.cell 2 rfl
  have f2 := TC.X.froz 2 rfl
  have x3 := TC.X.cell 3 rfl
  have f3 := TC.X.froz 3 rfl
  have x4 := TC.X.cell 4 rfl
  have f4 := TC.X.froz 4 rfl
  have x5 := TC.X.cell 5 rfl
  have f5 := TC.X.froz 5 rfl
  have x6 := TC.X.cell 6 rfl
  have f6 := TC.X.froz 6 rfl
  have x7 := TC.X.cell 7 rfl
  have f7 := TC.X.froz 7 rfl
  have x8 := TC.X.cell 8 rfl
  have f8 := TC.X.froz 8 rfl
  have x9 := TC.X.cell 9 rfl
  have f9 := TC.X.froz 9 rfl
  have x10 := TC.X.cell 10 rfl
  have f10 := TC.X.froz 10 rfl
  have x11 := TC.X.cell 11 rfl
  have f11 := TC.X.froz 11 rfl
  have x12 := TC.X.cell 12 rfl
  have f12 := TC.X.froz 12 rfl
  have r0 := TC.R.cell 0 rfl
  have r1 := TC.R.cell 1 rfl
  have r2 := TC.R.cell 2 rfl
  have r3 := TC.R.cell 3 rfl
  have r4 := TC.R.cell 4 rfl
  have r5 := TC.R.cell 5 rfl
  have r6 := TC.R.cell 6 rfl
  have r7 := TC.R.cell 7 rfl
  have r8 := TC.R.cell 8 rfl
  have r9 := TC.R.cell 9 rfl
  have r10 := TC.R.cell 10 rfl
  have r11 := TC.R.cell 11 rfl
  have r12 := TC.R.cell 12 rfl
  have q0 := TC.R.froz 0 rfl
  have q1 := TC.R.froz 1 rfl
  have q2 := TC.R.froz 2 rfl
  have q3 := TC.R.froz 3 rfl
  have q4 := TC.R.froz 4 rfl
  have q5 := TC.R.froz 5 rfl
  have q6 := TC.R.froz 6 rfl
  have q7 := TC.R.froz 7 rfl
  have q8 := TC.R.froz 8 rfl
  have q9 := TC.R.froz 9 rfl
  have q10 := TC.R.froz 10 rfl
  have q11 := TC.R.froz 11 rfl
  have q12 := TC.R.froz 12 rfl
  have TC2 := (TC.put 12 (.slice (some ⟨gF, 0, none⟩) c.fs.length c.fs.length))
  have y12 := TC2.X.cell 12 rfl
  go_wp2_with fail
  clear x0 f0 r0 q0 x1 f1 r1 q1 x2 f2 r2 q2 x3 f3 r3 q3 x4 f4 r4 q4 x5 f5 r5 q5 x6 f6 r6 q6 x7 f7 r7 q7 x8 f8 r8 q8 x9 f9 r9 q9 x10 f10 r10 q10 x11 f11 r11 q11 x12 f12 r12 q12 y12 TC
  generalize (wn5.setCell ⟨w.heap.size + 2, 12, none⟩ (.slice (some ⟨gF, 0, none⟩) c.fs.length c.fs.length)) = w3 at TC2 ⊢
  have RZ : Room (((((((((((((w3.setCell ⟨w.heap.size + 1, 0, none⟩ (.int .i64 c.n)).setCell ⟨w.heap.size + 1, 1, none⟩ (.int .i64 c.f)).setCell ⟨w.heap.size + 1, 2, none⟩ (.int .i64 c.p)).setCell ⟨w.heap.size + 1, 3, none⟩ (.int .i64 c.a)).setCell ⟨w.heap.size + 1, 4, none⟩ (.int .i64 c.l)).setCell ⟨w.heap.size + 1, 5, none⟩ (.int .i64 c.m)).setCell ⟨w.heap.size + 1, 6, none⟩ (.slice (some ⟨gK, 0, none⟩) c.zs.length c.zs.length)).setCell ⟨w.heap.size + 1, 7, none⟩ (.slice (some ⟨gL, 0, none⟩) c.bs.length c.bs.length)).setCell ⟨w.heap.size + 1, 8, none⟩ (.slice (some ⟨gP, 0, none⟩) c.ps.length c.ps.length)).setCell ⟨w.heap.size + 1, 9, none⟩ (.slice (some ⟨gQ, 0, none⟩) c.qs.length c.qs.length)).setCell ⟨w.heap.size + 1, 10, none⟩ (.int .i64 c.now)).setCell ⟨w.heap.size + 1, 11, none⟩ (.slice (some ⟨gM, 0, none⟩) c.ms.length c.ms.length)).setCell ⟨w.heap.size + 1, 12, none⟩ (.slice (some ⟨gF, 0, none⟩) c.fs.length c.fs.length)) (w.heap.size + 1) [.int .i64 c.n, .int .i64 c.f, .int .i64 c.p, .int .i64 c.a, .int .i64 c.l, .int .i64 c.m, .slice (some ⟨gK, 0, none⟩) c.zs.length c.zs.length, .slice (some ⟨gL, 0, none⟩) c.bs.length c.bs.length, .slice (some ⟨gP, 0, none⟩) c.ps.length c.ps.length, .slice (some ⟨gQ, 0, none⟩) c.qs.length c.qs.length, .int .i64 c.now, .slice (some ⟨gM, 0, none⟩) c.ms.length c.ms.length, .slice (some ⟨gF, 0, none⟩) c.fs.length c.fs.length] := sets_room [.int .i64 c.n, .int .i64 c.f, .int .i64 c.p, .int .i64 c.a, .int .i64 c.l, .int .i64 c.m, .slice (some ⟨gK, 0, none⟩) c.zs.length c.zs.length, .slice (some ⟨gL, 0, none⟩) c.bs.length c.bs.length, .slice (some ⟨gP, 0, none⟩) c.ps.length c.ps.length, .slice (some ⟨gQ, 0, none⟩) c.qs.length c.qs.length, .int .i64 c.now, .slice (some ⟨gM, 0, none⟩) c.ms.length c.ms.length, .slice (some ⟨gF, 0, none⟩) c.fs.length c.fs.length] 0 w3 [] [.int .i64 0, .int .i64 0, .int .i64 0, .int .i64 0, .int .i64 0, .int .i64 0, .slice none 0 0, .slice none 0 0, .slice none 0 0, .slice none 0 0, .int .i64 0, .slice none 0 0, .slice none 0 0] TC2.R rfl rfl
  have MZ : Mid (w.heap.size + 1) (w.heap.size + 1 + 1) w3 (((((((((((((w3.setCell ⟨w.heap.size + 1, 0, none⟩ (.int .i64 c.n)).setCell ⟨w.heap.size + 1, 1, none⟩ (.int .i64 c.f)).setCell ⟨w.heap.size + 1, 2, none⟩ (.int .i64 c.p)).setCell ⟨w.heap.size + 1, 3, none⟩ (.int .i64 c.a)).setCell ⟨w.heap.size + 1, 4, none⟩ (.int .i64 c.l)).setCell ⟨w.heap.size + 1, 5, none⟩ (.int .i64 c.m)).setCell ⟨w.heap.size + 1, 6, none⟩ (.slice (some ⟨gK, 0, none⟩) c.zs.length c.zs.length)).setCell ⟨w.heap.size + 1, 7, none⟩ (.slice (some ⟨gL, 0, none⟩) c.bs.length c.bs.length)).setCell ⟨w.heap.size + 1, 8, none⟩ (.slice (some ⟨gP, 0, none⟩) c.ps.length c.ps.length)).setCell ⟨w.heap.size + 1, 9, none⟩ (.slice (some ⟨gQ, 0, none⟩) c.qs.length c.qs.length)).setCell ⟨w.heap.size + 1, 10, none⟩ (.int .i64 c.now)).setCell ⟨w.heap.size + 1, 11, none⟩ (.slice (some ⟨gM, 0, none⟩) c.ms.length c.ms.length)).setCell ⟨w.heap.size + 1, 12, none⟩ (.slice (some ⟨gF, 0, none⟩) c.fs.length c.fs.length)) := sets_mid (w.heap.size + 1) [.int .i64 c.n, .int .i64 c.f, .int .i64 c.p, .int .i64 c.a, .int .i64 c.l, .int .i64 c.m, .slice (some ⟨gK, 0, none⟩) c.zs.length c.zs.length, .slice (some ⟨gL, 0, none⟩) c.bs.length c.bs.length, .slice (some ⟨gP, 0, none⟩) c.ps.length c.ps.length, .slice (some ⟨gQ, 0, none⟩) c.qs.length c.qs.length, .int .i64 c.now, .slice (some ⟨gM, 0, none⟩) c.ms.length c.ms.length, .slice (some ⟨gF, 0, none⟩) c.fs.length c.fs.length] 0 w3
  generalize (((((((((((((w3.setCell ⟨w.heap.size + 1, 0, none⟩ (.int .i64 c.n)).setCell ⟨w.heap.size + 1, 1, none⟩ (.int .i64 c.f)).setCell ⟨w.heap.size + 1, 2, none⟩ (.int .i64 c.p)).setCell ⟨w.heap.size + 1, 3, none⟩ (.int .i64 c.a)).setCell ⟨w.heap.size + 1, 4, none⟩ (.int .i64 c.l)).setCell ⟨w.heap.size + 1, 5, none⟩ (.int .i64 c.m)).setCell ⟨w.heap.size + 1, 6, none⟩ (.slice (some ⟨gK, 0, none⟩) c.zs.length c.zs.length)).setCell ⟨w.heap.size + 1, 7, none⟩ (.slice (some ⟨gL, 0, none⟩) c.bs.length c.bs.length)).setCell ⟨w.heap.size + 1, 8, none⟩ (.slice (some ⟨gP, 0, none⟩) c.ps.length c.ps.length)).setCell ⟨w.heap.size + 1, 9, none⟩ (.slice (some ⟨gQ, 0, none⟩) c.qs.length c.qs.length)).setCell ⟨w.heap.size + 1, 10, none⟩ (.int .i64 c.now)).setCell ⟨w.heap.size + 1, 11, none⟩ (.slice (some ⟨gM, 0, none⟩) c.ms.length c.ms.length)).setCell ⟨w.heap.size + 1, 12, none⟩ (.slice (some ⟨gF, 0, none⟩) c.fs.length c.fs.length)) = w4 at RZ MZ ⊢
  refine bodyPost_ret (v := .agg #[.int .i64 c.n, .int .i64 c.f, .int .i64 c.p, .int .i64 c.a, .int .i64 c.l, .int .i64 c.m, .slice (some ⟨gK, 0, none⟩) c.zs.length c.zs.length, .slice (some ⟨gL, 0, none⟩) c.bs.length c.bs.length, .slice (some ⟨gP, 0, none⟩) c.ps.length c.ps.length, .slice (some ⟨gQ, 0, none⟩) c.qs.length c.qs.length, .int .i64 c.now, .slice (some ⟨gM, 0, none⟩) c.ms.length c.ms.length, .slice (some ⟨gF, 0, none⟩) c.fs.length c.fs.length]) (ret13 Tryz.results20 rfl RZ) rfl ⟨⟨_, _, _, _, _, _, _, _, rfl, TC2.O.mid MZ (by omega)⟩, TC2.B.trans (MZ.below (by omega) (by have := TC2.z; omega))⟩

end Go.Proofs.YtimakfokgcnklaaGreat.Cd
