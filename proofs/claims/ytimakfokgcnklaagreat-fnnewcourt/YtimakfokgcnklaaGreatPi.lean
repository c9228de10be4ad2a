/-
  A court's nodes as values of an interface (impl.peersIn), those that do not lie (impl.bareHonest).
-/
import Derived.Test.YtimakfokgcnklaaGreatCs5
namespace Go.Proofs.YtimakfokgcnklaaGreat.Mi
open Go.ChangeShapes Go.WideShapes Go.ChangeAt Go.RowKit
open Ls (el Row)
open Rm (Room)
open Rd (Flags)
open Ow (ints Own)
open Sb (S3 es es_ext fl sl Row3 SHas)
open Ns
open Sl (KO lk_yes lk_no)
open Sp (LK retb reti)
open Cd
set_option linter.unusedVariables false
set_option linter.unusedSimpArgs false

def pty (b : Bool) : TypeId := if b then 121 else 120
abbrev pag (p : PD) (a : Option Addr) (cp : Nat) : Value := .agg #[.int .i64 p.1, .int .i64 p.2.1, .bool p.2.2.1, .slice a p.2.2.2.length cp]
/-- A node's value. -/
abbrev pv (b : Bool) (p : PD) (a : Option Addr) (cp : Nat) : Value := .iface (pty b) (pag p a cp)
theorem infoI : (Tryz.prog.info? 82).map (fun i => (i.zero, i.size, i.bytes)) = some (some .nilIface, 1, 16) := by kernel_rfl
def zci (n : Nat) : List Value := (madeCells #[.nilIface] (n * 1)).toList
theorem zci_len (n : Nat) : (zci n).length = n := by simp [zci, size_madeCells]
theorem run_makei (n : Nat) (hn : n ≤ 1048576) (w : World) : (Instr.makeSlice 83 (.int .i64 (n : Int)) (.int .i64 (n : Int))).run Tryz.prog w = .ok (.slice (some ⟨w.heap.size, 0, none⟩) n n) (w.alloc (.cells (zci n).toArray 82)) := by
  obtain ⟨i, hi, hzz⟩ := Option.map_eq_some_iff.1 infoI
  simp only [Prod.mk.injEq] at hzz
  obtain ⟨hz, hs, hb⟩ := hzz
  have h := run_make (P := Tryz.prog) w 83 82 i _ Tryz.underlying83 hi hz .i64 .i64 (n : Int) (n : Int) (by omega) (by omega) (by rw [hb]; omega) (by omega)
  simp only [Int.toNat_natCast, hs] at h
  rw [h]
  rfl

/-- The first k nodes' values are made. -/
structure IfUp (w0 wr : World) (g : Nat) (bs : List Bool) (ps : List PD) (vs : List Value) (k : Nat) : Prop where
  R : Room wr g vs
  L : vs.length = bs.length
  z : w0.heap.size ≤ g ∧ g < wr.heap.size
  T : ∀ j, j < k → ∃ aS cS, vs[j]? = some (pv (bs.getD j false) (pd ps j) aS cS) ∧ Row3 w0 w0.heap.size aS (pd ps j).2.2.2.length (pd ps j).2.2.2
theorem IfUp.next {w0 wr : World} {g : Nat} {bs : List Bool} {ps : List PD} {vs : List Value} {k : Nat} (h : IfUp w0 wr g bs ps vs k) (hk : k < bs.length) {aS : Option Addr} {cS : Nat} (hr : Row3 w0 w0.heap.size aS (pd ps k).2.2.2.length (pd ps k).2.2.2) :
    IfUp w0 (wr.setCell ⟨g, k, none⟩ (pv (bs.getD k false) (pd ps k) aS cS)) g bs ps (vs.set k (pv (bs.getD k false) (pd ps k) aS cS)) (k + 1) := by
  have hl := h.L
  refine ⟨h.R.set _ _, by simpa using h.L, ⟨h.z.1, by simpa using h.z.2⟩, fun j hj => ?_⟩
  by_cases e : j = k
  · subst e
    exact ⟨aS, cS, by rw [List.getElem?_set_self (by omega)], hr⟩
  · obtain ⟨a2, c2, q1, q2⟩ := h.T j (by omega)
    exact ⟨a2, c2, by rw [List.getElem?_set_ne (by omega)]; exact q1, q2⟩
/-- All are. -/
def IfAt (w : World) (B g : Nat) (bs : List Bool) (ps : List PD) : Prop := g < B ∧ ∀ j, j < bs.length → ∃ aS cS, w.cell? ⟨g, j, none⟩ = some (pv (bs.getD j false) (pd ps j) aS cS) ∧ Row3 w B aS (pd ps j).2.2.2.length (pd ps j).2.2.2
theorem IfAt.below {w w' : World} {g : Nat} {bs : List Bool} {ps : List PD} (h : IfAt w w.heap.size g bs ps) (b : Below w.heap.size w w') : IfAt w' w'.heap.size g bs ps := by
  refine ⟨by have := h.1; have := b.size; omega, fun j hj => ?_⟩
  obtain ⟨a, c, q1, q2⟩ := h.2 j hj
  exact ⟨a, c, (b.cell (p := ⟨g, j, none⟩) h.1).trans q1, q2.below b⟩
theorem IfUp.at {w0 wr : World} {g : Nat} {bs : List Bool} {ps : List PD} {vs : List Value} (h : IfUp w0 wr g bs ps vs bs.length) (b : Below w0.heap.size w0 wr) : IfAt wr wr.heap.size g bs ps := by
  refine ⟨h.z.2, fun j hj => ?_⟩
  obtain ⟨a, c, q1, q2⟩ := h.T j hj
  exact ⟨a, c, h.R.cell _ q1, q2.below b⟩

set_option maxHeartbeats 4000000 in
theorem i_peersIn (c : CD) (aK aL aP aQ aM aF : Option Addr) (cK cL cP cQ cM cF : Nat) (w : World) (hA : c.At w aK aL aP aQ aM aF) (hbl : c.bs.length ≤ 1048576) (hpl : c.ps.length = c.bs.length) :
    Calls Tryz.prog 50 #[.agg #[.int .i64 c.n, .int .i64 c.f, .int .i64 c.p, .int .i64 c.a, .int .i64 c.l, .int .i64 c.m, .slice aK c.zs.length cK, .slice aL c.bs.length cL, .slice aP c.ps.length cP, .slice aQ c.qs.length cQ, .int .i64 c.now, .slice aM c.ms.length cM, .slice aF c.fs.length cF]] w fun e w' => (∃ g, e = .returned (.slice (some ⟨g, 0, none⟩) c.bs.length c.bs.length) ∧ IfAt w' w'.heap.size g c.bs c.ps ∧ w.heap.size ≤ g) ∧ Below w.heap.size w w' := by
  have hmk := run_makei c.bs.length hbl
  have HPL : Hid (c.ps.length = c.bs.length) := hpl
  clear hpl
  have PX : Kb c aK aL aP aQ aM aF w (w.alloc (.cells #[.int .i64 c.n, .int .i64 c.f, .int .i64 c.p, .int .i64 c.a, .int .i64 c.l, .int .i64 c.m, .slice aK c.zs.length cK, .slice aL c.bs.length cL, .slice aP c.ps.length cP, .slice aQ c.qs.length cQ, .int .i64 c.now, .slice aM c.ms.length cM, .slice aF c.fs.length cF] 35)) [.int .i64 c.n, .int .i64 c.f, .int .i64 c.p, .int .i64 c.a, .int .i64 c.l, .int .i64 c.m, .slice aK c.zs.length cK, .slice aL c.bs.length cL, .slice aP c.ps.length cP, .slice aQ c.qs.length cQ, .int .i64 c.now, .slice aM c.ms.length cM, .slice aF c.fs.length cF] := ⟨(Below.refl _ _).alloc (Nat.le_refl _) _, Room.new w [.int .i64 c.n, .int .i64 c.f, .int .i64 c.p, .int .i64 c.a, .int .i64 c.l, .int .i64 c.m, .slice aK c.zs.length cK, .slice aL c.bs.length cL, .slice aP c.ps.length cP, .slice aQ c.qs.length cQ, .int .i64 c.now, .slice aM c.ms.length cM, .slice aF c.fs.length cF] 35, hA.below ((Below.refl _ _).alloc (Nat.le_refl _) _)⟩
  have k7 := PX.X.cell 7 rfl
  go_enter Tryz.func50, Tryz.ntmps50
  go_wp2_with fail
  have PY := PX.below ((Below.refl _ _).alloc (Nat.le_refl _) (.cells (zci c.bs.length).toArray 82))
  have U0 : Hid (∃ vs, IfUp w ((w.alloc (.cells #[.int .i64 c.n, .int .i64 c.f, .int .i64 c.p, .int .i64 c.a, .int .i64 c.l, .int .i64 c.m, .slice aK c.zs.length cK, .slice aL c.bs.length cL, .slice aP c.ps.length cP, .slice aQ c.qs.length cQ, .int .i64 c.now, .slice aM c.ms.length cM, .slice aF c.fs.length cF] 35)).alloc (.cells (zci c.bs.length).toArray 82)) (w.heap.size + 1) c.bs c.ps vs 0) := ⟨zci c.bs.length, Room.at _ _ _ _ (by simp), zci_len _, ⟨by omega, by simp⟩, fun j hj => by omega⟩
  generalize (w.alloc (.cells #[.int .i64 c.n, .int .i64 c.f, .int .i64 c.p, .int .i64 c.a, .int .i64 c.l, .int .i64 c.m, .slice aK c.zs.length cK, .slice aL c.bs.length cL, .slice aP c.ps.length cP, .slice aQ c.qs.length cQ, .int .i64 c.now, .slice aM c.ms.length cM, .slice aF c.fs.length cF] 35)).alloc (.cells (zci c.bs.length).toArray 82) = w1 at PY U0 ⊢
  clear PX hmk
  have k7 := PY.X.cell 7 rfl
  go_loopw [13] (fun i wr => ∃ k : Nat, k ≤ c.bs.length ∧ i = .int .i64 k ∧ Hid (Kb c aK aL aP aQ aM aF w wr [.int .i64 c.n, .int .i64 c.f, .int .i64 c.p, .int .i64 c.a, .int .i64 c.l, .int .i64 c.m, .slice aK c.zs.length cK, .slice aL c.bs.length cL, .slice aP c.ps.length cP, .slice aQ c.qs.length cQ, .int .i64 c.now, .slice aM c.ms.length cM, .slice aF c.fs.length cF] ∧ ∃ vs, IfUp w wr (w.heap.size + 1) c.bs c.ps vs k)) (fun i _ => c.bs.length - (intOf i).toNat)
  case atStart => exact ⟨0, Nat.zero_le _, rfl, ⟨PY, U0.out⟩⟩
  case round =>
    clear PY U0 k7
    obtain ⟨k, hk, rfl, HH⟩ := hrel
    have PX := HH.out.1
    have k7 := PX.X.cell 7 rfl
    have k8 := PX.X.cell 8 rfl
    by_cases hlt : k < c.bs.length
    · have hi : (k : Int) < (c.bs.length : Int) := by omega
      have hip2 : k < c.ps.length := by have := HPL.out; omega
      have hip : (k : Int) < (c.ps.length : Int) := by omega
      obtain ⟨vs, hU⟩ := HH.out.2
      have HU : Hid (IfUp w wr (w.heap.size + 1) c.bs c.ps vs k) := hU
      have hvl := hU.L
      obtain ⟨_, hz0 | ⟨bL, oL, rfl, hbL, hcL⟩⟩ := hA.L
      · omega
      have e0 := (PX.B.cell (p := ⟨bL, oL + k, none⟩) hbL).trans (hcL k hlt)
      clear hcL
      obtain ⟨_, hz0 | ⟨b, off, rfl, hb, hq⟩⟩ := hA.P
      · omega
      obtain ⟨aS, cS, ⟨q0, q1, q2, q3⟩, hR⟩ := hq k hip2
      have p0 := (PX.B.cell (p := ⟨b, off + k * 4, none⟩) hb).trans q0
      have p1 := (PX.B.cell (p := ⟨b, off + k * 4 + 1, none⟩) hb).trans q1
      have p2 := (PX.B.cell (p := ⟨b, off + k * 4 + 2, none⟩) hb).trans q2
      have p3 := (PX.B.cell (p := ⟨b, off + k * 4 + 3, none⟩) hb).trans q3
      clear q0 q1 q2 q3 hq
      obtain ⟨v0, hv0⟩ : ∃ v, vs[k]? = some v := ⟨_, List.getElem?_eq_getElem (by omega)⟩
      have x0 := hU.R.cell _ hv0
      have y0 := hU.R.froz _ hv0
      clear hv0
      have hg := hU.z.2
      clear hU hvl
      have PZ : Kb c aK (some ⟨bL, oL, none⟩) (some ⟨b, off, none⟩) aQ aM aF w (wr.setCell ⟨w.heap.size + 1, k, none⟩ (pv (c.bs.getD k false) (pd c.ps k) aS cS)) [.int .i64 c.n, .int .i64 c.f, .int .i64 c.p, .int .i64 c.a, .int .i64 c.l, .int .i64 c.m, .slice aK c.zs.length cK, .slice (some ⟨bL, oL, none⟩) c.bs.length cL, .slice (some ⟨b, off, none⟩) c.ps.length cP, .slice aQ c.qs.length cQ, .int .i64 c.now, .slice aM c.ms.length cM, .slice aF c.fs.length cF] := PX.of_mid (Mid.set wr (w.heap.size + 1) k _) (by omega) hA (by simp)
      have HN : Hid (∃ vs, IfUp w (wr.setCell ⟨w.heap.size + 1, k, none⟩ (pv (c.bs.getD k false) (pd c.ps k) aS cS)) (w.heap.size + 1) c.bs c.ps vs (k + 1)) := ⟨_, HU.out.next hlt hR⟩
      have sz := PX.X.lt (by simp)
      clear PX HH hR
      cases hbk : c.bs.getD k false with
      | true =>
        rw [hbk] at e0 HN PZ
        clear hbk
        go_wp2
        go_roundw
        case rel => exact ⟨k + 1, by omega, by go_num, ⟨PZ, HN.out⟩⟩
        case measure => simp [intOf]; omega
      | false =>
        rw [hbk] at e0 HN PZ
        clear hbk
        go_wp2
        go_roundw
        case rel => exact ⟨k + 1, by omega, by go_num, ⟨PZ, HN.out⟩⟩
        case measure => simp [intOf]; omega
    · have hi : ¬ (k : Int) < (c.bs.length : Int) := by omega
      obtain rfl : k = c.bs.length := by omega
      obtain ⟨vs, hU⟩ := HH.out.2
      go_wp2
      go_ret
      exact ⟨⟨_, rfl, hU.at PX.B, by omega⟩, PX.B⟩

/-- Each value's own type is known. -/
def TyAt (w : World) (g : Nat) (bs : List Bool) : Prop := ∀ j, j < bs.length → ∃ x, w.cell? ⟨g, j, none⟩ = some (.iface (pty (bs.getD j false)) (.agg x))
theorem IfAt.ty {w : World} {B g : Nat} {bs : List Bool} {ps : List PD} (h : IfAt w B g bs ps) : TyAt w g bs := fun j hj => by
  obtain ⟨a, c, q, _⟩ := h.2 j hj
  exact ⟨_, q⟩
theorem TyAt.alloc {w : World} {g : Nat} {bs : List Bool} (h : TyAt w g bs) (hg : g < w.heap.size) (o : Obj) : TyAt (w.alloc o) g bs := fun j hj => by
  obtain ⟨x, q⟩ := h j hj
  exact ⟨x, (((Below.refl _ w).alloc (Nat.le_refl _) o).cell (p := ⟨g, j, none⟩) hg).trans q⟩
theorem TyAt.grown {w w2 : World} {g m : Nat} {bs : List Bool} (h : TyAt w g bs) (hg : g < w.heap.size) (q : w.grownBy w2 (some m)) (hm : g ≠ m) : TyAt w2 g bs := fun j hj => by
  obtain ⟨x, e⟩ := h j hj
  exact ⟨x, (World.cell?_of_block (a := ⟨g, j, none⟩) (q.block g hg (by simpa using hm))).trans e⟩
theorem ta_no (x : Array Value) (w : World) : (Instr.typeAssert (.iface 121 (.agg x)) 82 120 true).run Tryz.prog w = .ok (.tuple #[.agg #[.int .i64 0, .int .i64 0, .bool false, .slice none 0 0], .bool false]) w := by kernel_rfl
theorem ta_l (x : Array Value) (w : World) : (Instr.typeAssert (.iface 121 (.agg x)) 82 121 true).run Tryz.prog w = .ok (.tuple #[.agg x, .bool true]) w := by kernel_rfl
theorem ta_h (x : Array Value) (w : World) : (Instr.typeAssert (.iface 120 (.agg x)) 82 120 true).run Tryz.prog w = .ok (.tuple #[.agg x, .bool true]) w := by kernel_rfl

set_option maxHeartbeats 4000000 in
theorem i_bareHonest (c : CD) (aK aL aP aQ aM aF : Option Addr) (cK cL cP cQ cM cF : Nat) (w : World) (hA : c.At w aK aL aP aQ aM aF) (hbl : c.bs.length ≤ 1048576) (hpl : c.ps.length = c.bs.length) :
    Calls Tryz.prog 49 #[.agg #[.int .i64 c.n, .int .i64 c.f, .int .i64 c.p, .int .i64 c.a, .int .i64 c.l, .int .i64 c.m, .slice aK c.zs.length cK, .slice aL c.bs.length cL, .slice aP c.ps.length cP, .slice aQ c.qs.length cQ, .int .i64 c.now, .slice aM c.ms.length cM, .slice aF c.fs.length cF]] w fun e w' => (∃ g cap, e = .returned (.slice (some ⟨g, 0, none⟩) (HN c.bs c.bs.length).length cap) ∧ Own w' w.heap.size g (HN c.bs c.bs.length).length cap (HN c.bs c.bs.length)) ∧ Below w.heap.size w w' := by
  obtain ⟨i0, hi0, hz0, hz1, hz2⟩ := info_parts Ls.info
  have HPL : Hid (c.ps.length = c.bs.length) := hpl
  clear hpl
  have PX : Kb c aK aL aP aQ aM aF w (w.alloc (.cells #[.int .i64 c.n, .int .i64 c.f, .int .i64 c.p, .int .i64 c.a, .int .i64 c.l, .int .i64 c.m, .slice aK c.zs.length cK, .slice aL c.bs.length cL, .slice aP c.ps.length cP, .slice aQ c.qs.length cQ, .int .i64 c.now, .slice aM c.ms.length cM, .slice aF c.fs.length cF] 35)) [.int .i64 c.n, .int .i64 c.f, .int .i64 c.p, .int .i64 c.a, .int .i64 c.l, .int .i64 c.m, .slice aK c.zs.length cK, .slice aL c.bs.length cL, .slice aP c.ps.length cP, .slice aQ c.qs.length cQ, .int .i64 c.now, .slice aM c.ms.length cM, .slice aF c.fs.length cF] := ⟨(Below.refl _ _).alloc (Nat.le_refl _) _, Room.new w [.int .i64 c.n, .int .i64 c.f, .int .i64 c.p, .int .i64 c.a, .int .i64 c.l, .int .i64 c.m, .slice aK c.zs.length cK, .slice aL c.bs.length cL, .slice aP c.ps.length cP, .slice aQ c.qs.length cQ, .int .i64 c.now, .slice aM c.ms.length cM, .slice aF c.fs.length cF] 35, hA.below ((Below.refl _ _).alloc (Nat.le_refl _) _)⟩
  have k0 := PX.X.cell 0 rfl
  have k1 := PX.X.cell 1 rfl
  have k2 := PX.X.cell 2 rfl
  have k3 := PX.X.cell 3 rfl
  have k4 := PX.X.cell 4 rfl
  have k5 := PX.X.cell 5 rfl
  have k6 := PX.X.cell 6 rfl
  have k7 := PX.X.cell 7 rfl
  have k8 := PX.X.cell 8 rfl
  have k9 := PX.X.cell 9 rfl
  have k10 := PX.X.cell 10 rfl
  have k11 := PX.X.cell 11 rfl
  have k12 := PX.X.cell 12 rfl
  go_enter Tryz.func49, Tryz.ntmps49
  go_wp2_with fail
  have O1 : Own ((w.alloc (.cells #[.int .i64 c.n, .int .i64 c.f, .int .i64 c.p, .int .i64 c.a, .int .i64 c.l, .int .i64 c.m, .slice aK c.zs.length cK, .slice aL c.bs.length cL, .slice aP c.ps.length cP, .slice aQ c.qs.length cQ, .int .i64 c.now, .slice aM c.ms.length cM, .slice aF c.fs.length cF] 35)).alloc (.cells #[] 2)) (w.heap.size + 1) (w.heap.size + 1) 0 0 (HN c.bs 0) := by
    have q := World.ownsRow_made (base := w.heap.size + 1) (e := 2) (size := 1) (w.alloc (.cells #[.int .i64 c.n, .int .i64 c.f, .int .i64 c.p, .int .i64 c.a, .int .i64 c.l, .int .i64 c.m, .slice aK c.zs.length cK, .slice aL c.bs.length cL, .slice aP c.ps.length cP, .slice aQ c.qs.length cQ, .int .i64 c.now, .slice aM c.ms.length cM, .slice aF c.fs.length cF] 35)) #[] 0 (by simp) (by unfold maxLen; omega) rfl
    rw [World.size_alloc] at q
    exact q
  have PY := PX.below ((Below.refl _ _).alloc (Nat.le_refl _) (.cells #[] 2))
  clear PX k0 k1 k2 k3 k4 k5 k6 k7 k8 k9 k10 k11 k12
  generalize (w.alloc (.cells #[.int .i64 c.n, .int .i64 c.f, .int .i64 c.p, .int .i64 c.a, .int .i64 c.l, .int .i64 c.m, .slice aK c.zs.length cK, .slice aL c.bs.length cL, .slice aP c.ps.length cP, .slice aQ c.qs.length cQ, .int .i64 c.now, .slice aM c.ms.length cM, .slice aF c.fs.length cF] 35)).alloc (.cells #[] 2) = w1 at PY O1 ⊢
  refine (i_peersIn c _ _ _ _ _ _ _ _ _ _ _ _ _ PY.A hbl HPL.out).mono ?_
  rintro e w2 ⟨⟨gp, rfl, hI, hgp⟩, b2⟩
  have O2 := O1.later b2 O1.lt
  have hlt1 := O1.lt
  replace PY := PY.below b2
  have hT : Hid (TyAt w2 gp c.bs) := hI.ty
  have hgz := hI.1
  clear hI b2 O1
  have hgn : w.heap.size + 1 ≠ gp := by omega
  have hgl : w.heap.size < gp := by omega
  clear hlt1
  go_wp2
  go_loopw [3, 10] (fun v q wr => ∃ (k g m cap : Nat), k ≤ c.bs.length ∧ v = .slice (some ⟨g, 0, none⟩) m cap ∧ q = .int .i64 (k : Int) ∧ Hid (Kb c aK aL aP aQ aM aF w wr [.int .i64 c.n, .int .i64 c.f, .int .i64 c.p, .int .i64 c.a, .int .i64 c.l, .int .i64 c.m, .slice aK c.zs.length cK, .slice aL c.bs.length cL, .slice aP c.ps.length cP, .slice aQ c.qs.length cQ, .int .i64 c.now, .slice aM c.ms.length cM, .slice aF c.fs.length cF] ∧ Own wr (w.heap.size + 1) g m cap (HN c.bs k) ∧ TyAt wr gp c.bs ∧ g ≠ gp ∧ gp < wr.heap.size)) (fun _ q _ => c.bs.length - (intOf q).toNat)
  case atStart => exact ⟨0, _, 0, 0, Nat.zero_le _, by simp [HN], rfl, ⟨PY, O2, hT.out, hgn, hgz⟩⟩
  case round =>
    clear PY O2 hT hgn hgz
    obtain ⟨k, g, m, cap, hk, rfl, rfl, HH⟩ := hrel
    have hml : m ≤ k := by have := hn_len c.bs k; have := HH.out.2.1.data.1; omega
    have hgB := HH.out.2.1.data.2.1
    by_cases hlt : k < c.bs.length
    · have hi : (k : Int) < (c.bs.length : Int) := by omega
      obtain ⟨x, e0⟩ := HH.out.2.2.1 k hlt
      have HP : Hid (Kb c aK aL aP aQ aM aF w wr [.int .i64 c.n, .int .i64 c.f, .int .i64 c.p, .int .i64 c.a, .int .i64 c.l, .int .i64 c.m, .slice aK c.zs.length cK, .slice aL c.bs.length cL, .slice aP c.ps.length cP, .slice aQ c.qs.length cQ, .int .i64 c.now, .slice aM c.ms.length cM, .slice aF c.fs.length cF]) := HH.out.1
      have szw := HH.out.1.X.lt (by simp)
      cases hbk : c.bs.getD k false with
      | true =>
        have HL : Hid (HN c.bs (k + 1) = HN c.bs k) := hn_lie hbk
        rw [hbk] at e0
        have e1 : wr.cell? ⟨gp, k, none⟩ = some (.iface 121 (.agg x)) := e0
        clear hbk e0
        have t1 := ta_no x
        have t2 := ta_l x
        go_wp2
        go_roundw
        case rel => exact ⟨k + 1, g, m, cap, by omega, rfl, by go_num, ⟨HP.out, by rw [HL.out]; exact HH.out.2.1, HH.out.2.2⟩⟩
        case measure => simp [intOf]; omega
      | false =>
        have HL : Hid (HN c.bs (k + 1) = HN c.bs k ++ [(k : Int)]) := hn_not hbk
        rw [hbk] at e0
        have e1 : wr.cell? ⟨gp, k, none⟩ = some (.iface 120 (.agg x)) := e0
        clear hbk e0
        have t1 := ta_h x
        have HO : Hid (Own wr (w.heap.size + 1) g m cap (HN c.bs k)) := HH.out.2.1
        have HT : Hid (TyAt wr gp c.bs ∧ g ≠ gp ∧ gp < wr.heap.size) := HH.out.2.2
        clear HH
        go_wp2_with (at_builtin; refine wpList_append_own_at _ rfl (.tmp 19) (.tmp 21) 26 rfl (w.heap.size + 1) 2 i0 (.int .i64 0) 1 8 Tryz.underlying26 hi0 hz0 hz1 hz2 rfl (by decide) _ _ _ rfl (World.ownsRow.alloc (w := wr) HO.out _) ⟨wr.heap.size, 0, none⟩ 1 1 (ints [(k : Int)]) rfl rfl (one_newI wr (k : Int) _ _ rfl) (Ow.one _) (by unfold maxLen; omega) (by omega) (by simp; omega) ?_; intro v2 w2 hx2 hg2 hn2 ha2)
        obtain ⟨g2, c2, rfl, ho2, hat⟩ := Ow.more_at hx2 (no_nilI hn2 rfl) ha2
        have PZ := HP.out.grow hg2 hgB (by simp) hA
        have hg3 : g2 ≠ gp := hat.elim (fun h => by have h2 : g2 = g := h; rw [h2]; exact HT.out.2.1) (fun h => by have := HT.out.2.2; omega)
        have TZ : Hid (TyAt w2 gp c.bs) := (HT.out.1.alloc HT.out.2.2 _).grown (by have := HT.out.2.2; simp; omega) hg2 (fun e => HT.out.2.1 e.symm)
        have hgz2 : gp < w2.heap.size := by have q := hg2.size; rw [World.size_alloc] at q; have := HT.out.2.2; omega
        clear hx2 hg2 hn2 ha2 hat HP HO HT e1
        go_roundw
        case rel => exact ⟨k + 1, g2, m + 1, c2, by omega, rfl, by go_num, ⟨PZ, by rw [HL.out]; exact ho2, TZ.out, hg3, hgz2⟩⟩
        case measure => simp [intOf]; omega
    · have hi : ¬ (k : Int) < (c.bs.length : Int) := by omega
      obtain rfl : k = c.bs.length := by omega
      have e : m = (HN c.bs c.bs.length).length := HH.out.2.1.data.1.symm
      subst e
      go_wp2
      go_ret
      exact ⟨⟨g, cap, rfl, HH.out.2.1.mono (by omega)⟩, HH.out.1.B⟩

end Go.Proofs.YtimakfokgcnklaaGreat.Mi
