/-
  What a node's clock shows, who does not lie (spec.ReadingOf, spec.HonestIn), at whatever court.
-/
import Derived.Test.YtimakfokgcnklaaGreatCs4
import Derived.Test.YtimakfokgcnklaaGreatDg
namespace Go.Proofs.YtimakfokgcnklaaGreat.Cd
open Go.ChangeShapes Go.WideShapes Go.ChangeAt Go.RowKit
open Ls (el Row)
open Rm (Room)
open Rd (Flags)
open Ow (ints Own)
open Sb (S3 es es_ext fl sl Row3 SHas)
open Ns
open Sl (KO lk_yes lk_no)
open Sp (LK retb reti)
set_option linter.unusedVariables false
set_option linter.unusedSimpArgs false

/-- There is a reading. -/
def RG (c : CD) (x : Int) : Bool := CO c && decide (0 ≤ x ∧ x < (c.ps.length : Int))
def RW (c : CD) (x : Int) : Int := if RG c x = true then c.now + (pd c.ps x.toNat).1 else 0
theorem rg_no {c : CD} {x : Int} (h : RG c x = false) : Ending.returned (.tuple #[.int .i64 0, .bool false]) = .returned (.tuple #[.int .i64 (RW c x), .bool (RG c x)]) := by unfold RW; rw [h]; rfl
theorem rg_yes {c : CD} {j : Nat} (h : CO c = true) (hj : j < c.ps.length) : RG c (j : Int) = true ∧ RW c (j : Int) = c.now + (pd c.ps j).1 := by
  have e : RG c (j : Int) = true := by unfold RG; rw [h, decide_eq_true ⟨by omega, by omega⟩]; rfl
  exact ⟨e, by unfold RW; rw [if_pos e, Int.toNat_natCast]⟩
theorem co_of {c : CD} (h : CO c = true) : C1 c ∧ C2 c ∧ C3 c c.ps.length ∧ C4 c c.qs.length ∧ C5 c c.fs.length := of_decide_eq_true h
theorem pk_bd {zs : List Int} {p : PD} (h : PK zs p = true) : (-1000000000000000 ≤ p.1 ∧ p.1 ≤ 1000000000000000) ∧ (1 ≤ p.2.1 ∧ p.2.1 ≤ 1000) := by
  unfold PK at h
  rw [Bool.and_eq_true, Bool.and_eq_true] at h
  exact ⟨of_decide_eq_true h.1.1, of_decide_eq_true h.1.2⟩

set_option maxHeartbeats 4000000 in
theorem readingS (c : CD) (aK aL aP aQ aM aF : Option Addr) (cK cL cP cQ cM cF : Nat) (x : Int) (w : World) (hA : c.At w aK aL aP aQ aM aF) (hz : c.Sm) :
    Calls Tryz.prog 31 #[.agg #[.int .i64 c.n, .int .i64 c.f, .int .i64 c.p, .int .i64 c.a, .int .i64 c.l, .int .i64 c.m, .slice aK c.zs.length cK, .slice aL c.bs.length cL, .slice aP c.ps.length cP, .slice aQ c.qs.length cQ, .int .i64 c.now, .slice aM c.ms.length cM, .slice aF c.fs.length cF], .int .i64 x] w fun e w' => e = .returned (.tuple #[.int .i64 (RW c x), .bool (RG c x)]) ∧ Below w.heap.size w w' := by
  have PX : Kb c aK aL aP aQ aM aF w (w.alloc (.cells #[.int .i64 c.n, .int .i64 c.f, .int .i64 c.p, .int .i64 c.a, .int .i64 c.l, .int .i64 c.m, .slice aK c.zs.length cK, .slice aL c.bs.length cL, .slice aP c.ps.length cP, .slice aQ c.qs.length cQ, .int .i64 c.now, .slice aM c.ms.length cM, .slice aF c.fs.length cF] 35)) [.int .i64 c.n, .int .i64 c.f, .int .i64 c.p, .int .i64 c.a, .int .i64 c.l, .int .i64 c.m, .slice aK c.zs.length cK, .slice aL c.bs.length cL, .slice aP c.ps.length cP, .slice aQ c.qs.length cQ, .int .i64 c.now, .slice aM c.ms.length cM, .slice aF c.fs.length cF] := ⟨(Below.refl _ _).alloc (Nat.le_refl _) _, Room.new w [.int .i64 c.n, .int .i64 c.f, .int .i64 c.p, .int .i64 c.a, .int .i64 c.l, .int .i64 c.m, .slice aK c.zs.length cK, .slice aL c.bs.length cL, .slice aP c.ps.length cP, .slice aQ c.qs.length cQ, .int .i64 c.now, .slice aM c.ms.length cM, .slice aF c.fs.length cF] 35, hA.below ((Below.refl _ _).alloc (Nat.le_refl _) _)⟩
  go_enter Tryz.func31, Tryz.ntmps31
  go_wp2_with fail
  generalize w.alloc (.cells #[.int .i64 c.n, .int .i64 c.f, .int .i64 c.p, .int .i64 c.a, .int .i64 c.l, .int .i64 c.m, .slice aK c.zs.length cK, .slice aL c.bs.length cL, .slice aP c.ps.length cP, .slice aQ c.qs.length cQ, .int .i64 c.now, .slice aM c.ms.length cM, .slice aF c.fs.length cF] 35) = w1 at PX ⊢
  refine (courtS c _ _ _ _ _ _ _ _ _ _ _ _ _ PX.A hz).mono ?_
  rintro e w2 ⟨rfl, b2⟩
  replace PX := PX.below b2
  clear b2
  cases hc : CO c with
  | false =>
    have HV : Hid (RG c x = false) := by show RG c x = false; unfold RG; rw [hc]; rfl
    clear hc
    go_wp2
    go_ret2
    exact ⟨rg_no HV.out, PX.B⟩
  | true =>
    have HCO : Hid (CO c = true) := hc
    clear hc
    have k8 := PX.X.cell 8 rfl
    have k10 := PX.X.cell 10 rfl
    have hpl : c.ps.length ≤ 16 := by have q := (co_of HCO.out).1; have := (Sl.ko_of q.2.1).1; have := q.2.2.2.2.1; omega
    have hw1 : IntKind.i64.wrap ((c.ps.length : Int) - 1) = (c.ps.length : Int) - 1 := by rw [IntKind.wrap_i64]; omega
    by_cases hx : 0 ≤ x ∧ x < (c.ps.length : Int)
    case neg =>
      have HV : Hid (RG c x = false) := by show RG c x = false; unfold RG; rw [decide_eq_false hx]; simp
      go_wp2_with fail
      refine (Sp.s_l1In 0 ((c.ps.length : Int) - 1) x _).mono ?_
      rintro e w3 ⟨rfl, rfl⟩
      rw [lk_no (by omega)]
      clear hx
      go_wp2
      go_ret2
      exact ⟨rg_no HV.out, PX.B⟩
    case pos =>
      obtain ⟨j, rfl⟩ : ∃ j : Nat, x = (j : Int) := ⟨x.toNat, by omega⟩
      have hj : j < c.ps.length := by omega
      have HY : Hid (RG c (j : Int) = true ∧ RW c (j : Int) = c.now + (pd c.ps j).1) := rg_yes HCO.out hj
      have hbd := (pk_bd ((co_of HCO.out).2.2.1 j hj)).1
      have hnw := (co_of HCO.out).2.1.2.1
      have hw2 : IntKind.i64.wrap (c.now + (pd c.ps j).1) = c.now + (pd c.ps j).1 := by rw [IntKind.wrap_i64]; omega
      obtain ⟨_, hz0 | ⟨b, off, rfl, hb, hq⟩⟩ := hA.P
      · omega
      obtain ⟨aS, cS, ⟨q0, _⟩, _⟩ := hq j hj
      have e0 := (PX.B.cell (p := ⟨b, off + j * 4, none⟩) hb).trans q0
      clear q0 hq hbd hnw
      have hi : (j : Int) < (c.ps.length : Int) := by omega
      go_wp2_with fail
      refine (Sp.s_l1In 0 ((c.ps.length : Int) - 1) (j : Int) _).mono ?_
      rintro e w3 ⟨rfl, rfl⟩
      rw [lk_yes (by omega)]
      go_wp2_with fail
      go_region
      go_wp2
      go_ret2
      exact ⟨by rw [HY.out.1, HY.out.2]; rfl, PX.B.drew⟩

theorem no_nilI {v v' : Value} {p : Prop} {a : Addr} {n c : Nat} (h : v' = .slice none 0 0 ↔ v = .slice none 0 0 ∧ p) (hv : v = .slice (some a) n c) : v' ≠ .slice none 0 0 := fun e => by
  have := (h.1 e).1
  rw [hv] at this
  cases this
theorem one_newI (w : World) (x : Int) (t : TypeId) (b : Nat) (hb : b = w.heap.size) : ∀ j u, (ints [x])[j]? = some u → (w.alloc (.cells #[.int .i64 x] t)).cell? ((⟨b, 0, none⟩ : Addr).add j) = some u := by
  intro j u hj
  subst hb
  match j, hj with
  | 0, hj =>
    rw [Ow.addr_add]
    simp [ints] at hj
    subst hj
    simp
  | j + 1, hj => simp [ints] at hj
/-- Those of the first k that do not lie. -/
def HN (bs : List Bool) : Nat → List Int
  | 0 => []
  | k + 1 => if bs.getD k false then HN bs k else HN bs k ++ [(k : Int)]
theorem hn_len (bs : List Bool) (k : Nat) : (HN bs k).length ≤ k := by
  induction k with
  | zero => exact Nat.le_refl _
  | succ k ih =>
    unfold HN
    split
    · omega
    · rw [List.length_append, List.length_singleton]; omega
theorem hn_lie {bs : List Bool} {k : Nat} (h : bs.getD k false = true) : HN bs (k + 1) = HN bs k := by show (if bs.getD k false then HN bs k else HN bs k ++ [(k : Int)]) = _; rw [h]; rfl
theorem hn_not {bs : List Bool} {k : Nat} (h : bs.getD k false = false) : HN bs (k + 1) = HN bs k ++ [(k : Int)] := by show (if bs.getD k false then HN bs k else HN bs k ++ [(k : Int)]) = _; rw [h]; rfl
/-- Who does not lie; nobody where the court is not right. -/
def HI (c : CD) : List Int := if CO c then HN c.bs c.bs.length else []
theorem more {w2 : World} {B k : Nat} {zs : List Int} {x : Int} {v2 : Value} (h : w2.ownsRow B 2 1 v2 (k + 1) (ints zs ++ ints [x])) (hn : v2 ≠ .slice none 0 0) :
    ∃ g2 c2, v2 = .slice (some ⟨g2, 0, none⟩) (k + 1) c2 ∧ Own w2 B g2 (k + 1) c2 (zs ++ [x]) := Ow.own_of h (by simp [ints]) hn

/-- One's own row has grown; the court's own cells lie elsewhere. -/
theorem Kb.grow {c : CD} {aK aL aP aQ aM aF : Option Addr} {w w' w2 : World} {cs : List Value} {g : Nat} {o : Obj} (h : Kb c aK aL aP aQ aM aF w w' cs) (hg : (w'.alloc o).grownBy w2 (some g)) (hB : w.heap.size < g) (hn : 0 < cs.length) (hA : c.At w aK aL aP aQ aM aF) : Kb c aK aL aP aQ aM aF w w2 cs :=
  have B2 := (h.B.alloc h.B.size o).grown hg (by have := h.B.size; simp; omega) (fun j e => by cases e; omega)
  ⟨B2, (h.X.alloc o).other hg (by omega), hA.below B2⟩

theorem Kb.of_mid {c : CD} {aK aL aP aQ aM aF : Option Addr} {w w1 w2 : World} {cs : List Value} {X Y : Nat} (h : Kb c aK aL aP aQ aM aF w w1 cs) (m : Mid X Y w1 w2) (hX : w.heap.size < X) (hA : c.At w aK aL aP aQ aM aF) (hn : 0 < cs.length := by simp) : Kb c aK aL aP aQ aM aF w w2 cs :=
  have B2 := h.B.trans (m.below (Nat.le_of_lt hX) h.B.size)
  ⟨B2, m.room h.X hn (.inl hX), hA.below B2⟩
theorem Kb.of_grown {c : CD} {aK aL aP aQ aM aF : Option Addr} {w w1 w2 : World} {cs : List Value} {g : Nat} (h : Kb c aK aL aP aQ aM aF w w1 cs) (hg : w1.grownBy w2 (some g)) (hB : w.heap.size < g) (hA : c.At w aK aL aP aQ aM aF) : Kb c aK aL aP aQ aM aF w w2 cs :=
  have B2 := h.B.grown hg h.B.size (fun j e => by cases e; omega)
  ⟨B2, h.X.other hg (by omega), hA.below B2⟩

set_option maxHeartbeats 4000000 in
theorem allS (c : CD) (aK aL aP aQ aM aF : Option Addr) (cK cL cP cQ cM cF : Nat) (w : World) (hA : c.At w aK aL aP aQ aM aF) (hz : c.Sm) (hbl : c.bs.length ≤ 1048576) :
    Calls Tryz.prog 85 #[.agg #[.int .i64 c.n, .int .i64 c.f, .int .i64 c.p, .int .i64 c.a, .int .i64 c.l, .int .i64 c.m, .slice aK c.zs.length cK, .slice aL c.bs.length cL, .slice aP c.ps.length cP, .slice aQ c.qs.length cQ, .int .i64 c.now, .slice aM c.ms.length cM, .slice aF c.fs.length cF]] w fun e w' => (∃ g cap, e = .returned (.slice (some ⟨g, 0, none⟩) (HN c.bs c.bs.length).length cap) ∧ Own w' w.heap.size g (HN c.bs c.bs.length).length cap (HN c.bs c.bs.length)) ∧ Below w.heap.size w w' := by
  obtain ⟨i0, hi0, hz0, hz1, hz2⟩ := info_parts Ls.info
  have PX : Kb c aK aL aP aQ aM aF w (w.alloc (.cells #[.int .i64 c.n, .int .i64 c.f, .int .i64 c.p, .int .i64 c.a, .int .i64 c.l, .int .i64 c.m, .slice aK c.zs.length cK, .slice aL c.bs.length cL, .slice aP c.ps.length cP, .slice aQ c.qs.length cQ, .int .i64 c.now, .slice aM c.ms.length cM, .slice aF c.fs.length cF] 35)) [.int .i64 c.n, .int .i64 c.f, .int .i64 c.p, .int .i64 c.a, .int .i64 c.l, .int .i64 c.m, .slice aK c.zs.length cK, .slice aL c.bs.length cL, .slice aP c.ps.length cP, .slice aQ c.qs.length cQ, .int .i64 c.now, .slice aM c.ms.length cM, .slice aF c.fs.length cF] := ⟨(Below.refl _ _).alloc (Nat.le_refl _) _, Room.new w [.int .i64 c.n, .int .i64 c.f, .int .i64 c.p, .int .i64 c.a, .int .i64 c.l, .int .i64 c.m, .slice aK c.zs.length cK, .slice aL c.bs.length cL, .slice aP c.ps.length cP, .slice aQ c.qs.length cQ, .int .i64 c.now, .slice aM c.ms.length cM, .slice aF c.fs.length cF] 35, hA.below ((Below.refl _ _).alloc (Nat.le_refl _) _)⟩
  have k7 := PX.X.cell 7 rfl
  go_enter Tryz.func85, Tryz.ntmps85
  go_wp2_with fail
  have O0 := World.ownsRow_made (base := w.heap.size + 1) (e := 2) (size := 1) (w.alloc (.cells #[.int .i64 c.n, .int .i64 c.f, .int .i64 c.p, .int .i64 c.a, .int .i64 c.l, .int .i64 c.m, .slice aK c.zs.length cK, .slice aL c.bs.length cL, .slice aP c.ps.length cP, .slice aQ c.qs.length cQ, .int .i64 c.now, .slice aM c.ms.length cM, .slice aF c.fs.length cF] 35)) #[] 0 (by simp) (by unfold maxLen; omega) rfl
  have O1 : Own ((w.alloc (.cells #[.int .i64 c.n, .int .i64 c.f, .int .i64 c.p, .int .i64 c.a, .int .i64 c.l, .int .i64 c.m, .slice aK c.zs.length cK, .slice aL c.bs.length cL, .slice aP c.ps.length cP, .slice aQ c.qs.length cQ, .int .i64 c.now, .slice aM c.ms.length cM, .slice aF c.fs.length cF] 35)).alloc (.cells #[] 2)) (w.heap.size + 1) (w.heap.size + 1) 0 0 (HN c.bs 0) := by have q := O0; rw [World.size_alloc] at q; exact q
  have PY := PX.below ((Below.refl _ _).alloc (Nat.le_refl _) (.cells #[] 2))
  clear PX k7
  have k7 := PY.X.cell 7 rfl
  go_loopw [3, 4] (fun v q wr => ∃ (k g m cap : Nat), k ≤ c.bs.length ∧ v = .slice (some ⟨g, 0, none⟩) m cap ∧ q = .int .i64 (k : Int) ∧ Hid (Kb c aK aL aP aQ aM aF w wr [.int .i64 c.n, .int .i64 c.f, .int .i64 c.p, .int .i64 c.a, .int .i64 c.l, .int .i64 c.m, .slice aK c.zs.length cK, .slice aL c.bs.length cL, .slice aP c.ps.length cP, .slice aQ c.qs.length cQ, .int .i64 c.now, .slice aM c.ms.length cM, .slice aF c.fs.length cF] ∧ Own wr (w.heap.size + 1) g m cap (HN c.bs k))) (fun _ q _ => c.bs.length - (intOf q).toNat)
  case atStart => exact ⟨0, _, 0, 0, Nat.zero_le _, by simp, rfl, ⟨PY, O1⟩⟩
  case round =>
    clear PY O0 O1 k7
    obtain ⟨k, g, m, cap, hk, rfl, rfl, HH⟩ := hrel
    have PX := HH.out.1
    have k7 := PX.X.cell 7 rfl
    have hml : m ≤ k := by have := hn_len c.bs k; have := HH.out.2.data.1; omega
    have hgB := HH.out.2.data.2.1
    by_cases hlt : k < c.bs.length
    · have hi : (k : Int) < (c.bs.length : Int) := by omega
      obtain ⟨_, hz0 | ⟨b, off, rfl, hb, hc⟩⟩ := hA.L
      · omega
      have e0 := (PX.B.cell (p := ⟨b, off + k, none⟩) hb).trans (hc k hlt)
      clear hc
      cases hbk : c.bs.getD k false with
      | true =>
        have HL : Hid (HN c.bs (k + 1) = HN c.bs k) := hn_lie hbk
        rw [hbk] at e0
        clear hbk
        go_wp2
        go_roundw
        case rel => exact ⟨k + 1, g, m, cap, by omega, rfl, by go_num, ⟨PX, by rw [HL.out]; exact HH.out.2⟩⟩
        case measure => simp [intOf]; omega
      | false =>
        have HL : Hid (HN c.bs (k + 1) = HN c.bs k ++ [(k : Int)]) := hn_not hbk
        rw [hbk] at e0
        clear hbk
        have HP : Hid (Kb c aK (some ⟨b, off, none⟩) aP aQ aM aF w wr [.int .i64 c.n, .int .i64 c.f, .int .i64 c.p, .int .i64 c.a, .int .i64 c.l, .int .i64 c.m, .slice aK c.zs.length cK, .slice (some ⟨b, off, none⟩) c.bs.length cL, .slice aP c.ps.length cP, .slice aQ c.qs.length cQ, .int .i64 c.now, .slice aM c.ms.length cM, .slice aF c.fs.length cF]) := PX
        have HO : Hid (Own wr (w.heap.size + 1) g m cap (HN c.bs k)) := HH.out.2
        have szw := PX.X.lt (by simp)
        clear PX HH
        go_wp2_with (at_builtin; refine wpList_append_own _ rfl (.tmp 19) (.tmp 21) 26 rfl (w.heap.size + 1) 2 i0 (.int .i64 0) 1 8 Tryz.underlying26 hi0 hz0 hz1 hz2 rfl (by decide) _ _ _ rfl (World.ownsRow.alloc (w := wr) HO.out _) ⟨wr.heap.size, 0, none⟩ 1 1 (ints [(k : Int)]) rfl rfl (one_newI wr (k : Int) _ _ rfl) (Ow.one _) (by unfold maxLen; omega) (by omega) (by simp; omega) ?_; intro v2 w2 hx2 hg2 hn2)
        obtain ⟨g2, c2, rfl, ho2⟩ := more hx2 (no_nilI hn2 rfl)
        have PZ := HP.out.grow hg2 hgB (by simp) hA
        clear hx2 hg2 hn2 HP HO
        go_roundw
        case rel => exact ⟨k + 1, g2, m + 1, c2, by omega, rfl, by go_num, ⟨PZ, by rw [HL.out]; exact ho2⟩⟩
        case measure => simp [intOf]; omega
    · have hi : ¬ (k : Int) < (c.bs.length : Int) := by omega
      obtain rfl : k = c.bs.length := by omega
      have e : m = (HN c.bs c.bs.length).length := HH.out.2.data.1.symm
      subst e
      go_wp2
      go_ret
      exact ⟨⟨g, cap, rfl, HH.out.2.mono (by omega)⟩, PX.B⟩

set_option maxHeartbeats 4000000 in
set_option maxRecDepth 100000 in
theorem honestInS (c : CD) (aK aL aP aQ aM aF : Option Addr) (cK cL cP cQ cM cF : Nat) (w : World) (hA : c.At w aK aL aP aQ aM aF) (hz : c.Sm) :
    Calls Tryz.prog 32 #[.agg #[.int .i64 c.n, .int .i64 c.f, .int .i64 c.p, .int .i64 c.a, .int .i64 c.l, .int .i64 c.m, .slice aK c.zs.length cK, .slice aL c.bs.length cL, .slice aP c.ps.length cP, .slice aQ c.qs.length cQ, .int .i64 c.now, .slice aM c.ms.length cM, .slice aF c.fs.length cF]] w fun e w' => (∃ g cap, e = .returned (.slice (some ⟨g, 0, none⟩) (HI c).length cap) ∧ Own w' w.heap.size g (HI c).length cap (HI c)) ∧ Below w.heap.size w w' := by
  have PX : Kb c aK aL aP aQ aM aF w (w.alloc (.cells #[.int .i64 c.n, .int .i64 c.f, .int .i64 c.p, .int .i64 c.a, .int .i64 c.l, .int .i64 c.m, .slice aK c.zs.length cK, .slice aL c.bs.length cL, .slice aP c.ps.length cP, .slice aQ c.qs.length cQ, .int .i64 c.now, .slice aM c.ms.length cM, .slice aF c.fs.length cF] 35)) [.int .i64 c.n, .int .i64 c.f, .int .i64 c.p, .int .i64 c.a, .int .i64 c.l, .int .i64 c.m, .slice aK c.zs.length cK, .slice aL c.bs.length cL, .slice aP c.ps.length cP, .slice aQ c.qs.length cQ, .int .i64 c.now, .slice aM c.ms.length cM, .slice aF c.fs.length cF] := ⟨(Below.refl _ _).alloc (Nat.le_refl _) _, Room.new w [.int .i64 c.n, .int .i64 c.f, .int .i64 c.p, .int .i64 c.a, .int .i64 c.l, .int .i64 c.m, .slice aK c.zs.length cK, .slice aL c.bs.length cL, .slice aP c.ps.length cP, .slice aQ c.qs.length cQ, .int .i64 c.now, .slice aM c.ms.length cM, .slice aF c.fs.length cF] 35, hA.below ((Below.refl _ _).alloc (Nat.le_refl _) _)⟩
  have hbl : c.bs.length ≤ 1048576 := hz.L
  go_enter Tryz.func32, Tryz.ntmps32
  go_wp2_with fail
  generalize w.alloc (.cells #[.int .i64 c.n, .int .i64 c.f, .int .i64 c.p, .int .i64 c.a, .int .i64 c.l, .int .i64 c.m, .slice aK c.zs.length cK, .slice aL c.bs.length cL, .slice aP c.ps.length cP, .slice aQ c.qs.length cQ, .int .i64 c.now, .slice aM c.ms.length cM, .slice aF c.fs.length cF] 35) = w1 at PX ⊢
  refine (courtS c _ _ _ _ _ _ _ _ _ _ _ _ _ PX.A hz).mono ?_
  rintro e w2 ⟨rfl, b2⟩
  replace PX := PX.below b2
  clear b2
  cases hc : CO c with
  | false =>
    have HV : Hid (HI c = []) := by show HI c = []; unfold HI; rw [hc]; rfl
    clear hc
    have O0 := World.ownsRow_made (base := w.heap.size) (e := 2) (size := 1) w2 #[] 0 PX.B.size (by unfold maxLen; omega) rfl
    have BZ := PX.B.alloc PX.B.size (.cells #[] 2)
    go_wp2
    go_ret
    rw [HV.out]
    exact ⟨⟨_, 0, rfl, O0⟩, BZ⟩
  | true =>
    have HV : Hid (HI c = HN c.bs c.bs.length) := by show HI c = _; unfold HI; rw [hc]; rfl
    clear hc
    have k0 := PX.X.cell 0 rfl
    have k1 := PX.X.cell 1 rfl
    have k2 := PX.X.cell 2 rfl
    have k3 := PX.X.cell 3 rfl
    have k4 := PX.X.cell 4 rfl
    have k5 := PX.X.cell 5 rfl
    have k6 := PX.X.cell 6 rfl
    have k7 := PX.X.cell 7 rfl
    have k8 := PX.X.cell 8 rfl
    have k9 := PX.X.cell 9 rfl
    have k10 := PX.X.cell 10 rfl
    have k11 := PX.X.cell 11 rfl
    have k12 := PX.X.cell 12 rfl
    go_wp2_with fail
    clear k0 k1 k2 k3 k4 k5 k6 k7 k8 k9 k10 k11 k12
    refine (allS c _ _ _ _ _ _ _ _ _ _ _ _ _ PX.A hz hbl).mono ?_
    rintro e w3 ⟨⟨g, cap, rfl, O3⟩, b3⟩
    have szp := PX.B.size
    have O4 := O3.mono szp
    replace PX := PX.below b3
    go_wp2
    go_ret
    rw [HV.out]
    exact ⟨⟨g, cap, rfl, O4⟩, PX.B⟩

end Go.Proofs.YtimakfokgcnklaaGreat.Cd
