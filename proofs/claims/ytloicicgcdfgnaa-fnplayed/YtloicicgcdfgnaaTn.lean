/-
  laws.turn: a right turn that the laws roll for a right world, in new memory.
-/
import Derived.Test.YtloicicgcdfgnaaWdAll
import Derived.Test.YtloicicgcdfgnaaTk
import Derived.Deep.RegionHeld3
import Derived.Deep.CutRange
namespace Go.Proofs.Ytloicicgcdfgnaa.Lw
open Go.ChangeShapes Go.WideShapes Go.ChangeAt Go.RowKit
open Ls (el Row)
open Ow (Has Own ints)
open Rd (Flags)
open Bo (eb HasB)
open Wl (KL bad z9 c9 wld WO)
open Tu (trn FK FR R1 RS TO)
open Ss (RowsAt ln rw_)
open Di (St)
set_option linter.unusedVariables false
set_option linter.unusedSimpArgs false

theorem hasb_step {w w' : World} {p B g off n : Nat} {bs : List Bool} (h : HasB w B g off n bs) (s : Dr.Step p w w') (hne : g ≠ p) : HasB w' B g off n bs := by
  obtain ⟨h1, h2, h3, h4, h5⟩ := h
  have e := s.block g h3 hne
  exact ⟨h1, h2, Nat.lt_of_lt_of_le h3 s.size, fun k hk => by rw [World.cell?_of_block (a := ⟨g, off + k, none⟩) e]; exact h4 k hk, fun k hk => by rw [World.frozen?_of_block (a := ⟨g, off + k, none⟩) e]; exact h5 k hk⟩
theorem hasb_other {w : World} {B g off n : Nat} {bs : List Bool} (h : HasB w B g off n bs) {q : Nat} (hne : q ≠ g) (i : Nat) (u : Value) : HasB (w.setCell ⟨q, i, none⟩ u) B g off n bs := by
  obtain ⟨h1, h2, h3, h4, h5⟩ := h
  exact ⟨h1, h2, by simpa using h3, fun k hk => by rw [World.cell?_setCell_other _ _ _ _ (by simp <;> omega)]; exact h4 k hk, fun k hk => by rw [World.frozen?_setCell]; exact h5 k hk⟩
theorem hasb_made (w : World) (B n : Nat) (hB : B ≤ w.heap.size) : HasB (w.alloc (.cells (madeCells #[.bool false] n) 4)) B w.heap.size 0 n (List.replicate n false) :=
  Bo.has_new (by simp) hB ((World.rowIs_made w _ n _).congr (fun i hi => by unfold Bo.part eb List.getD; rw [List.getElem?_replicate, if_pos hi]; split <;> rfl))

/-- The type of what lies at a block. -/
def Ty (w : World) (g : Nat) (t : TypeId) : Prop := ∃ cur x, w.heap[g]? = some (.cells cur t x)
theorem Ty.block {w w' : World} {g : Nat} {t : TypeId} (h : Ty w g t) (e : w'.heap[g]? = w.heap[g]?) : Ty w' g t := by
  obtain ⟨cur, x, h⟩ := h
  exact ⟨cur, x, e.trans h⟩
theorem Ty.lt {w : World} {g : Nat} {t : TypeId} (h : Ty w g t) : g < w.heap.size := by
  obtain ⟨cur, x, h⟩ := h
  exact (Array.getElem?_eq_some_iff.1 h).1
theorem Ty.step {w w' : World} {g p : Nat} {t : TypeId} (h : Ty w g t) (s : Dr.Step p w w') (hne : g ≠ p) : Ty w' g t := h.block (s.block g h.lt hne)
theorem Ty.below {w w' : World} {g : Nat} {t : TypeId} (h : Ty w g t) (b : Below w.heap.size w w') : Ty w' g t := h.block (b.block g h.lt)
theorem Ty.kept {w w' : World} {g : Nat} {t : TypeId} {row : Option Nat} (h : Ty w g t) (hg : w.grownBy w' row) (hne : row ≠ some g) : Ty w' g t := h.block (hg.block g h.lt (fun e => hne e.symm))
theorem Ty.set {w : World} {g q i : Nat} {t : TypeId} {u : Value} (h : Ty w g t) : Ty (w.setCell ⟨q, i, none⟩ u) g t := by
  by_cases e : g = q
  · subst e
    obtain ⟨cur, x, h⟩ := h
    exact ⟨cur.setIfInBounds i u, x, by simp [World.setCell, Array.getElem?_modify, h]⟩
  · exact h.block (Below.heap_setCell _ _ _ _ e)
theorem ty_new (w : World) (cs : Array Value) (t : TypeId) : Ty (w.alloc (.cells cs t)) w.heap.size t := ⟨cs, _, (Array.getElem?_push_size : (w.heap.push (.cells cs t))[w.heap.size]? = some (.cells cs t))⟩

abbrev Z5 : List Value := [.slice none 0 0, .slice none 0 0, .slice none 0 0, .slice none 0 0, .slice none 0 0]
/-- What lies there while a turn's lists are made: of each that is made, where. -/
structure Zt (w0 w : World) (B p : Nat) (a : Option Addr) (len cap : Nat) (cW : List Value) (k : Nat) (d : Int) (bD : Option (Nat × Nat)) (bF bR bX : Option Nat) (w' : World) : Prop where
  st : St w0 B p a len cap w'
  sp : Dr.Step p w w'
  W : Rm.Room w' w.heap.size cW
  Z : Rm.Room w' (w.heap.size + 1) Z5
  D : ∀ g c, bD = some (g, c) → ∃ ds, Own w' (w.heap.size + 2) g k c ds ∧ ∀ x ∈ ds, -d ≤ x ∧ x ≤ d
  F : ∀ g, bF = some g → HasB w' (w.heap.size + 2) g 0 k (List.replicate k false) ∧ Ty w' g 4
  R : ∀ g, bR = some g → HasB w' (w.heap.size + 2) g 0 k (List.replicate k false) ∧ Ty w' g 4
  X : ∀ g, bX = some g → w.heap.size + 2 ≤ g ∧ Rm.Room w' g Z5 ∧ Ty w' g 37
  FR : ∀ g h, bF = some g → bR = some h → g ≠ h
  XD : ∀ g h c, bX = some g → bD = some (h, c) → g ≠ h
  XF : ∀ g h, bX = some g → bF = some h → g ≠ h
  XR : ∀ g h, bX = some g → bR = some h → g ≠ h
section
variable {w0 w w' w'' : World} {B p : Nat} {a : Option Addr} {len cap : Nat} {cW : List Value} {k : Nat} {d : Int} {bD : Option (Nat × Nat)} {bF bR bX : Option Nat}
theorem Zt.lt (z : Zt w0 w B p a len cap cW k d bD bF bR bX w') : w.heap.size + 2 ≤ w'.heap.size := z.Z.lt (by decide)
/-- The first made is a row of numbers. -/
theorem Zt.row (z : Zt w0 w B p a len cap cW k d none bF bR bX w') (hcw : 0 < cW.length) (hp : p < w.heap.size) (s : Dr.Step p w' w'') (bs : St w' B p a len cap w'') {g c : Nat} {ds : List Int} (o : Own w'' w'.heap.size g k c ds) (hd : ∀ x ∈ ds, -d ≤ x ∧ x ≤ d) : Zt w0 w B p a len cap cW k d (some (g, c)) bF bR bX w'' where
  st := ⟨bs.cur, z.st.step.trans s⟩
  sp := z.sp.trans s
  W := rm_step z.W s (by omega) hcw
  Z := rm_step z.Z s (by omega) (by decide)
  D := fun g' c' e => by cases e; exact ⟨ds, o.mono z.lt, hd⟩
  F := fun g e => by have h := z.F g e; have := h.1.2.1; exact ⟨hasb_step h.1 s (by omega), h.2.step s (by omega)⟩
  R := fun g e => by have h := z.R g e; have := h.1.2.1; exact ⟨hasb_step h.1 s (by omega), h.2.step s (by omega)⟩
  X := fun g e => by have h := z.X g e; exact ⟨h.1, rm_step h.2.1 s (by omega) (by decide), h.2.2.step s (by omega)⟩
  FR := z.FR
  XD := fun x h c e e2 => by cases e2; have h := (z.X x e).2.1.lt (by decide); have := o.data.2.1; omega
  XF := z.XF
  XR := z.XR
theorem Zt.mkF (z : Zt w0 w B p a len cap cW k d bD none bR bX w') : Zt w0 w B p a len cap cW k d bD (some w'.heap.size) bR bX (w'.alloc (.cells (madeCells #[.bool false] k) 4)) :=
  have b : Below w'.heap.size w' (w'.alloc (.cells (madeCells #[.bool false] k) 4)) := (Below.refl _ w').alloc (Nat.le_refl _) _
  { st := z.st.below b, sp := step_cut z.sp b z.sp.size, W := z.W.below b, Z := z.Z.below b
    D := fun g c e => by obtain ⟨ds, o, h⟩ := z.D g c e; exact ⟨ds, o.later b o.lt, h⟩
    F := fun g e => by cases e; exact ⟨hasb_made w' _ k z.lt, ty_new _ _ _⟩
    R := fun g e => by have h := z.R g e; exact ⟨h.1.later b h.1.2.2.1, h.2.below b⟩
    X := fun g e => by have h := z.X g e; exact ⟨h.1, h.2.1.below b, h.2.2.below b⟩
    FR := fun g h e e2 => by cases e; have := (z.R h e2).1.2.2.1; omega
    XD := z.XD
    XF := fun g h e e2 => by cases e2; have := (z.X g e).2.1.lt (by decide); omega
    XR := z.XR }
theorem Zt.mkR (z : Zt w0 w B p a len cap cW k d bD bF none bX w') : Zt w0 w B p a len cap cW k d bD bF (some w'.heap.size) bX (w'.alloc (.cells (madeCells #[.bool false] k) 4)) :=
  have b : Below w'.heap.size w' (w'.alloc (.cells (madeCells #[.bool false] k) 4)) := (Below.refl _ w').alloc (Nat.le_refl _) _
  { st := z.st.below b, sp := step_cut z.sp b z.sp.size, W := z.W.below b, Z := z.Z.below b
    D := fun g c e => by obtain ⟨ds, o, h⟩ := z.D g c e; exact ⟨ds, o.later b o.lt, h⟩
    F := fun g e => by have h := z.F g e; exact ⟨h.1.later b h.1.2.2.1, h.2.below b⟩
    R := fun g e => by cases e; exact ⟨hasb_made w' _ k z.lt, ty_new _ _ _⟩
    X := fun g e => by have h := z.X g e; exact ⟨h.1, h.2.1.below b, h.2.2.below b⟩
    FR := fun g h e e2 => by cases e2; have := (z.F g e).1.2.2.1; omega
    XD := z.XD
    XF := z.XF
    XR := fun g h e e2 => by cases e2; have := (z.X g e).2.1.lt (by decide); omega }
theorem Zt.mkX (z : Zt w0 w B p a len cap cW k d bD bF bR none w') : Zt w0 w B p a len cap cW k d bD bF bR (some w'.heap.size) (w'.alloc (.cells #[.slice none 0 0, .slice none 0 0, .slice none 0 0, .slice none 0 0, .slice none 0 0] 37)) :=
  have b : Below w'.heap.size w' (w'.alloc (.cells #[.slice none 0 0, .slice none 0 0, .slice none 0 0, .slice none 0 0, .slice none 0 0] 37)) := (Below.refl _ w').alloc (Nat.le_refl _) _
  { st := z.st.below b, sp := step_cut z.sp b z.sp.size, W := z.W.below b, Z := z.Z.below b
    D := fun g c e => by obtain ⟨ds, o, h⟩ := z.D g c e; exact ⟨ds, o.later b o.lt, h⟩
    F := fun g e => by have h := z.F g e; exact ⟨h.1.later b h.1.2.2.1, h.2.below b⟩
    R := fun g e => by have h := z.R g e; exact ⟨h.1.later b h.1.2.2.1, h.2.below b⟩
    X := fun g e => by cases e; exact ⟨z.lt, Rm.Room.new w' Z5 37, ty_new _ _ _⟩
    FR := z.FR
    XD := fun g h c e e2 => by cases e; obtain ⟨ds, o, _⟩ := z.D h c e2; have := o.lt; omega
    XF := fun g h e e2 => by cases e; have := (z.F h e2).1.2.2.1; omega
    XR := fun g h e e2 => by cases e; have := (z.R h e2).1.2.2.1; omega }
theorem Zt.drew (z : Zt w0 w B p a len cap cW k d bD bF bR bX w') : Zt w0 w B p a len cap cW k d bD bF bR bX w'.drew := by
  have b : Below w'.heap.size w' w'.drew := (Below.refl _ w').drew
  exact { st := z.st.below b, sp := step_cut z.sp b z.sp.size, W := z.W.below b, Z := z.Z.below b
          D := fun g c e => by obtain ⟨ds, o, h⟩ := z.D g c e; exact ⟨ds, o.later b o.lt, h⟩
          F := fun g e => by have h := z.F g e; exact ⟨h.1.later b h.1.2.2.1, h.2.below b⟩
          R := fun g e => by have h := z.R g e; exact ⟨h.1.later b h.1.2.2.1, h.2.below b⟩
          X := fun g e => by have h := z.X g e; exact ⟨h.1, h.2.1.below b, h.2.2.below b⟩
          FR := z.FR, XD := z.XD, XF := z.XF, XR := z.XR }
end

theorem oss_put {w : World} {B k j q i : Nat} {v u : Value} {zss : List (List Int)} (h : OSS w B v k j zss) (hv : v.ownBlock ≠ some q) {t : TypeId} (ty : Ty w q t) (ht : t ≠ 2) : OSS (w.setCell ⟨q, i, none⟩ u) B v k j zss := by
  obtain ⟨vs, ho, hz, hi⟩ := h
  have hb : ∀ b, b ≠ q → (w.setCell ⟨q, i, none⟩ u).heap[b]? = w.heap[b]? := fun b e => Below.heap_setCell _ _ _ _ e
  refine ⟨vs, ?_, hz, fun x hx => ?_⟩
  · obtain ⟨h1, h2⟩ := ho
    refine ⟨h1, ?_⟩
    rcases h2 with h2 | ⟨g, cap, cur, rfl, hB, hg, rest⟩
    · exact .inl h2
    · exact .inr ⟨g, cap, cur, rfl, hB, by rw [hb g (fun e => hv (by rw [← e]; rfl))]; exact hg, rest⟩
  · obtain ⟨g, c, e, o⟩ := hi x hx
    refine ⟨g, c, e, own_move o (hb g (fun e2 => ?_))⟩
    obtain ⟨cur, y, e3⟩ := ty
    obtain ⟨_, _, _, _, cur2, e4, _⟩ := o.data
    rw [← e2, e4] at e3
    injection e3 with e3
    injection e3 with e5 e6 e7
    exact ht e6.symm

/-- What lies there in a round: the turn at block X, its lists so far. -/
structure Zs (w0 w : World) (B p : Nat) (a : Option Addr) (len cap : Nat) (cW : List Value) (k : Nat) (d : Int) (gX gD cD gF gR : Nat) (xE xL vE vL : Value) (jE jL : Nat) (ds : List Int) (es ls : List (List Int)) (fs rs : List Bool) (w' : World) : Prop where
  st : St w0 B p a len cap w'
  sp : Dr.Step p w w'
  W : Rm.Room w' w.heap.size cW
  Z : Rm.Room w' (w.heap.size + 1) Z5
  X : Rm.Room w' gX [.slice (some ⟨gD, 0, none⟩) k cD, xE, xL, .slice (some ⟨gF, 0, none⟩) k k, .slice (some ⟨gR, 0, none⟩) k k]
  hX : w.heap.size + 2 ≤ gX
  D : Own w' (w.heap.size + 2) gD k cD ds
  hd : ∀ x ∈ ds, -d ≤ x ∧ x ≤ d
  E : OSS w' (w.heap.size + 2) vE k jE es
  L : OSS w' (w.heap.size + 2) vL k jL ls
  F : HasB w' (w.heap.size + 2) gF 0 k fs
  R : HasB w' (w.heap.size + 2) gR 0 k rs
  tX : Ty w' gX 37
  tF : Ty w' gF 4
  tR : Ty w' gR 4
  ne : gX ≠ gD ∧ gX ≠ gF ∧ gX ≠ gR ∧ gF ≠ gR
  nE : vE.ownBlock ≠ some gX ∧ vE.ownBlock ≠ some gF ∧ vE.ownBlock ≠ some gR ∧ vE.ownBlock ≠ some gD
  nL : vL.ownBlock ≠ some gX ∧ vL.ownBlock ≠ some gF ∧ vL.ownBlock ≠ some gR ∧ vL.ownBlock ≠ some gD
  EL : ∀ b, vE.ownBlock = some b → vL.ownBlock ≠ some b
theorem hasb_kept {w w' : World} {row : Option Nat} {B g off n : Nat} {zs : List Bool} (h : HasB w B g off n zs) (hg : w.grownBy w' row) (hne : row ≠ some g) : HasB w' B g off n zs := by
  obtain ⟨h1, h2, h3, h4, h5⟩ := h
  have e := hg.block g h3 (fun e => hne e.symm)
  exact ⟨h1, h2, Nat.lt_of_lt_of_le h3 hg.size, fun k hk => by rw [World.cell?_of_block (a := ⟨g, off + k, none⟩) e]; exact h4 k hk, fun k hk => by rw [World.frozen?_of_block (a := ⟨g, off + k, none⟩) e]; exact h5 k hk⟩
theorem st_grown {w0 w w' : World} {B p : Nat} {row : Option Nat} {a : Option Addr} {len cap : Nat} (s : St w0 B p a len cap w) (hg : w.grownBy w' row) (hr : ∀ g, row = some g → g ≠ p ∧ B ≤ g ∧ w0.heap.size ≤ g) : St w0 B p a len cap w' := by
  cases row with
  | some g => exact Rw.di_grown s hg (hr g rfl).1 (hr g rfl).2.1 (hr g rfl).2.2
  | none => exact s.below ⟨hg.os, hg.tape, hg.output, hg.size, fun k hk => hg.block k hk (by simp)⟩
theorem sp_grown {w0 w w' : World} {p : Nat} {row : Option Nat} (s : Dr.Step p w0 w) (hg : w.grownBy w' row) (hr : ∀ g, row = some g → w0.heap.size ≤ g) : Dr.Step p w0 w' := by
  cases row with
  | some g => exact Rw.step_grown s hg (hr g rfl)
  | none => exact ⟨hg.os.trans s.os, hg.tape.trans s.tape, hg.output.trans s.output, Nat.le_trans s.size hg.size, fun j hj hn => by rw [hg.block j (Nat.lt_of_lt_of_le hj s.size) (by simp)]; exact s.block j hj hn⟩
section
variable {w0 w w' w'' : World} {B p : Nat} {a : Option Addr} {len cap : Nat} {cW : List Value} {k : Nat} {d : Int} {gX gD cD gF gR : Nat} {xE xL vE vL : Value} {jE jL : Nat} {ds : List Int} {es ls : List (List Int)} {fs rs : List Bool}
theorem Zs.lt (z : Zs w0 w B p a len cap cW k d gX gD cD gF gR xE xL vE vL jE jL ds es ls fs rs w') : w.heap.size + 2 ≤ w'.heap.size := z.Z.lt (by decide)
/-- Dice alone have been thrown. -/
theorem Zs.step (z : Zs w0 w B p a len cap cW k d gX gD cD gF gR xE xL vE vL jE jL ds es ls fs rs w') (hcw : 0 < cW.length) (hp : p < w.heap.size) (s : Dr.Step p w' w'') (bs : St w' B p a len cap w'') : Zs w0 w B p a len cap cW k d gX gD cD gF gR xE xL vE vL jE jL ds es ls fs rs w'' where
  st := ⟨bs.cur, z.st.step.trans s⟩
  sp := z.sp.trans s
  W := rm_step z.W s (by omega) hcw
  Z := rm_step z.Z s (by omega) (by decide)
  X := rm_step z.X s (by have := z.hX; omega) (by simp)
  hX := z.hX
  D := by have h := z.D; have := h.data.2.1; exact Rw.own_step h s (by omega)
  hd := z.hd
  E := z.E.step s (by omega)
  L := z.L.step s (by omega)
  F := by have h := z.F; have := h.2.1; exact hasb_step h s (by omega)
  R := by have h := z.R; have := h.2.1; exact hasb_step h s (by omega)
  tX := z.tX.step s (by have := z.hX; omega)
  tF := by have h := z.F; have := h.2.1; exact z.tF.step s (by omega)
  tR := by have h := z.R; have := h.2.1; exact z.tR.step s (by omega)
  ne := z.ne
  nE := z.nE
  nL := z.nL
  EL := z.EL
theorem Zs.below (z : Zs w0 w B p a len cap cW k d gX gD cD gF gR xE xL vE vL jE jL ds es ls fs rs w') (b : Below w'.heap.size w' w'') : Zs w0 w B p a len cap cW k d gX gD cD gF gR xE xL vE vL jE jL ds es ls fs rs w'' where
  st := z.st.below b
  sp := step_cut z.sp b z.sp.size
  W := z.W.below b
  Z := z.Z.below b
  X := z.X.below b
  hX := z.hX
  D := z.D.later b z.D.lt
  hd := z.hd
  E := z.E.below b
  L := z.L.below b
  F := z.F.later b z.F.2.2.1
  R := z.R.later b z.R.2.2.1
  tX := z.tX.below b
  tF := z.tF.below b
  tR := z.tR.below b
  ne := z.ne
  nE := z.nE
  nL := z.nL
  EL := z.EL
theorem oss_ge {b : Nat} {v : Value} {j : Nat} {zss : List (List Int)} {n : Nat} (h : OSS w' n v k j zss) (e : v.ownBlock = some b) : n ≤ b ∧ b < w'.heap.size := ⟨(h.block e).1, (h.block e).2.1⟩
/-- One more row of errors. -/
theorem Zs.moreE (z : Zs w0 w B p a len cap cW k d gX gD cD gF gR xE xL vE vL jE jL ds es ls fs rs w') (hp : p < w.heap.size) (hB : B ≤ p) (h0 : w0.heap.size ≤ w.heap.size) {o : Obj} {v' : Value} {g c : Nat} {zs : List Int} (hi : Own w' (w.heap.size + 2) g k c zs) (hg : (w'.alloc o).grownBy w'' vE.ownBlock)
    (ho : ∀ vs, w'.ownsRow (w.heap.size + 2) 29 1 vE jE vs → w''.ownsRow (w.heap.size + 2) 29 1 v' (jE + 1) (vs ++ [.slice (some ⟨g, 0, none⟩) k c])) (hat : v'.ownBlock = vE.ownBlock ∨ v'.ownBlock = some (w'.alloc o).heap.size) :
    Zs w0 w B p a len cap cW k d gX gD cD gF gR xE xL v' vL (jE + 1) jL ds (es ++ [zs]) ls fs rs w'' := by
  have za := z.below ((Below.refl _ w').alloc (Nat.le_refl _) o)
  have hX := z.X.lt (by simp)
  have hF := z.F.2.2.1
  have hR := z.R.2.2.1
  have hD := z.D.lt
  have hr : ∀ q, vE.ownBlock = some q → w.heap.size + 2 ≤ q ∧ q < w'.heap.size := fun q e => oss_ge z.E e
  have hs : (w'.alloc o).heap.size = w'.heap.size + 1 := by simp
  have fresh : ∀ q, q < w'.heap.size → vE.ownBlock ≠ some q → v'.ownBlock ≠ some q := fun q hq hn e => by
    rcases hat with h | h
    · exact hn (h ▸ e)
    · rw [h, hs] at e; cases e; omega
  have ze := z.lt
  exact
  { st := st_grown za.st hg (fun q e => by have := hr q e; omega)
    sp := sp_grown za.sp hg (fun q e => by have := hr q e; omega)
    W := Wl.Room.other' za.W hg (fun e => by have := hr _ e; omega)
    Z := Wl.Room.other' za.Z hg (fun e => by have := hr _ e; omega)
    X := Wl.Room.other' za.X hg z.nE.1
    hX := z.hX
    D := Wl.Own.kept2 za.D hg z.nE.2.2.2
    hd := z.hd
    E := z.E.more hi hg ho
    L := z.L.other z.E hg (fun b e1 e2 => z.EL b e2 e1)
    F := hasb_kept za.F hg z.nE.2.1
    R := hasb_kept za.R hg z.nE.2.2.1
    tX := za.tX.kept hg z.nE.1
    tF := za.tF.kept hg z.nE.2.1
    tR := za.tR.kept hg z.nE.2.2.1
    ne := z.ne
    nE := ⟨fresh _ hX z.nE.1, fresh _ hF z.nE.2.1, fresh _ hR z.nE.2.2.1, fresh _ hD z.nE.2.2.2⟩
    nL := z.nL
    EL := fun b e e2 => fresh b (oss_ge z.L e2).2 (fun e3 => z.EL b e3 e2) e }
/-- One more row of lies. -/
theorem Zs.moreL (z : Zs w0 w B p a len cap cW k d gX gD cD gF gR xE xL vE vL jE jL ds es ls fs rs w') (hp : p < w.heap.size) (hB : B ≤ p) (h0 : w0.heap.size ≤ w.heap.size) {o : Obj} {v' : Value} {g c : Nat} {zs : List Int} (hi : Own w' (w.heap.size + 2) g k c zs) (hg : (w'.alloc o).grownBy w'' vL.ownBlock)
    (ho : ∀ vs, w'.ownsRow (w.heap.size + 2) 29 1 vL jL vs → w''.ownsRow (w.heap.size + 2) 29 1 v' (jL + 1) (vs ++ [.slice (some ⟨g, 0, none⟩) k c])) (hat : v'.ownBlock = vL.ownBlock ∨ v'.ownBlock = some (w'.alloc o).heap.size) :
    Zs w0 w B p a len cap cW k d gX gD cD gF gR xE xL vE v' jE (jL + 1) ds es (ls ++ [zs]) fs rs w'' := by
  have za := z.below ((Below.refl _ w').alloc (Nat.le_refl _) o)
  have hX := z.X.lt (by simp)
  have hF := z.F.2.2.1
  have hR := z.R.2.2.1
  have hD := z.D.lt
  have hr : ∀ q, vL.ownBlock = some q → w.heap.size + 2 ≤ q ∧ q < w'.heap.size := fun q e => oss_ge z.L e
  have hs : (w'.alloc o).heap.size = w'.heap.size + 1 := by simp
  have fresh : ∀ q, q < w'.heap.size → vL.ownBlock ≠ some q → v'.ownBlock ≠ some q := fun q hq hn e => by
    rcases hat with h | h
    · exact hn (h ▸ e)
    · rw [h, hs] at e; cases e; omega
  have ze := z.lt
  exact
  { st := st_grown za.st hg (fun q e => by have := hr q e; omega)
    sp := sp_grown za.sp hg (fun q e => by have := hr q e; omega)
    W := Wl.Room.other' za.W hg (fun e => by have := hr _ e; omega)
    Z := Wl.Room.other' za.Z hg (fun e => by have := hr _ e; omega)
    X := Wl.Room.other' za.X hg z.nL.1
    hX := z.hX
    D := Wl.Own.kept2 za.D hg z.nL.2.2.2
    hd := z.hd
    E := z.E.other z.L hg (fun b e1 e2 => z.EL b e1 e2)
    L := z.L.more hi hg ho
    F := hasb_kept za.F hg z.nL.2.1
    R := hasb_kept za.R hg z.nL.2.2.1
    tX := za.tX.kept hg z.nL.1
    tF := za.tF.kept hg z.nL.2.1
    tR := za.tR.kept hg z.nL.2.2.1
    ne := z.ne
    nE := z.nE
    nL := ⟨fresh _ hX z.nL.1, fresh _ hF z.nL.2.1, fresh _ hR z.nL.2.2.1, fresh _ hD z.nL.2.2.2⟩
    EL := fun b e e2 => fresh b (oss_ge z.E e).2 (fun e3 => z.EL b e e3) e2 }
/-- A cell of the turn, or of a block of its own, is written. -/
theorem Zs.put (z : Zs w0 w B p a len cap cW k d gX gD cD gF gR xE xL vE vL jE jL ds es ls fs rs w') (hp : p < w.heap.size) (hB : B ≤ p) (h0 : w0.heap.size ≤ w.heap.size) (i : Nat) (u : Value) {xE' xL' : Value}
    (h : [Value.slice (some ⟨gD, 0, none⟩) k cD, xE, xL, .slice (some ⟨gF, 0, none⟩) k k, .slice (some ⟨gR, 0, none⟩) k k].set i u = [Value.slice (some ⟨gD, 0, none⟩) k cD, xE', xL', .slice (some ⟨gF, 0, none⟩) k k, .slice (some ⟨gR, 0, none⟩) k k]) :
    Zs w0 w B p a len cap cW k d gX gD cD gF gR xE' xL' vE vL jE jL ds es ls fs rs (w'.setCell ⟨gX, i, none⟩ u) :=
  have hX := z.hX
  { st := z.st.setNew i (by omega) (by omega) (by omega) u
    sp := z.sp.setNew i (by omega) u
    W := z.W.setOther (by omega) i u
    Z := z.Z.setOther (by omega) i u
    X := by rw [← h]; exact z.X.set i u
    hX := hX
    D := own_move z.D (Below.heap_setCell _ _ _ _ (fun e => z.ne.1 e.symm))
    hd := z.hd
    E := oss_put z.E z.nE.1 z.tX (by decide)
    L := oss_put z.L z.nL.1 z.tX (by decide)
    F := hasb_other z.F z.ne.2.1 i u
    R := hasb_other z.R z.ne.2.2.1 i u
    tX := z.tX.set, tF := z.tF.set, tR := z.tR.set
    ne := z.ne, nE := z.nE, nL := z.nL, EL := z.EL }
end

section
variable {w0 w w' : World} {B p : Nat} {a : Option Addr} {len cap : Nat} {cW : List Value} {k : Nat} {d : Int} {bD : Option (Nat × Nat)} {bF bR bX : Option Nat}
theorem Zt.mkF' (z : Zt w0 w B p a len cap cW k d bD none bR bX w') : ∃ (g : Nat) (wn : World), w'.alloc (.cells (madeCells #[.bool false] k) 4) = wn ∧ w'.heap.size = g ∧ Zt w0 w B p a len cap cW k d bD (some g) bR bX wn := ⟨_, _, rfl, rfl, z.mkF⟩
theorem Zt.mkR' (z : Zt w0 w B p a len cap cW k d bD bF none bX w') : ∃ (g : Nat) (wn : World), w'.alloc (.cells (madeCells #[.bool false] k) 4) = wn ∧ w'.heap.size = g ∧ Zt w0 w B p a len cap cW k d bD bF (some g) bX wn := ⟨_, _, rfl, rfl, z.mkR⟩
theorem Zt.mkX' (z : Zt w0 w B p a len cap cW k d bD bF bR none w') : ∃ (g : Nat) (wn : World), w'.alloc (.cells #[.slice none 0 0, .slice none 0 0, .slice none 0 0, .slice none 0 0, .slice none 0 0] 37) = wn ∧ w'.heap.size = g ∧ Zt w0 w B p a len cap cW k d bD bF bR (some g) wn := ⟨_, _, rfl, rfl, z.mkX⟩
theorem Zt.store {gD cD gF gR gX : Nat} (z : Zt w0 w B p a len cap cW k d (some (gD, cD)) (some gF) (some gR) (some gX) w') (hp : p < w.heap.size) (hB : B ≤ p) (h0 : w0.heap.size ≤ w.heap.size) :
    ∃ ds, Zs w0 w B p a len cap cW k d gX gD cD gF gR (.slice none 0 0) (.slice none 0 0) (.slice none 0 0) (.slice none 0 0) 0 0 ds [] [] (List.replicate k false) (List.replicate k false) (((((w'.setCell ⟨gX, 0, none⟩ (.slice (some ⟨gD, 0, none⟩) k cD)).setCell ⟨gX, 1, none⟩ (.slice none 0 0)).setCell ⟨gX, 2, none⟩ (.slice none 0 0)).setCell ⟨gX, 3, none⟩ (.slice (some ⟨gF, 0, none⟩) k k)).setCell ⟨gX, 4, none⟩ (.slice (some ⟨gR, 0, none⟩) k k)) := by
  obtain ⟨ds, oD, hds⟩ := z.D _ _ rfl
  obtain ⟨hX2, RX, tX⟩ := z.X _ rfl
  have hF := z.F _ rfl
  have hR := z.R _ rfl
  have nD := z.XD _ _ _ rfl rfl
  have nF := z.XF _ _ rfl rfl
  have nR := z.XR _ _ rfl rfl
  have st := z.st
  have sp := z.sp
  have W := z.W
  have Z := z.Z
  exact ⟨ds,
  { st := ((((st.setNew 0 (by omega) (by omega) (by omega) _).setNew 1 (by omega) (by omega) (by omega) _).setNew 2 (by omega) (by omega) (by omega) _).setNew 3 (by omega) (by omega) (by omega) _).setNew 4 (by omega) (by omega) (by omega) _
    sp := ((((sp.setNew 0 (by omega) _).setNew 1 (by omega) _).setNew 2 (by omega) _).setNew 3 (by omega) _).setNew 4 (by omega) _
    W := ((((W.setOther (by omega) 0 _).setOther (by omega) 1 _).setOther (by omega) 2 _).setOther (by omega) 3 _).setOther (by omega) 4 _
    Z := ((((Z.setOther (by omega) 0 _).setOther (by omega) 1 _).setOther (by omega) 2 _).setOther (by omega) 3 _).setOther (by omega) 4 _
    X := ((((RX.set 0 _).set 1 _).set 2 _).set 3 _).set 4 _
    hX := hX2
    D := own_move oD (by simp only [World.setCell, Array.getElem?_modify]; simp [nD])
    hd := hds
    E := OSS.nil _ _ _
    L := OSS.nil _ _ _
    F := hasb_other (hasb_other (hasb_other (hasb_other (hasb_other hF.1 nF 0 _) nF 1 _) nF 2 _) nF 3 _) nF 4 _
    R := hasb_other (hasb_other (hasb_other (hasb_other (hasb_other hR.1 nR 0 _) nR 1 _) nR 2 _) nR 3 _) nR 4 _
    tX := tX.set.set.set.set.set
    tF := hF.2.set.set.set.set.set
    tR := hR.2.set.set.set.set.set
    ne := ⟨nD, nF, nR, z.FR _ _ rfl rfl⟩
    nE := ⟨fun e => (by cases e), fun e => (by cases e), fun e => (by cases e), fun e => (by cases e)⟩
    nL := ⟨fun e => (by cases e), fun e => (by cases e), fun e => (by cases e), fun e => (by cases e)⟩
    EL := fun b e => (by cases e) }⟩
end

theorem owns_uniq {w : World} {B size n : Nat} {e : TypeId} {v : Value} {xs ys : List Value} (h : w.ownsRow B e size v n xs) (k : w.ownsRow B e size v n ys) : xs = ys := by
  obtain ⟨h1, h2⟩ := h
  obtain ⟨k1, k2⟩ := k
  rcases h2 with ⟨rfl, h0⟩ | ⟨g, cap, cur, rfl, hB, hg, q1, q2, q3, q4⟩
  · subst h0
    rw [List.eq_nil_of_length_eq_zero (by omega : xs.length = 0), List.eq_nil_of_length_eq_zero (by omega : ys.length = 0)]
  · rcases k2 with ⟨k2, _⟩ | ⟨g', cap', cur', e', hB', hg', r1, r2, r3, r4⟩
    · cases k2
    · cases e'
      rw [hg] at hg'
      cases hg'
      rw [← q4, ← r4]
theorem new_one (w : World) (v : Value) (t : TypeId) : ∀ j u, ([v] : List Value)[j]? = some u → (w.alloc (.cells #[v] t)).cell? ((⟨w.heap.size, 0, none⟩ : Addr).add j) = some u := by
  intro j u hj
  match j, hj with
  | 0, hj =>
    rw [Ow.addr_add]
    simp at hj
    subst hj
    simp
  | _ + 1, hj => simp at hj
/-- Each of the first j rows has k numbers, from -most to most. -/
def RJ (most : Int) (j k : Nat) (zss : List (List Int)) : Prop := zss.length = j ∧ ∀ i, i < j → (rw_ zss i).length = k ∧ ∀ x ∈ rw_ zss i, -most ≤ x ∧ x ≤ most
theorem RJ.more {most : Int} {j k : Nat} {zss : List (List Int)} {zs : List Int} (h : RJ most j k zss) (hl : zs.length = k) (hz : ∀ x ∈ zs, -most ≤ x ∧ x ≤ most) : RJ most (j + 1) k (zss ++ [zs]) := by
  refine ⟨by simp [h.1], fun i hi => ?_⟩
  by_cases e : i < j
  · have : rw_ (zss ++ [zs]) i = rw_ zss i := by simp [rw_, List.getElem?_append_left (by have := h.1; omega : i < zss.length)]
    rw [this]; exact h.2 i e
  · have : rw_ (zss ++ [zs]) i = zs := by
      have e2 : i = j := by omega
      subst e2
      simp [rw_, h.1]
    rw [this]; exact ⟨hl, hz⟩
theorem RJ.nil (most : Int) (k : Nat) : RJ most 0 k [] := ⟨rfl, fun i hi => by omega⟩
theorem sl_of_oss {w : World} {B k j : Nat} {v : Value} {zss : List (List Int)} (h : OSS w B v k (j + 1) zss) : ∃ g c, v = .slice (some ⟨g, 0, none⟩) (j + 1) c := by
  obtain ⟨g, c, e, _⟩ := h.rows (Nat.succ_pos _)
  exact ⟨g, c, e⟩

theorem hasb_put {w : World} {B g n y : Nat} {bs : List Bool} (h : HasB w B g 0 n bs) (hy : y < n) (b : Bool) : HasB (w.setCell ⟨g, y, none⟩ (.bool b)) B g 0 n (bs.set y b) := by
  obtain ⟨h1, h2, h3, h4, h5⟩ := h
  refine ⟨by simp [h1], h2, by simpa using h3, fun k hk => ?_, fun k hk => by rw [World.frozen?_setCell]; exact h5 k hk⟩
  have h4k := h4 k hk
  have h4y := h4 y hy
  rw [Nat.zero_add] at h4k h4y ⊢
  by_cases e : k = y
  · subst e
    rw [World.cell?_setCell_same _ _ _ h4k]
    simp [eb, List.getD, h1, hk]
  · rw [World.cell?_setCell_other _ _ _ _ (by simp <;> omega), h4k]
    have e2 : eb (bs.set y b) k = eb bs k := by simp [eb, List.getD, List.getElem?_set_ne (Ne.symm e)]
    rw [e2]
theorem eb_set (bs : List Bool) (y k : Nat) : eb (bs.set y true) k = if k = y ∧ y < bs.length then true else eb bs k := by
  unfold eb List.getD
  by_cases e : k = y
  · subst e
    by_cases h : k < bs.length
    · simp [h]
    · rw [if_neg (by omega), List.set_eq_of_length_le (by omega)]
  · rw [List.getElem?_set_ne (Ne.symm e), if_neg (by omega)]
theorem bad_one {zs zs' : List Int} {j : Nat} (hj0 : el zs j = 0) (hj1 : el zs' j ≠ 0) : ∀ k, (∀ i, i < k → i ≠ j → el zs' i = el zs i) → bad zs' k = bad zs k + if j < k then 1 else 0
  | 0, _ => rfl
  | k + 1, h => by
    rw [bad, bad, bad_one hj0 hj1 k (fun i hi hn => h i (by omega) hn)]
    by_cases e : k = j
    · subst e; rw [if_neg (by omega : ¬ k < k), if_neg hj1, if_pos hj0, if_pos (by omega : k < k + 1)]
    · rw [h k (by omega) e]
      by_cases q : j < k
      · rw [if_pos q, if_pos (by omega : j < k + 1)]; omega
      · rw [if_neg q, if_neg (by omega : ¬ j < k + 1)]; omega
theorem bad_same {zs zs' : List Int} : ∀ k, (∀ i, i < k → el zs' i = el zs i) → bad zs' k = bad zs k
  | 0, _ => rfl
  | k + 1, h => by rw [bad, bad, bad_same k (fun i hi => h i (by omega)), h k (by omega)]
theorem fk_at (ks : List Int) (fs : List Bool) (i : Nat) (hi : i < ks.length) : el (FK ks fs) i = if eb fs i = true then 1 else el ks i := by
  unfold FK
  rw [Tu.fk_el ks fs ks.length i hi]
  simp [hi]
/-- Whoever falls was up, whoever rises was down, and no more than l are not up. -/
def FL (j k : Nat) (l : Int) (ks : List Int) (fs rs : List Bool) : Prop := (∀ i, eb fs i = true → i < j ∧ el ks i = 0) ∧ (∀ i, eb rs i = true → i < j ∧ el ks i = 1) ∧ (bad (FK ks fs) k : Int) ≤ l
theorem eb_none (n i : Nat) : eb (List.replicate n false) i = false := by
  unfold eb List.getD
  rw [List.getElem?_replicate]
  split <;> rfl
theorem bad_none (ks : List Int) (n k : Nat) (hk : k ≤ ks.length) : bad (FK ks (List.replicate n false)) k = bad ks k :=
  bad_same k (fun i hi => by rw [fk_at _ _ _ (by omega), eb_none]; rfl)
theorem FL.start {k : Nat} {l : Int} {ks : List Int} (hk : k ≤ ks.length) (hb : (bad ks k : Int) ≤ l) : FL 0 k l ks (List.replicate k false) (List.replicate k false) :=
  ⟨fun i e => by rw [eb_none] at e; (cases e), fun i e => by rw [eb_none] at e; (cases e), by rw [bad_none _ _ _ hk]; exact hb⟩
theorem FL.next {j k : Nat} {l : Int} {ks : List Int} {fs rs : List Bool} (h : FL j k l ks fs rs) : FL (j + 1) k l ks fs rs :=
  ⟨fun i e => ⟨by have := (h.1 i e).1; omega, (h.1 i e).2⟩, fun i e => ⟨by have := (h.2.1 i e).1; omega, (h.2.1 i e).2⟩, h.2.2⟩
theorem FL.rise {j k : Nat} {l : Int} {ks : List Int} {fs rs : List Bool} (h : FL j k l ks fs rs) (h1 : el ks j = 1) : FL (j + 1) k l ks fs (rs.set j true) :=
  ⟨h.next.1, fun i e => by
    rw [eb_set] at e
    by_cases q : i = j ∧ j < rs.length
    · exact ⟨by omega, by rw [q.1]; exact h1⟩
    · rw [if_neg q] at e; exact h.next.2.1 i e, h.2.2⟩
theorem bad_fall {j k : Nat} {l : Int} {ks : List Int} {fs rs : List Bool} (h : FL j k l ks fs rs) (h0 : el ks j = 0) (hj : j < k) (hf : j < fs.length) (hk : k ≤ ks.length) : bad (FK ks (fs.set j true)) k = bad (FK ks fs) k + 1 := by
  have e0 : eb fs j = false := by
    cases e : eb fs j with
    | false => rfl
    | true => have := (h.1 j e).1; omega
  rw [bad_one (j := j) (zs := FK ks fs) (by rw [fk_at _ _ _ (by omega), e0]; exact h0) (by rw [fk_at _ _ _ (by omega), eb_set]; simp [hf]) k (fun i hi hn => by rw [fk_at _ _ _ (by omega), fk_at _ _ _ (by omega), eb_set]; simp [hn]), if_pos hj]
theorem FL.fall {j k : Nat} {l : Int} {ks : List Int} {fs rs : List Bool} (h : FL j k l ks fs rs) (h0 : el ks j = 0) (hj : j < k) (hf : j < fs.length) (hk : k ≤ ks.length) (hl : (bad (FK ks fs) k : Int) < l) : FL (j + 1) k l ks (fs.set j true) rs :=
  ⟨fun i e => by
    rw [eb_set] at e
    by_cases q : i = j ∧ j < fs.length
    · exact ⟨by omega, by rw [q.1]; exact h0⟩
    · rw [if_neg q] at e; exact h.next.1 i e, h.next.2.1, by rw [bad_fall h h0 hj hf hk]; omega⟩
section
variable {w0 w w' : World} {B p : Nat} {a : Option Addr} {len cap : Nat} {cW : List Value} {k : Nat} {d : Int} {gX gD cD gF gR : Nat} {xE xL vE vL : Value} {jE jL : Nat} {ds : List Int} {es ls : List (List Int)} {fs rs : List Bool}
theorem Zs.setR (z : Zs w0 w B p a len cap cW k d gX gD cD gF gR xE xL vE vL jE jL ds es ls fs rs w') (hp : p < w.heap.size) (hB : B ≤ p) (h0 : w0.heap.size ≤ w.heap.size) {j : Nat} (hj : j < k) :
    Zs w0 w B p a len cap cW k d gX gD cD gF gR xE xL vE vL jE jL ds es ls fs (rs.set j true) (w'.setCell ⟨gR, j, none⟩ (.bool true)) :=
  have hR := z.R.2.1
  have hD : gD ≠ gR := fun e => by
    obtain ⟨cur, x, e3⟩ := z.tR
    obtain ⟨_, _, _, _, cur2, e4, _⟩ := z.D.data
    rw [← e, e4] at e3
    injection e3 with e3
    injection e3 with e5 e6 e7
    exact absurd e6 (by decide)
  { st := z.st.setNew j (by omega) (by omega) (by omega) _
    sp := z.sp.setNew j (by omega) _
    W := z.W.setOther (by omega) j _
    Z := z.Z.setOther (by omega) j _
    X := z.X.setOther (Ne.symm z.ne.2.2.1) j _
    hX := z.hX
    D := own_move z.D (Below.heap_setCell _ _ _ _ hD)
    hd := z.hd
    E := oss_put z.E z.nE.2.2.1 z.tR (by decide)
    L := oss_put z.L z.nL.2.2.1 z.tR (by decide)
    F := hasb_other z.F (Ne.symm z.ne.2.2.2) j _
    R := hasb_put z.R hj true
    tX := z.tX.set, tF := z.tF.set, tR := z.tR.set
    ne := z.ne, nE := z.nE, nL := z.nL, EL := z.EL }
theorem Zs.setF (z : Zs w0 w B p a len cap cW k d gX gD cD gF gR xE xL vE vL jE jL ds es ls fs rs w') (hp : p < w.heap.size) (hB : B ≤ p) (h0 : w0.heap.size ≤ w.heap.size) {j : Nat} (hj : j < k) :
    Zs w0 w B p a len cap cW k d gX gD cD gF gR xE xL vE vL jE jL ds es ls (fs.set j true) rs (w'.setCell ⟨gF, j, none⟩ (.bool true)) :=
  have hF := z.F.2.1
  have hD : gD ≠ gF := fun e => by
    obtain ⟨cur, x, e3⟩ := z.tF
    obtain ⟨_, _, _, _, cur2, e4, _⟩ := z.D.data
    rw [← e, e4] at e3
    injection e3 with e3
    injection e3 with e5 e6 e7
    exact absurd e6 (by decide)
  { st := z.st.setNew j (by omega) (by omega) (by omega) _
    sp := z.sp.setNew j (by omega) _
    W := z.W.setOther (by omega) j _
    Z := z.Z.setOther (by omega) j _
    X := z.X.setOther (Ne.symm z.ne.2.1) j _
    hX := z.hX
    D := own_move z.D (Below.heap_setCell _ _ _ _ hD)
    hd := z.hd
    E := oss_put z.E z.nE.2.1 z.tF (by decide)
    L := oss_put z.L z.nL.2.1 z.tF (by decide)
    F := hasb_put z.F hj true
    R := hasb_other z.R z.ne.2.2.2 j _
    tX := z.tX.set, tF := z.tF.set, tR := z.tR.set
    ne := z.ne, nE := z.nE, nL := z.nL, EL := z.EL }
end

/-- A turn that a call owns: its lists. -/
structure HT (w : World) (B0 k gD cD gF gR : Nat) (vE vL : Value) (ds : List Int) (es ls : List (List Int)) (fs rs : List Bool) : Prop where
  D : Own w B0 gD k cD ds
  E : OSS w B0 vE k k es
  L : OSS w B0 vL k k ls
  F : HasB w B0 gF 0 k fs
  R : HasB w B0 gR 0 k rs
/-- Right lists for a turn. -/
structure RT (d r l : Int) (k : Nat) (ks ds : List Int) (es ls : List (List Int)) (fs rs : List Bool) : Prop where
  d1 : ∀ x ∈ ds, -d ≤ x ∧ x ≤ d
  dl : ds.length = k
  er : RJ r k k es
  lr : RJ 300 k k ls
  f : FL k k l ks fs rs
  fl : fs.length = k
  rl : rs.length = k
theorem el_mem {zs : List Int} {j : Nat} (h : j < zs.length) : el zs j ∈ zs := by
  have e : el zs j = zs[j] := by simp [el, List.getD, h]
  rw [e]
  exact List.getElem_mem _
theorem r1_is {q : Int} {k : Nat} {zs : List Int} (hq : Ad.Tm (-q) ∧ Ad.Tm q ∧ -q ≤ q) (h : zs.length = k ∧ ∀ x ∈ zs, -q ≤ x ∧ x ≤ q) : R1 q k zs = true := by
  unfold R1
  rw [all_of hq k (fun j hj => h.2 _ (el_mem (by omega)))]
  simp [h.1]
theorem rows_is {q : Int} {k : Nat} {zss : List (List Int)} (hq : Ad.Tm (-q) ∧ Ad.Tm q ∧ -q ≤ q) : ∀ j, (∀ i, i < j → (rw_ zss i).length = k ∧ ∀ x ∈ rw_ zss i, -q ≤ x ∧ x ≤ q) → Tu.rowsK q k zss j = true
  | 0, _ => rfl
  | j + 1, h => by
    rw [Tu.rowsK, rows_is hq j (fun i hi => h i (by omega)), r1_is hq (h j (by omega))]; rfl
theorem rs_is {q Q : Int} {k : Nat} {zss : List (List Int)} (hQ : q ≤ Q) (hq : Ad.Tm (-Q) ∧ Ad.Tm Q ∧ -Q ≤ Q) (h : RJ q k k zss) : RS Q k zss = true := by
  unfold RS
  rw [rows_is hq k (fun i hi => ⟨(h.2 i hi).1, fun x hx => by have := (h.2 i hi).2 x hx; omega⟩)]
  simp [h.1]
theorem fr_is {ks : List Int} {fs rs : List Bool} (hf : ∀ i, eb fs i = true → el ks i = 0) (hr : ∀ i, eb rs i = true → el ks i = 1) : ∀ j, FR ks fs rs j = true
  | 0 => rfl
  | j + 1 => by
    rw [FR, fr_is hf hr j]
    cases h1 : eb fs j with
    | true =>
      cases h2 : eb rs j with
      | true => have a := hf j h1; have b := hr j h2; rw [a] at b; cases b
      | false => simp [hf j h1]
    | false =>
      cases h2 : eb rs j with
      | true => simp [hr j h2]
      | false => rfl
theorem RT.to {n l d r q s : Int} {ks os : List Int} {k m : Nat} {t : Int} {ds : List Int} {es ls : List (List Int)} {fs rs : List Bool} (h : RT d r l k ks ds es ls fs rs) (hw : WO n l d r q s ks k os m t = true) (d0 : 0 ≤ d) (d1 : d ≤ 1000000) (r0 : 0 ≤ r) (r1 : r ≤ 1000000) : TO n l d r q s ks k os m t ds es ls fs rs k k = true := by
  have T : ∀ q : Int, 0 ≤ q → q ≤ 1000000000000000 → Ad.Tm (-q) ∧ Ad.Tm q ∧ -q ≤ q := fun q h0 h1 => by unfold Ad.Tm; omega
  unfold TO
  rw [hw, r1_is (T d (by omega) (by omega)) ⟨h.dl, h.d1⟩, rs_is (Int.le_refl r) (T r (by omega) (by omega)) h.er, rs_is (by omega) (T 1000000000000000 (by omega) (by omega)) h.lr, fr_is (fun i e => (h.f.1 i e).2) (fun i e => (h.f.2.1 i e).2) k, decide_eq_true h.f.2.2]
  simp
theorem ret5 {fn : Func} {ts : Array Value} {W : World} {R c : Nat} {a1 a2 a3 a4 a5 : Option Addr} {n1 c1 n2 c2 n3 c3 n4 c4 n5 c5 : Nat} (hf : fn.results = #[.cell c 37]) (h2 : ts[c]? = some (.pointer (some ⟨R, 0, none⟩))) (h : Rm.Room W R [.slice a1 n1 c1, .slice a2 n2 c2, .slice a3 n3 c3, .slice a4 n4 c4, .slice a5 n5 c5]) :
    (results fn ts).run Try.prog W = .ok (trn (.slice a1 n1 c1) (.slice a2 n2 c2) (.slice a3 n3 c3) (.slice a4 n4 c4) (.slice a5 n5 c5)) W := by
  have q0 := h.cell 0 rfl
  have q1 := h.cell 1 rfl
  have q2 := h.cell 2 rfl
  have q3 := h.cell 3 rfl
  have q4 := h.cell 4 rfl
  simp [results, hf, h2, go_sem, q0, q1, q2, q3, q4]
set_option maxHeartbeats 16000000 in
set_option maxRecDepth 100000 in
theorem turn (B p : Nat) (a : Option Addr) (len cap : Nat) (n l d r q s t : Int) (BB bK k cK : Nat) (aO : Option Addr) (m cO : Nat) (ks : List Int) (w0 w : World) (st : St w0 B p a len cap w) (hK : Has w BB bK 0 k ks) (hne : bK ≠ p) (hd0 : 0 ≤ d) (hd1 : d ≤ 1000000) (hr0 : 0 ≤ r) (hr1 : r ≤ 1000000) (hk : k ≤ 16) (hb : (bad ks k : Int) ≤ l) :
    Calls Try.prog 16 #[.pointer (some ⟨p, 0, none⟩), wld n l d r q s (.slice (some ⟨bK, 0, none⟩) k cK) (.slice aO m cO) t] w fun e w' => (∃ (gD cD gF gR cE cL : Nat) (aE aL : Option Addr), e = .returned (trn (.slice (some ⟨gD, 0, none⟩) k cD) (.slice aE k cE) (.slice aL k cL) (.slice (some ⟨gF, 0, none⟩) k k) (.slice (some ⟨gR, 0, none⟩) k k)) ∧ ∃ (ds : List Int) (es ls : List (List Int)) (fs rs : List Bool), HT w' (w.heap.size + 2) k gD cD gF gR (.slice aE k cE) (.slice aL k cL) ds es ls fs rs ∧ RT d r l k ks ds es ls fs rs) ∧ St w0 B p a len cap w' ∧ Dr.Step p w w'  := by
  have hpl := st.lt
  have hle := st.le
  have h0w := st.step.size
  have RW0 := (Rm.Room.new w [.int .i64 n, .int .i64 l, .int .i64 d, .int .i64 r, .int .i64 q, .int .i64 s, .slice (some ⟨bK, 0, none⟩) k cK, .slice aO m cO, .int .i64 t] 31).alloc (.cells #[.slice none 0 0, .slice none 0 0, .slice none 0 0, .slice none 0 0, .slice none 0 0] 37)
  have RZ0 : Rm.Room ((w.alloc (.cells #[.int .i64 n, .int .i64 l, .int .i64 d, .int .i64 r, .int .i64 q, .int .i64 s, .slice (some ⟨bK, 0, none⟩) k cK, .slice aO m cO, .int .i64 t] 31)).alloc (.cells #[.slice none 0 0, .slice none 0 0, .slice none 0 0, .slice none 0 0, .slice none 0 0] 37)) (w.heap.size + 1) Z5 := Rm.Room.at _ Z5 37 _ (by simp)
  have hz1 : Zt w0 w B p a len cap [.int .i64 n, .int .i64 l, .int .i64 d, .int .i64 r, .int .i64 q, .int .i64 s, .slice (some ⟨bK, 0, none⟩) k cK, .slice aO m cO, .int .i64 t] k d none none none none ((w.alloc (.cells #[.int .i64 n, .int .i64 l, .int .i64 d, .int .i64 r, .int .i64 q, .int .i64 s, .slice (some ⟨bK, 0, none⟩) k cK, .slice aO m cO, .int .i64 t] 31)).alloc (.cells #[.slice none 0 0, .slice none 0 0, .slice none 0 0, .slice none 0 0, .slice none 0 0] 37)) := ⟨(st.obj _).obj _, ((Dr.Step.refl p w).alloc _).alloc _, RW0, RZ0, fun _ _ e => (by cases e), fun _ e => (by cases e), fun _ e => (by cases e), fun _ e => (by cases e), fun _ _ e => (by cases e), fun _ _ _ e => (by cases e), fun _ _ e => (by cases e), fun _ _ e => (by cases e)⟩
  obtain ⟨w1, e1⟩ : ∃ x, x = ((w.alloc (.cells #[.int .i64 n, .int .i64 l, .int .i64 d, .int .i64 r, .int .i64 q, .int .i64 s, .slice (some ⟨bK, 0, none⟩) k cK, .slice aO m cO, .int .i64 t] 31)).alloc (.cells #[.slice none 0 0, .slice none 0 0, .slice none 0 0, .slice none 0 0, .slice none 0 0] 37)) := ⟨_, rfl⟩
  rw [← e1] at RW0 RZ0 hz1
  have c6 := RW0.cell 6 rfl
  have hmk := run_make_row' (P := Try.prog) 35 4 (.bool false) 1 Try.underlying35 Bo.info rfl .i64 .i64 k (by omega) (by omega)
  go_enter Try.func16, Try.ntmps16
  have E1 : Hid (w1 = _) := e1
  (try rw [← e1])
  clear e1
  go_wp2_with fail
  (try rw [← E1.out])
  clear c6 E1 RW0 RZ0
  go_cut [6] from 10 (fun p6 wc => ∃ gX gD cD gF gR : Nat, p6 = .pointer (some ⟨gX, 0, none⟩) ∧ ∃ ds : List Int, Zs w0 w B p a len cap [.int .i64 n, .int .i64 l, .int .i64 d, .int .i64 r, .int .i64 q, .int .i64 s, .slice (some ⟨bK, 0, none⟩) k cK, .slice aO m cO, .int .i64 t] k d gX gD cD gF gR (.slice none 0 0) (.slice none 0 0) (.slice none 0 0) (.slice none 0 0) (0) (0) ds ([]) ([]) (List.replicate k false) (List.replicate k false) wc)
  case first =>
    refine wp_region_noPanic ?_
    refine wp_region_held_drew (S := (fun w' => w'.cell? ⟨w.heap.size, 2, none⟩ = some (.int .i64 d))) (by kernel_rfl) (hz1.drew.W.cell 2 rfl) (fun hHeld => ?_)
    have hz := hz1.drew
    generalize w1.drew = wd at hHeld hz ⊢
    clear hz1
    refine Tk.W 0 (some 13) (.move (.tmp 0)) 24 none ?_
    refine Tk.W 1 (some 14) (.move (.tmp 5)) 2 none ?_
    refine Tk.W 2 (some 15) (.fieldAddr 31 (.tmp 3) 0) 0 none ?_
    refine Tk.W 3 (some 16) (.fieldAddr 28 (.tmp 15) 2) 0 none ?_
    refine Tk.W 4 (some 17) (.load 2 (.tmp 16)) 2 none ?_
    refine Tk.W 6 (some 19) (.move (.tmp 5)) 2 none ?_
    refine Tk.W 8 (some 21) (.move (.tmp 5)) 2 none ?_
    repeat' first
      | refine Tk.W 10 (some 23) (.build 37 #[(0, .tmp 18), (3, .tmp 20), (4, .tmp 22)]) 37 none ?_ (hr := by decide +kernel)
      | exact AllReadyH.nil
      | (refine AllReadyH.cons (i := 5) (o := ⟨some 18, .call ⟨.value (.func 55), #[.tmp 13, .tmp 14, .tmp 17], #[24, 2, 2]⟩, 29, _, _, none⟩) rfl (fun K hK => ?_) ?_
         focus
           go_simp
           refine (Rw.row B p a len cap k d hd0 (by omega) (by omega) _ _ hz.st.here (Nat.le_refl _)).mono ?_
           rintro e wD ⟨⟨gD, cD, rfl, ds, oD, hds⟩, bs, b⟩
           replace hz := hz.row (by simp) hpl b bs oD hds
           clear oD hds bs b ds
           refine hK.out _ _ (hz.W.cell 2 rfl) ?_; clear hK K hHeld; intro hHeld; try simp only [Act.put, List.setIfInBounds_toArray, List.set_cons_zero, List.set_cons_succ])
      | (refine AllReadyH.cons (i := 7) (o := ⟨some 20, .makeSlice 35 (.tmp 19) (.tmp 19), 35, _, _, none⟩) rfl (fun K hK => ?_) ?_
         focus
           go_simp
           obtain ⟨gF, wn, e1, e2, hz2⟩ := hz.mkF'; clear hz
           rw [e1, e2]; clear e1 e2
           have hz := hz2; clear hz2
           refine hK.out _ _ (hz.W.cell 2 rfl) ?_; clear hK K hHeld; intro hHeld; try simp only [Act.put, List.setIfInBounds_toArray, List.set_cons_zero, List.set_cons_succ])
      | (refine AllReadyH.cons (i := 9) (o := ⟨some 22, .makeSlice 35 (.tmp 21) (.tmp 21), 35, _, _, none⟩) rfl (fun K hK => ?_) ?_
         focus
           go_simp
           obtain ⟨gR, wn, e1, e2, hz2⟩ := hz.mkR'; clear hz
           rw [e1, e2]; clear e1 e2
           have hz := hz2; clear hz2
           refine hK.out _ _ (hz.W.cell 2 rfl) ?_; clear hK K hHeld; intro hHeld; try simp only [Act.put, List.setIfInBounds_toArray, List.set_cons_zero, List.set_cons_succ])
      | (refine AllReadyH.cons (i := 11) (o := ⟨some 6, .alloc 37, 0, _, _, none⟩) rfl (fun K hK => ?_) ?_
         focus
           go_simp
           obtain ⟨gX, wn, e1, e2, hz2⟩ := hz.mkX'; clear hz
           rw [e1, e2]; clear e1 e2
           have hz := hz2; clear hz2
           refine hK.out _ _ (hz.W.cell 2 rfl) ?_; clear hK K hHeld; intro hHeld; try simp only [Act.put, List.setIfInBounds_toArray, List.set_cons_zero, List.set_cons_succ])
      | refine wpAnyH_ready (rs := [5, 7, 9, 11]) (by decide +kernel) (by simp) ?_
      | refine wpAnyH_ready (rs := [7, 9, 11]) (by decide +kernel) (by simp) ?_
      | refine wpAnyH_ready (rs := [5, 9, 11]) (by decide +kernel) (by simp) ?_
      | refine wpAnyH_ready (rs := [5, 7, 11]) (by decide +kernel) (by simp) ?_
      | refine wpAnyH_ready (rs := [5, 7, 9]) (by decide +kernel) (by simp) ?_
      | refine wpAnyH_ready (rs := [9, 11]) (by decide +kernel) (by simp) ?_
      | refine wpAnyH_ready (rs := [7, 11]) (by decide +kernel) (by simp) ?_
      | refine wpAnyH_ready (rs := [7, 9]) (by decide +kernel) (by simp) ?_
      | refine wpAnyH_ready (rs := [5, 11]) (by decide +kernel) (by simp) ?_
      | refine wpAnyH_ready (rs := [5, 9]) (by decide +kernel) (by simp) ?_
      | refine wpAnyH_ready (rs := [5, 7]) (by decide +kernel) (by simp) ?_
      | (refine Tk.R 5 (some 18) (.call ⟨.value (.func 55), #[.tmp 13, .tmp 14, .tmp 17], #[24, 2, 2]⟩) 29 none (fun K hK => ?_) (hr := by decide +kernel)
         go_simp
         refine (Rw.row B p a len cap k d hd0 (by omega) (by omega) _ _ hz.st.here (Nat.le_refl _)).mono ?_
         rintro e wD ⟨⟨gD, cD, rfl, ds, oD, hds⟩, bs, b⟩
         replace hz := hz.row (by simp) hpl b bs oD hds
         clear oD hds bs b ds
         refine hK.out _ _ (hz.W.cell 2 rfl) ?_; clear hK K hHeld; intro hHeld; try simp only [Act.put, List.setIfInBounds_toArray, List.set_cons_zero, List.set_cons_succ])
      | (refine Tk.R 7 (some 20) (.makeSlice 35 (.tmp 19) (.tmp 19)) 35 none (fun K hK => ?_) (hr := by decide +kernel)
         go_simp
         obtain ⟨gF, wn, e1, e2, hz2⟩ := hz.mkF'; clear hz
         rw [e1, e2]; clear e1 e2
         have hz := hz2; clear hz2
         refine hK.out _ _ (hz.W.cell 2 rfl) ?_; clear hK K hHeld; intro hHeld; try simp only [Act.put, List.setIfInBounds_toArray, List.set_cons_zero, List.set_cons_succ])
      | (refine Tk.R 9 (some 22) (.makeSlice 35 (.tmp 21) (.tmp 21)) 35 none (fun K hK => ?_) (hr := by decide +kernel)
         go_simp
         obtain ⟨gR, wn, e1, e2, hz2⟩ := hz.mkR'; clear hz
         rw [e1, e2]; clear e1 e2
         have hz := hz2; clear hz2
         refine hK.out _ _ (hz.W.cell 2 rfl) ?_; clear hK K hHeld; intro hHeld; try simp only [Act.put, List.setIfInBounds_toArray, List.set_cons_zero, List.set_cons_succ])
      | (refine Tk.R 11 (some 6) (.alloc 37) 0 none (fun K hK => ?_) (hr := by decide +kernel)
         go_simp
         obtain ⟨gX, wn, e1, e2, hz2⟩ := hz.mkX'; clear hz
         rw [e1, e2]; clear e1 e2
         have hz := hz2; clear hz2
         refine hK.out _ _ (hz.W.cell 2 rfl) ?_; clear hK K hHeld; intro hHeld; try simp only [Act.put, List.setIfInBounds_toArray, List.set_cons_zero, List.set_cons_succ])
      | (refine Tk.R 12 none (.store 37 (.tmp 6) (.tmp 23)) 0 none (fun K hK => ?_) (hr := by decide +kernel)
         have RX := (hz.X _ rfl).2.1
         have d0 := RX.cell 0 rfl
         have d1 := RX.cell 1 rfl
         have d2 := RX.cell 2 rfl
         have d3 := RX.cell 3 rfl
         have d4 := RX.cell 4 rfl
         have f0 := RX.froz 0 rfl
         have f1 := RX.froz 1 rfl
         have f2 := RX.froz 2 rfl
         have f3 := RX.froz 3 rfl
         have f4 := RX.froz 4 rfl
         go_simp
         clear d0 f0 d1 f1 d2 f2 d3 f3 d4 f4 RX
         obtain ⟨ds, zs⟩ := hz.store hpl hle h0w
         clear hz
         refine hK.out _ _ (zs.W.cell 2 rfl) ?_; clear hK K hHeld; intro hHeld; try simp only [Act.put, List.setIfInBounds_toArray, List.set_cons_zero, List.set_cons_succ])
      | (refine wpAnyH_done (by decide +kernel) ?_ _
         refine NoPanic.normal ?_
         clear hHeld
         go_wp2_with fail
         go_meet
         case rel => exact ⟨gX, gD, cD, gF, gR, rfl, ds, zs⟩)
  case rest =>
    obtain ⟨gX, gD, cD, gF, gR, rfl, ds, z⟩ := hcut
    obtain ⟨iS, hiS, hS0, hS1, hS2⟩ := info_parts info_sl
    go_wp2_with fail
    go_loopw [7, 8] (fun b i wr => ∃ (j cE cL : Nat) (aE aL : Option Addr) (es ls : List (List Int)), j ≤ k ∧ i = .int .i64 j ∧ b = .int .i64 (bad ks j) ∧ Zs w0 w B p a len cap [.int .i64 n, .int .i64 l, .int .i64 d, .int .i64 r, .int .i64 q, .int .i64 s, .slice (some ⟨bK, 0, none⟩) k cK, .slice aO m cO, .int .i64 t] k d gX gD cD gF gR (.slice aE (j) cE) (.slice aL (j) cL) (.slice aE (j) cE) (.slice aL (j) cL) (j) (j) ds (es) (ls) (List.replicate k false) (List.replicate k false) wr ∧ Hid (RJ r j k es ∧ RJ 300 j k ls)) (fun _ i _ => k - (intOf i).toNat)
    case atStart => exact ⟨0, 0, 0, none, none, [], [], Nat.zero_le _, rfl, rfl, z, RJ.nil _ _, RJ.nil _ _⟩
    case round =>
      obtain ⟨j, cE, cL, aE, aL, es, ls, hj, rfl, rfl, hz, HJ⟩ := hrel
      by_cases hlt : j < k
      · have hi' : (j : Int) < (k : Int) := by omega
        go_wp2_with fail
        go_cut [7] from 29 to 39 (fun b7 wc => b7 = .int .i64 (bad ks j) ∧ ∃ (cE : Nat) (aE : Option Addr) (es : List (List Int)), Zs w0 w B p a len cap [.int .i64 n, .int .i64 l, .int .i64 d, .int .i64 r, .int .i64 q, .int .i64 s, .slice (some ⟨bK, 0, none⟩) k cK, .slice aO m cO, .int .i64 t] k d gX gD cD gF gR (.slice aE (j + 1) cE) (.slice aL (j) cL) (.slice aE (j + 1) cE) (.slice aL (j) cL) (j + 1) (j) ds (es) (ls) (List.replicate k false) (List.replicate k false) wc ∧ Hid (RJ r (j + 1) k es))
        case first =>
          refine wp_region_noPanic ?_
          refine wp_region_held_drew (S := (fun w' => w'.cell? ⟨w.heap.size, 3, none⟩ = some (.int .i64 r))) (by kernel_rfl) (hz.W.cell 3 rfl) (fun hHeld => ?_)
          replace hz := hz.below (Below.refl _ wr).drew
          generalize wr.drew = wd at hHeld hz ⊢
          refine Tk.W 0 (some 29) (.fieldAddr 37 (.tmp 6) 1) 0 none ?_
          refine Tk.W 2 (some 31) (.move (.tmp 0)) 24 none ?_
          refine Tk.W 3 (some 32) (.move (.tmp 5)) 2 none ?_
          refine Tk.W 4 (some 33) (.fieldAddr 31 (.tmp 3) 0) 0 none ?_
          refine Tk.W 5 (some 34) (.fieldAddr 28 (.tmp 33) 3) 0 none ?_
          refine Tk.W 6 (some 35) (.load 2 (.tmp 34)) 2 none ?_
          repeat' first
            | refine Tk.W 10 (some 39) (.fieldAddr 37 (.tmp 6) 1) 0 none ?_ (hr := by decide +kernel)
            | exact AllReadyH.nil
            | (refine AllReadyH.cons (i := 1) (o := ⟨some 30, .load 34 (.tmp 29), 34, _, _, none⟩) rfl (fun K hK => ?_) ?_
               focus
                 first | have c := hz8.X.cell 1 rfl | have c := hz.X.cell 1 rfl
                 go_simp
                 clear c
                 refine hK.out _ _ hHeld ?_; clear hK K hHeld; intro hHeld; try simp only [Act.put, List.setIfInBounds_toArray, List.set_cons_zero, List.set_cons_succ])
            | (refine AllReadyH.cons (i := 7) (o := ⟨some 36, .call ⟨.value (.func 55), #[.tmp 31, .tmp 32, .tmp 35], #[24, 2, 2]⟩, 29, _, _, none⟩) rfl (fun K hK => ?_) ?_
               focus
                 have hlz := hz.lt
                 go_simp
                 refine (Rw.row B p a len cap k r hr0 (by omega) (by omega) _ _ hz.st.here (Nat.le_refl _)).mono ?_
                 rintro e wN ⟨⟨gN, cN, rfl, zs, oN, hzs⟩, bs, b⟩
                 replace oN := oN.mono hlz; clear hlz
                 replace hz := hz.step (by simp) hpl b bs
                 clear bs b
                 refine hK.out _ _ (hz.W.cell 3 rfl) ?_; clear hK K hHeld; intro hHeld; try simp only [Act.put, List.setIfInBounds_toArray, List.set_cons_zero, List.set_cons_succ])
            | (refine AllReadyH.cons (i := 8) (o := ⟨some 37, .buildSlice 34 1 #[(0, .tmp 36)], 34, _, _, none⟩) rfl (fun K hK => ?_) ?_
               focus
                 go_simp
                 have hz8 := hz.below ((Below.refl _ wN).alloc (Nat.le_refl _) (.cells #[.slice (some ⟨gN, 0, none⟩) k cN] 29))
                 refine hK.out _ _ (hz8.W.cell 3 rfl) ?_; clear hK K hHeld; intro hHeld; try simp only [Act.put, List.setIfInBounds_toArray, List.set_cons_zero, List.set_cons_succ])
            | refine wpAnyH_ready (rs := [1, 7]) (by decide +kernel) (by simp) ?_
            | refine wpAnyH_ready (rs := [1, 8]) (by decide +kernel) (by simp) ?_
            | (refine Tk.R 1 (some 30) (.load 34 (.tmp 29)) 34 none (fun K hK => ?_) (hr := by decide +kernel)
               first | have c := hz8.X.cell 1 rfl | have c := hz.X.cell 1 rfl
               go_simp
               clear c
               refine hK.out _ _ hHeld ?_; clear hK K hHeld; intro hHeld; try simp only [Act.put, List.setIfInBounds_toArray, List.set_cons_zero, List.set_cons_succ])
            | (refine Tk.R 7 (some 36) (.call ⟨.value (.func 55), #[.tmp 31, .tmp 32, .tmp 35], #[24, 2, 2]⟩) 29 none (fun K hK => ?_) (hr := by decide +kernel)
               have hlz := hz.lt
               go_simp
               refine (Rw.row B p a len cap k r hr0 (by omega) (by omega) _ _ hz.st.here (Nat.le_refl _)).mono ?_
               rintro e wN ⟨⟨gN, cN, rfl, zs, oN, hzs⟩, bs, b⟩
               replace oN := oN.mono hlz; clear hlz
               replace hz := hz.step (by simp) hpl b bs
               clear bs b
               refine hK.out _ _ (hz.W.cell 3 rfl) ?_; clear hK K hHeld; intro hHeld; try simp only [Act.put, List.setIfInBounds_toArray, List.set_cons_zero, List.set_cons_succ])
            | (refine Tk.R 8 (some 37) (.buildSlice 34 1 #[(0, .tmp 36)]) 34 none (fun K hK => ?_) (hr := by decide +kernel)
               go_simp
               have hz8 := hz.below ((Below.refl _ wN).alloc (Nat.le_refl _) (.cells #[.slice (some ⟨gN, 0, none⟩) k cN] 29))
               refine hK.out _ _ (hz8.W.cell 3 rfl) ?_; clear hK K hHeld; intro hHeld; try simp only [Act.put, List.setIfInBounds_toArray, List.set_cons_zero, List.set_cons_succ])
            | (refine Tk.R 9 (some 38) (.call ⟨.builtin .append, #[.tmp 30, .tmp 37], #[34, 34]⟩) 34 none (fun K hK => ?_) (hr := by decide +kernel)
               clear hz8
               have hlz := hz.lt
               obtain ⟨vs, hvs, _⟩ := hz.E
               refine Ow.step_own_at rfl (.tmp 30) (.tmp 37) 34 rfl (w.heap.size + 2) 29 iS (.slice none 0 0) 1 24 Try.underlying34 hiS hS0 hS1 hS2 rfl (by decide) _ j vs rfl (World.ownsRow.alloc (w := wN) hvs _) ⟨wN.heap.size, 0, none⟩ 1 1 [.slice (some ⟨gN, 0, none⟩) k cN] rfl rfl (new_one wN _ _) (by simp [Value.oneCell']) (by unfold maxLen; omega) (by omega) (by simp; omega) ?_
               intro v2 w2 hx2 hg2 hn2 ha2
               replace hz := hz.moreE hpl hle h0w oN hg2 (fun ws hws => by rw [owns_uniq hws hvs]; exact hx2) ha2
               clear hx2 hg2 hn2 ha2 hvs hlz
               obtain ⟨g2, c2, rfl⟩ := sl_of_oss hz.E
               refine hK.out _ _ (hz.W.cell 3 rfl) ?_; clear hK K hHeld; intro hHeld; try simp only [Act.put, List.setIfInBounds_toArray, List.set_cons_zero, List.set_cons_succ])
            | (refine Tk.R 11 none (.store 34 (.tmp 39) (.tmp 38)) 0 none (fun K hK => ?_) (hr := by decide +kernel)
               have c := hz.X.cell 1 rfl
               have f := hz.X.froz 1 rfl
               go_simp
               clear c f
               replace hz := hz.put hpl hle h0w 1 (.slice (some ⟨g2, 0, none⟩) (j + 1) c2) rfl
               refine hK.out _ _ (hz.W.cell 3 rfl) ?_; clear hK K hHeld; intro hHeld; try simp only [Act.put, List.setIfInBounds_toArray, List.set_cons_zero, List.set_cons_succ])
            | (refine wpAnyH_done (by decide +kernel) ?_ _
               refine NoPanic.normal ?_
               clear hHeld
               go_wp2_with fail
               go_meet
               case rel => exact ⟨rfl, _, _, _, hz, HJ.out.1.more oN.data.1 hzs⟩)
        case rest =>
          obtain ⟨rfl, cE, aE, es, hz, HE⟩ := hcut
          generalize wc = wr at hz ⊢
          go_wp2_with fail
          go_cut [7] from 40 to 47 (fun b7 wc => b7 = .int .i64 (bad ks j) ∧ ∃ (cL : Nat) (aL : Option Addr) (ls : List (List Int)), Zs w0 w B p a len cap [.int .i64 n, .int .i64 l, .int .i64 d, .int .i64 r, .int .i64 q, .int .i64 s, .slice (some ⟨bK, 0, none⟩) k cK, .slice aO m cO, .int .i64 t] k d gX gD cD gF gR (.slice aE (j + 1) cE) (.slice aL (j + 1) cL) (.slice aE (j + 1) cE) (.slice aL (j + 1) cL) (j + 1) (j + 1) ds (es) (ls) (List.replicate k false) (List.replicate k false) wc ∧ Hid (RJ 300 (j + 1) k ls))
          case first =>
            refine wp_region_noPanic ?_
            refine wp_region_held_drew (S := (fun _ => True)) (by kernel_rfl) trivial (fun hHeld => ?_)
            replace hz := hz.below (Below.refl _ wr).drew
            generalize wr.drew = wd at hHeld hz ⊢
            refine Tk.W 0 (some 40) (.fieldAddr 37 (.tmp 6) 2) 0 none ?_
            refine Tk.W 2 (some 42) (.move (.tmp 0)) 24 none ?_
            refine Tk.W 3 (some 43) (.move (.tmp 5)) 2 none ?_
            repeat' first
              | refine Tk.W 7 (some 47) (.fieldAddr 37 (.tmp 6) 2) 0 none ?_ (hr := by decide +kernel)
              | exact AllReadyH.nil
              | (refine AllReadyH.cons (i := 1) (o := ⟨some 41, .load 34 (.tmp 40), 34, _, _, none⟩) rfl (fun K hK => ?_) ?_
                 focus
                   first | have c := hz8.X.cell 2 rfl | have c := hz.X.cell 2 rfl
                   go_simp
                   clear c
                   refine hK.out _ _ hHeld ?_; clear hK K hHeld; intro hHeld; try simp only [Act.put, List.setIfInBounds_toArray, List.set_cons_zero, List.set_cons_succ])
              | (refine AllReadyH.cons (i := 4) (o := ⟨some 44, .call ⟨.value (.func 55), #[.tmp 42, .tmp 43, .const (.int .i64 300)], #[24, 2, 2]⟩, 29, _, _, none⟩) rfl (fun K hK => ?_) ?_
                 focus
                   have hlz := hz.lt
                   go_simp
                   refine (Rw.row B p a len cap k 300 (by omega) (by omega) (by omega) _ _ hz.st.here (Nat.le_refl _)).mono ?_
                   rintro e wN ⟨⟨gN, cN, rfl, zs, oN, hzs⟩, bs, b⟩
                   replace oN := oN.mono hlz; clear hlz
                   replace hz := hz.step (by simp) hpl b bs
                   clear bs b
                   refine hK.out _ _ trivial ?_; clear hK K hHeld; intro hHeld; try simp only [Act.put, List.setIfInBounds_toArray, List.set_cons_zero, List.set_cons_succ])
              | (refine AllReadyH.cons (i := 5) (o := ⟨some 45, .buildSlice 34 1 #[(0, .tmp 44)], 34, _, _, none⟩) rfl (fun K hK => ?_) ?_
                 focus
                   go_simp
                   have hz8 := hz.below ((Below.refl _ wN).alloc (Nat.le_refl _) (.cells #[.slice (some ⟨gN, 0, none⟩) k cN] 29))
                   refine hK.out _ _ trivial ?_; clear hK K hHeld; intro hHeld; try simp only [Act.put, List.setIfInBounds_toArray, List.set_cons_zero, List.set_cons_succ])
              | refine wpAnyH_ready (rs := [1, 4]) (by decide +kernel) (by simp) ?_
              | refine wpAnyH_ready (rs := [1, 5]) (by decide +kernel) (by simp) ?_
              | (refine Tk.R 1 (some 41) (.load 34 (.tmp 40)) 34 none (fun K hK => ?_) (hr := by decide +kernel)
                 first | have c := hz8.X.cell 2 rfl | have c := hz.X.cell 2 rfl
                 go_simp
                 clear c
                 refine hK.out _ _ hHeld ?_; clear hK K hHeld; intro hHeld; try simp only [Act.put, List.setIfInBounds_toArray, List.set_cons_zero, List.set_cons_succ])
              | (refine Tk.R 4 (some 44) (.call ⟨.value (.func 55), #[.tmp 42, .tmp 43, .const (.int .i64 300)], #[24, 2, 2]⟩) 29 none (fun K hK => ?_) (hr := by decide +kernel)
                 have hlz := hz.lt
                 go_simp
                 refine (Rw.row B p a len cap k 300 (by omega) (by omega) (by omega) _ _ hz.st.here (Nat.le_refl _)).mono ?_
                 rintro e wN ⟨⟨gN, cN, rfl, zs, oN, hzs⟩, bs, b⟩
                 replace oN := oN.mono hlz; clear hlz
                 replace hz := hz.step (by simp) hpl b bs
                 clear bs b
                 refine hK.out _ _ trivial ?_; clear hK K hHeld; intro hHeld; try simp only [Act.put, List.setIfInBounds_toArray, List.set_cons_zero, List.set_cons_succ])
              | (refine Tk.R 5 (some 45) (.buildSlice 34 1 #[(0, .tmp 44)]) 34 none (fun K hK => ?_) (hr := by decide +kernel)
                 go_simp
                 have hz8 := hz.below ((Below.refl _ wN).alloc (Nat.le_refl _) (.cells #[.slice (some ⟨gN, 0, none⟩) k cN] 29))
                 refine hK.out _ _ trivial ?_; clear hK K hHeld; intro hHeld; try simp only [Act.put, List.setIfInBounds_toArray, List.set_cons_zero, List.set_cons_succ])
              | (refine Tk.R 6 (some 46) (.call ⟨.builtin .append, #[.tmp 41, .tmp 45], #[34, 34]⟩) 34 none (fun K hK => ?_) (hr := by decide +kernel)
                 clear hz8
                 have hlz := hz.lt
                 obtain ⟨vs, hvs, _⟩ := hz.L
                 refine Ow.step_own_at rfl (.tmp 41) (.tmp 45) 34 rfl (w.heap.size + 2) 29 iS (.slice none 0 0) 1 24 Try.underlying34 hiS hS0 hS1 hS2 rfl (by decide) _ j vs rfl (World.ownsRow.alloc (w := wN) hvs _) ⟨wN.heap.size, 0, none⟩ 1 1 [.slice (some ⟨gN, 0, none⟩) k cN] rfl rfl (new_one wN _ _) (by simp [Value.oneCell']) (by unfold maxLen; omega) (by omega) (by simp; omega) ?_
                 intro v2 w2 hx2 hg2 hn2 ha2
                 replace hz := hz.moreL hpl hle h0w oN hg2 (fun ws hws => by rw [owns_uniq hws hvs]; exact hx2) ha2
                 clear hx2 hg2 hn2 ha2 hvs hlz
                 obtain ⟨g2, c2, rfl⟩ := sl_of_oss hz.L
                 refine hK.out _ _ trivial ?_; clear hK K hHeld; intro hHeld; try simp only [Act.put, List.setIfInBounds_toArray, List.set_cons_zero, List.set_cons_succ])
              | (refine Tk.R 8 none (.store 34 (.tmp 47) (.tmp 46)) 0 none (fun K hK => ?_) (hr := by decide +kernel)
                 have c := hz.X.cell 2 rfl
                 have f := hz.X.froz 2 rfl
                 go_simp
                 clear c f
                 replace hz := hz.put hpl hle h0w 2 (.slice (some ⟨g2, 0, none⟩) (j + 1) c2) rfl
                 refine hK.out _ _ trivial ?_; clear hK K hHeld; intro hHeld; try simp only [Act.put, List.setIfInBounds_toArray, List.set_cons_zero, List.set_cons_succ])
              | (refine wpAnyH_done (by decide +kernel) ?_ _
                 refine NoPanic.normal ?_
                 clear hHeld
                 go_wp2_with fail
                 go_meet
                 case rel => exact ⟨rfl, _, _, _, hz, HJ.out.2.more oN.data.1 hzs⟩)
          case rest =>
            obtain ⟨rfl, cL, aL, ls, hz, HL⟩ := hcut
            have c6 := hz.W.cell 6 rfl
            have hKr := has_step hK hz.sp hne
            have ck := hKr.2.2.2.1 j hlt
            rw [Nat.zero_add] at ck
            by_cases h0 : el ks j = 0
            · have E1 : Hid (bad ks (j + 1) = bad ks j) := by unfold Hid; rw [bad, if_pos h0]; rfl
              rw [h0] at ck
              go_wp2_with fail
              go_roundw
              case rel => exact ⟨j + 1, cE, cL, aE, aL, es, ls, by omega, by go_num, by rw [E1.out], hz, HE.out, HL.out⟩
              case measure => simp [intOf]; omega
            · have E1 : Hid (bad ks (j + 1) = bad ks j + 1) := by unfold Hid; rw [bad, if_neg h0]
              have hne0 : (el ks j != 0) = true := by simp [h0]
              have hbl := Wl.bad_le ks j
              go_wp2_with fail
              go_roundw
              case rel => exact ⟨j + 1, cE, cL, aE, aL, es, ls, by omega, by go_num, by rw [E1.out]; go_num, hz, HE.out, HL.out⟩
              case measure => simp [intOf]; omega
      · have e : k = j := by omega
        subst e
        have hi' : ¬ (k : Int) < (k : Int) := by omega
        go_wp2_with fail
        go_loopw [7, 9] (fun b i wr => ∃ (j : Nat) (fs rs : List Bool), j ≤ k ∧ i = .int .i64 j ∧ b = .int .i64 (bad (FK ks fs) k) ∧ Zs w0 w B p a len cap [.int .i64 n, .int .i64 l, .int .i64 d, .int .i64 r, .int .i64 q, .int .i64 s, .slice (some ⟨bK, 0, none⟩) k cK, .slice aO m cO, .int .i64 t] k d gX gD cD gF gR (.slice aE k cE) (.slice aL k cL) (.slice aE k cE) (.slice aL k cL) (k) (k) ds (es) (ls) (fs) (rs) wr ∧ Hid (FL j k l ks fs rs)) (fun _ i _ => k - (intOf i).toNat)
        case atStart => exact ⟨0, List.replicate k false, List.replicate k false, Nat.zero_le _, rfl, by rw [bad_none _ _ _ (by have := hK.1; omega)], hz, FL.start (by have := hK.1; omega) hb⟩
        case round =>
          obtain ⟨j, fs, rs, hj, rfl, rfl, hz, HF⟩ := hrel
          by_cases hlt : j < k
          · have hi' : (j : Int) < (k : Int) := by omega
            have hbl := Wl.bad_le (FK ks fs) k
            by_cases h1 : el ks j = 1
            · skip
              have c6 := hz.W.cell 6 rfl
              have ck := (has_step hK hz.sp hne).2.2.2.1 j hlt
              rw [Nat.zero_add] at ck
              rw [h1] at ck
              go_wp2_with fail
              clear c6 ck
              refine (Di.below' w0 B p a len cap 2 (by omega) (by omega) _ hz.st).mono ?_
              rintro e wB ⟨⟨x, rfl, x0, x1⟩, bs, b⟩
              replace hz := hz.step (by simp) hpl b ⟨bs.cur, b⟩
              clear bs b
              by_cases hx : x = 0
              · subst hx
                have c4 := hz.X.cell 4 rfl
                have cR := hz.R.2.2.2.1 j hlt
                have fR := hz.R.2.2.2.2 j hlt
                rw [Nat.zero_add] at cR fR
                go_upto_region 16 with (fail)
                clear c4 cR fR
                replace hz := hz.setR hpl hle h0w hlt
                generalize wB.setCell ⟨gR, j, none⟩ (.bool true) = wr2 at hz ⊢
                have c6 := hz.W.cell 6 rfl
                have ck := (has_step hK hz.sp hne).2.2.2.1 j hlt
                rw [Nat.zero_add] at ck
                rw [h1] at ck
                go_wp2_with fail
                clear c6 ck
                go_roundw
                case rel => exact ⟨j + 1, fs, rs.set j true, by omega, by go_num, rfl, hz, HF.out.rise h1⟩
                case measure => simp [intOf]; omega
              · have hx2 : (x == 0) = false := by simp [hx]
                have c6 := hz.W.cell 6 rfl
                have ck := (has_step hK hz.sp hne).2.2.2.1 j hlt
                rw [Nat.zero_add] at ck
                rw [h1] at ck
                go_wp2_with fail
                clear c6 ck
                go_roundw
                case rel => exact ⟨j + 1, fs, rs, by omega, by go_num, rfl, hz, HF.out.next⟩
                case measure => simp [intOf]; omega
            · by_cases h0 : el ks j = 0
              · skip
                by_cases hl2 : ((bad (FK ks fs) k : Nat) : Int) < l
                · have hl3 : decide (((bad (FK ks fs) k : Nat) : Int) < l) = true := decide_eq_true hl2
                  have c6 := hz.W.cell 6 rfl
                  have c1 := hz.W.cell 1 rfl
                  have ck := (has_step hK hz.sp hne).2.2.2.1 j hlt
                  rw [Nat.zero_add] at ck
                  rw [h0] at ck
                  go_wp2_with fail
                  clear c1
                  clear c6 ck
                  refine (Di.below' w0 B p a len cap 4 (by omega) (by omega) _ hz.st).mono ?_
                  rintro e wB ⟨⟨x, rfl, x0, x1⟩, bs, b⟩
                  replace hz := hz.step (by simp) hpl b ⟨bs.cur, b⟩
                  clear bs b
                  by_cases hx : x = 0
                  · subst hx
                    have c4 := hz.X.cell 3 rfl
                    have cR := hz.F.2.2.2.1 j hlt
                    have fR := hz.F.2.2.2.2 j hlt
                    rw [Nat.zero_add] at cR fR
                    have hfl := hz.F.1
                    go_wp2_with fail
                    clear c4 cR fR
                    replace hz := hz.setF hpl hle h0w hlt
                    go_roundw
                    case rel => exact ⟨j + 1, fs.set j true, rs, by omega, by go_num, by rw [bad_fall HF.out h0 hlt (by omega) (by have := hK.1; omega)]; go_num, hz, HF.out.fall h0 hlt (by omega) (by have := hK.1; omega) hl2⟩
                    case measure => simp [intOf]; omega
                  · have hx2 : (x == 0) = false := by simp [hx]
                    go_wp2_with fail
                    go_roundw
                    case rel => exact ⟨j + 1, fs, rs, by omega, by go_num, rfl, hz, HF.out.next⟩
                    case measure => simp [intOf]; omega
                · have hl3 : decide (((bad (FK ks fs) k : Nat) : Int) < l) = false := decide_eq_false hl2
                  have c6 := hz.W.cell 6 rfl
                  have c1 := hz.W.cell 1 rfl
                  have ck := (has_step hK hz.sp hne).2.2.2.1 j hlt
                  rw [Nat.zero_add] at ck
                  rw [h0] at ck
                  go_wp2_with fail
                  clear c6 c1 ck
                  go_roundw
                  case rel => exact ⟨j + 1, fs, rs, by omega, by go_num, rfl, hz, HF.out.next⟩
                  case measure => simp [intOf]; omega
              · skip
                have h1b : (el ks j == 1) = false := by simp [h1]
                have h0b : (el ks j == 0) = false := by simp [h0]
                have c6 := hz.W.cell 6 rfl
                have ck := (has_step hK hz.sp hne).2.2.2.1 j hlt
                rw [Nat.zero_add] at ck
                go_wp2_with fail
                clear c6 ck
                go_roundw
                case rel => exact ⟨j + 1, fs, rs, by omega, by go_num, rfl, hz, HF.out.next⟩
                case measure => simp [intOf]; omega
          · skip
            have e : k = j := by omega
            subst e
            have hi' : ¬ (k : Int) < (k : Int) := by omega
            have x0 := hz.X.cell 0 rfl
            have x1 := hz.X.cell 1 rfl
            have x2 := hz.X.cell 2 rfl
            have x3 := hz.X.cell 3 rfl
            have x4 := hz.X.cell 4 rfl
            have y0 := hz.Z.cell 0 rfl
            have y1 := hz.Z.cell 1 rfl
            have y2 := hz.Z.cell 2 rfl
            have y3 := hz.Z.cell 3 rfl
            have y4 := hz.Z.cell 4 rfl
            have z0 := hz.Z.froz 0 rfl
            have z1 := hz.Z.froz 1 rfl
            have z2 := hz.Z.froz 2 rfl
            have z3 := hz.Z.froz 3 rfl
            have z4 := hz.Z.froz 4 rfl
            go_wp2_with fail
            clear x0 y0 z0 x1 y1 z1 x2 y2 z2 x3 y3 z3 x4 y4 z4
            have RQ := (((((hz.Z).set 0 (.slice (some ⟨gD, 0, none⟩) k cD)).set 1 (.slice aE k cE)).set 2 (.slice aL k cL)).set 3 (.slice (some ⟨gF, 0, none⟩) k k)).set 4 (.slice (some ⟨gR, 0, none⟩) k k)
            refine bodyPost_ret (v := trn (.slice (some ⟨gD, 0, none⟩) k cD) (.slice aE k cE) (.slice aL k cL) (.slice (some ⟨gF, 0, none⟩) k k) (.slice (some ⟨gR, 0, none⟩) k k)) (ret5 (c := 4) Try.results16 rfl RQ) rfl ⟨⟨gD, cD, gF, gR, cE, cL, aE, aL, rfl, ds, es, ls, fs, rs, ⟨?_, ?_, ?_, ?_, ?_⟩, ⟨hz.hd, hz.D.data.1, HJ.out.1, HJ.out.2, HF.out, hz.F.1, hz.R.1⟩⟩, ?_, ?_⟩
            · exact own_move (own_move (own_move (own_move (own_move (hz.D) (Below.heap_setCell _ _ _ _ (by have := hz.D.data.2.1; simp; omega))) (Below.heap_setCell _ _ _ _ (by have := hz.D.data.2.1; simp; omega))) (Below.heap_setCell _ _ _ _ (by have := hz.D.data.2.1; simp; omega))) (Below.heap_setCell _ _ _ _ (by have := hz.D.data.2.1; simp; omega))) (Below.heap_setCell _ _ _ _ (by have := hz.D.data.2.1; simp; omega))
            · exact OSS.set (OSS.set (OSS.set (OSS.set (OSS.set (hz.E) (by omega)) (by omega)) (by omega)) (by omega)) (by omega)
            · exact OSS.set (OSS.set (OSS.set (OSS.set (OSS.set (hz.L) (by omega)) (by omega)) (by omega)) (by omega)) (by omega)
            · exact hasb_other (hasb_other (hasb_other (hasb_other (hasb_other (hz.F) (by have := hz.F.2.1; omega) _ _) (by have := hz.F.2.1; omega) _ _) (by have := hz.F.2.1; omega) _ _) (by have := hz.F.2.1; omega) _ _) (by have := hz.F.2.1; omega) _ _
            · exact hasb_other (hasb_other (hasb_other (hasb_other (hasb_other (hz.R) (by have := hz.R.2.1; omega) _ _) (by have := hz.R.2.1; omega) _ _) (by have := hz.R.2.1; omega) _ _) (by have := hz.R.2.1; omega) _ _) (by have := hz.R.2.1; omega) _ _
            · exact Di.St.setNew (Di.St.setNew (Di.St.setNew (Di.St.setNew (Di.St.setNew (hz.st) _ (by omega) (by omega) (by omega) _) _ (by omega) (by omega) (by omega) _) _ (by omega) (by omega) (by omega) _) _ (by omega) (by omega) (by omega) _) _ (by omega) (by omega) (by omega) _
            · exact Dr.Step.setNew (Dr.Step.setNew (Dr.Step.setNew (Dr.Step.setNew (Dr.Step.setNew (hz.sp) _ (by omega) _) _ (by omega) _) _ (by omega) _) _ (by omega) _) _ (by omega) _

end Go.Proofs.Ytloicicgcdfgnaa.Lw
