/-
  A new court, rolled (laws.court): it is right, its parts are new memory, and nothing is written that was there ahead of it but the dice.
-/
import Derived.Test.YtadmkojlobniaaaCt5
import Derived.Deep.CutRange
import Derived.Test.YtadmkojlobniaaaTk
namespace Go.Proofs.Ytadmkojlobniaaa.Ct
open Go.ChangeShapes Go.WideShapes Go.ChangeAt Go.RowKit
open Ls (el Row)
open Ow (Has Own ints)
open Rm (Room)
open Rd (Flags)
open Sp (LK retb reti)
open Sl (KO sl lk_yes)
open Dr (Step)
set_option linter.unusedVariables false
set_option linter.unusedSimpArgs false

/-- Dice, the result's cells, the rule's. -/
structure Cb (w : World) (B p : Nat) (a : Option Addr) (len cap X : Nat) (rs : List Value) (w' : World) : Prop where
  st : Di.St w B p a len cap w'
  Z : Room w' w.heap.size z13
  R : Room w' X rs
  x : w.heap.size < X ∧ p < w.heap.size ∧ B ≤ p ∧ 0 < rs.length
theorem Cb.step {w : World} {B p : Nat} {a : Option Addr} {len cap X : Nat} {rs : List Value} {w1 w2 : World} (h : Cb w B p a len cap X rs w1) (s : Di.St w B p a len cap w2) (t : Step p w1 w2) : Cb w B p a len cap X rs w2 :=
  ⟨s, Dg.room_step h.Z t (by have := h.x; omega), Dg.room_step h.R t (by have := h.x; omega), h.x⟩
theorem Cb.below {w : World} {B p : Nat} {a : Option Addr} {len cap X : Nat} {rs : List Value} {w1 w2 : World} (h : Cb w B p a len cap X rs w1) (b : Below w1.heap.size w1 w2) : Cb w B p a len cap X rs w2 := ⟨h.st.below b, h.Z.below b, h.R.below b, h.x⟩
theorem Cb.drew {w : World} {B p : Nat} {a : Option Addr} {len cap X : Nat} {rs : List Value} {w1 : World} (h : Cb w B p a len cap X rs w1) : Cb w B p a len cap X rs w1.drew := h.below (Below.refl _ _).drew
theorem Cb.lt {w : World} {B p : Nat} {a : Option Addr} {len cap X : Nat} {rs : List Value} {w1 : World} (h : Cb w B p a len cap X rs w1) : X < w1.heap.size := h.R.lt h.x.2.2.2
theorem Cb.put {w : World} {B p : Nat} {a : Option Addr} {len cap X : Nat} {rs : List Value} {w1 : World} (h : Cb w B p a len cap X rs w1) (i : Nat) (v : Value) : Cb w B p a len cap X (rs.set i v) (w1.setCell ⟨X, i, none⟩ v) :=
  ⟨h.st.setNew i (by have := h.x; omega) (by have := h.x; omega) (by have := h.x; omega) v, h.Z.setOther (by have := h.x; omega) i v, h.R.set i v, ⟨h.x.1, h.x.2.1, h.x.2.2.1, by rw [List.length_set]; exact h.x.2.2.2⟩⟩
theorem Cb.other {w : World} {B p : Nat} {a : Option Addr} {len cap X : Nat} {rs : List Value} {w1 : World} (h : Cb w B p a len cap X rs w1) {g : Nat} (hg : X < g) (i : Nat) (v : Value) : Cb w B p a len cap X rs (w1.setCell ⟨g, i, none⟩ v) :=
  ⟨h.st.setNew i (by have := h.x; omega) (by have := h.x; omega) (by have := h.x; omega) v, h.Z.setOther (by have := h.x; omega) i v, h.R.setOther (by omega) i v, h.x⟩
theorem Cb.grown {w : World} {B p : Nat} {a : Option Addr} {len cap X : Nat} {rs : List Value} {w1 w2 : World} (h : Cb w B p a len cap X rs w1) {g : Nat} (b : w1.grownBy w2 (some g)) (hg : X < g) : Cb w B p a len cap X rs w2 :=
  ⟨Dg.di_grown h.st b (by have := h.x; omega) (by have := h.x; omega) (by have := h.x; omega), h.Z.other b (by have := h.x; omega), h.R.other b (by omega), h.x⟩

theorem ownb_put {w : World} {B g n c j : Nat} {bs : List Bool} (h : OwnB w B g n c bs) (x : Bool) (hj : j < n) : OwnB (w.setCell ⟨g, j, none⟩ (.bool x)) B g n c (bs.set j x) := by
  have hl : bs.length = n := by have := h.1; rw [bools_len] at this; omega
  rcases h.2 with ⟨h2, _⟩ | ⟨g', cap', cur, e', hB, hb, h3, h4, h5, h6⟩
  · cases h2
  · cases e'
    refine ⟨by simp [bools]; omega, .inr ⟨g, c, cur.setIfInBounds j (.bool x), rfl, hB, ?_, h3, h4, by simp; omega, ?_⟩⟩
    · simp [World.setCell, Array.getElem?_modify, hb]
    · rw [Nat.mul_one] at h6 ⊢
      rw [Array.toList_setIfInBounds, List.take_set, h6, bools, bools, List.map_set]
theorem eb_set (bs : List Bool) (j k : Nat) (h : k ≠ j) : eb (bs.set j true) k = eb bs k := by simp [eb, List.getD, List.getElem?_set, Ne.symm h]
theorem ct_set (bs : List Bool) (j n : Nat) : CT (bs.set j true) n ≤ CT bs n + 1 ∧ (n ≤ j → CT (bs.set j true) n = CT bs n) := by
  induction n with
  | zero => exact ⟨Nat.zero_le _, fun _ => rfl⟩
  | succ n ih =>
    rw [CT, CT]
    by_cases h : n = j
    · have q := ih.2 (by omega)
      rw [q]
      refine ⟨?_, fun h2 => by omega⟩
      split <;> split <;> omega
    · rw [eb_set bs j n h]
      exact ⟨by have := ih.1; omega, fun h2 => by rw [ih.2 (by omega)]⟩
theorem ct_none (n k : Nat) : CT (List.replicate n false) k = 0 := by
  induction k with
  | zero => rfl
  | succ k ih =>
    rw [CT, ih]
    have : eb (List.replicate n false) k = false := by
      unfold eb List.getD
      rw [List.getElem?_replicate]
      split <;> rfl
    rw [this]
    rfl
theorem el_mem {zs : List Int} {k : Nat} (h : k < zs.length) : el zs k ∈ zs := by
  unfold el
  rw [List.getD_eq_getElem?_getD, List.getElem?_eq_getElem h]
  exact List.getElem_mem h
theorem ownb_made (w : World) (B N : Nat) (hB : B ≤ w.heap.size) (hN : N ≤ 1000) : OwnB (w.alloc (.cells (madeCells #[.bool false] N) 4)) B w.heap.size N N (List.replicate N false) := by
  refine ⟨by simp [bools], .inr ⟨_, N, madeCells #[.bool false] N, rfl, hB, heap_alloc_new w _, Nat.le_refl _, by unfold maxLen; omega, by simp [madeCells], ?_⟩⟩
  rw [Nat.mul_one, toList_madeCells_one]
  simp [bools]
theorem stz {w0 : World} {B p X : Nat} {a : Option Addr} {len cap : Nat} (vs : List Value) : ∀ (i : Nat) (w : World), Di.St w0 B p a len cap w → w0.heap.size ≤ X → X ≠ p → B ≤ X → Di.St w0 B p a len cap (sets w X i vs) := by
  induction vs with
  | nil => intro i w h _ _ _; exact h
  | cons v vs ih => intro i w h h1 h2 h3; exact ih _ _ (h.setNew i h1 h2 h3 v) h1 h2 h3
theorem ret13z {fn : Func} {ts : Array Value} {W : World} {R : Nat} {n f p a l m : Int} {aK aL aP : Option Addr} {N kK kL kP : Nat} (hf : fn.results = #[.cell 2 36]) (h2 : ts[2]? = some (.pointer (some ⟨R, 0, none⟩))) (h : Room W R (c13 n f p a l m (.slice aK N kK) (.slice aL N kL) (.slice aP N kP))) :
    (results fn ts).run Try.prog W = .ok (crt n f p a l m (.slice aK N kK) (.slice aL N kL) (.slice aP N kP)) W := by
  have q0 := h.cell 0 rfl
  have q1 := h.cell 1 rfl
  have q2 := h.cell 2 rfl
  have q3 := h.cell 3 rfl
  have q4 := h.cell 4 rfl
  have q5 := h.cell 5 rfl
  have q6 := h.cell 6 rfl
  have q7 := h.cell 7 rfl
  have q8 := h.cell 8 rfl
  have q9 := h.cell 9 rfl
  have q10 := h.cell 10 rfl
  have q11 := h.cell 11 rfl
  have q12 := h.cell 12 rfl
  simp [results, hf, h2, go_sem, q0, q1, q2, q3, q4, q5, q6, q7, q8, q9, q10, q11, q12]

/-- And the keys, the offs and who lies, all in memory that is no older than s. -/
structure Cl (w : World) (B p : Nat) (a : Option Addr) (len cap X : Nat) (rs : List Value) (s gK cK j gO cO k gL N : Nat) (zs os : List Int) (bs : List Bool) (w' : World) : Prop where
  C : Cb w B p a len cap X rs w'
  K : Own w' s gK j cK zs
  O : Own w' s gO k cO os
  F : OwnB w' s gL N N bs
  ne : gK ≠ gO
  x : X < s
theorem Cl.step {w : World} {B p : Nat} {a : Option Addr} {len cap X : Nat} {rs : List Value} {gK cK j gO cO k gL N s : Nat} {zs os : List Int} {bs : List Bool} {w1 w2 : World} (h : Cl w B p a len cap X rs s gK cK j gO cO k gL N zs os bs w1) (q : Di.St w B p a len cap w2) (t : Step p w1 w2) : Cl w B p a len cap X rs s gK cK j gO cO k gL N zs os bs w2 :=
  have hp : p < s := by have := h.C.x; have := h.x; omega
  ⟨h.C.step q t, own_stp h.K t hp, own_stp h.O t hp, own_stp h.F t hp, h.ne, h.x⟩
theorem Cl.moreK {w : World} {B p : Nat} {a : Option Addr} {len cap X : Nat} {rs : List Value} {gK cK j gO cO k gL N s : Nat} {zs os : List Int} {bs : List Bool} {w1 w2 : World} {o : Obj} {v : Value} {x : Int} (h : Cl w B p a len cap X rs s gK cK j gO cO k gL N zs os bs w1) (hx : w2.ownsRow s 2 1 v (j + 1) (ints zs ++ ints [x])) (hg : (w1.alloc o).grownBy w2 (some gK)) (hn : v ≠ .slice none 0 0) (hat : v.ownBlock = some gK ∨ v.ownBlock = some (w1.alloc o).heap.size) :
    ∃ g c, v = .slice (some ⟨g, 0, none⟩) (j + 1) c ∧ Cl w B p a len cap X rs s g c (j + 1) gO cO k gL N (zs ++ [x]) os bs w2 := by
  obtain ⟨g, c, e, ho, hor⟩ := Ow.more_at hx hn hat
  have hK : s ≤ gK ∧ gK < w1.heap.size := own_lt h.K rfl
  have hO : s ≤ gO ∧ gO < w1.heap.size := own_lt h.O rfl
  have b := (Below.refl w1.heap.size w1).alloc (Nat.le_refl _) o
  refine ⟨g, c, e, (h.C.below b).grown hg (by have := h.x; omega), ho, Ow.Own.kept h.O hg (fun e => h.ne e.symm), own_keep (own_below h.F b) (fun q hq => hg.block q (own_lt (own_below h.F b) hq).2 (fun e2 => own_ne h.F hq (own_ty h.K rfl) (by decide) (Option.some.inj e2))), ?_, h.x⟩
  rcases hor with rfl | rfl
  · exact h.ne
  · intro e; omega
theorem Cl.moreO {w : World} {B p : Nat} {a : Option Addr} {len cap X : Nat} {rs : List Value} {gK cK j gO cO k gL N s : Nat} {zs os : List Int} {bs : List Bool} {w1 w2 : World} {o : Obj} {v : Value} {x : Int} (h : Cl w B p a len cap X rs s gK cK j gO cO k gL N zs os bs w1) (hx : w2.ownsRow s 2 1 v (k + 1) (ints os ++ ints [x])) (hg : (w1.alloc o).grownBy w2 (some gO)) (hn : v ≠ .slice none 0 0) (hat : v.ownBlock = some gO ∨ v.ownBlock = some (w1.alloc o).heap.size) :
    ∃ g c, v = .slice (some ⟨g, 0, none⟩) (k + 1) c ∧ Cl w B p a len cap X rs s gK cK j g c (k + 1) gL N zs (os ++ [x]) bs w2 := by
  obtain ⟨g, c, e, ho, hor⟩ := Ow.more_at hx hn hat
  have hK : s ≤ gK ∧ gK < w1.heap.size := own_lt h.K rfl
  have hO : s ≤ gO ∧ gO < w1.heap.size := own_lt h.O rfl
  have b := (Below.refl w1.heap.size w1).alloc (Nat.le_refl _) o
  refine ⟨g, c, e, (h.C.below b).grown hg (by have := h.x; omega), Ow.Own.kept h.K hg h.ne, ho, own_keep (own_below h.F b) (fun q hq => hg.block q (own_lt (own_below h.F b) hq).2 (fun e2 => own_ne h.F hq (own_ty h.O rfl) (by decide) (Option.some.inj e2))), ?_, h.x⟩
  rcases hor with rfl | rfl
  · exact h.ne
  · intro e; omega
theorem Cl.lie {w : World} {B p : Nat} {a : Option Addr} {len cap X : Nat} {rs : List Value} {gK cK j gO cO k gL N s : Nat} {zs os : List Int} {bs : List Bool} {w1 : World} (h : Cl w B p a len cap X rs s gK cK j gO cO k gL N zs os bs w1) (i : Nat) (hi : i < N) : Cl w B p a len cap X rs s gK cK j gO cO k gL N zs os (bs.set i true) (w1.setCell ⟨gL, i, none⟩ (.bool true)) :=
  have hL : s ≤ gL ∧ gL < w1.heap.size := own_lt h.F rfl
  have nK := own_ne h.K rfl (own_ty h.F rfl) (by decide)
  have nO := own_ne h.O rfl (own_ty h.F rfl) (by decide)
  ⟨h.C.other (by have := h.x; omega) i _, own_keep h.K fun q hq => by cases hq; exact Below.heap_setCell _ _ _ _ (by simp; exact nK), own_keep h.O fun q hq => by cases hq; exact Below.heap_setCell _ _ _ _ (by simp; exact nO), ownb_put h.F true hi, h.ne, h.x⟩

set_option maxRecDepth 100000 in
set_option maxHeartbeats 8000000 in
theorem court (w0 : World) (B p : Nat) (a : Option Addr) (len cap : Nat) (w : World) (st : Di.St w0 B p a len cap w) :
    Calls Try.prog 9 #[.pointer (some ⟨p, 0, none⟩)] w fun e w' => (∃ N f p_ a_ l m gK kK gL kL aP cP, e = .returned (crt ((N : Nat) : Int) f p_ a_ l m (.slice (some ⟨gK, 0, none⟩) N kK) (.slice (some ⟨gL, 0, none⟩) N kL) (.slice aP N cP)) ∧ ∃ zs os bs, Mem w' w.heap.size N gK kK gL kL aP cP zs os bs ∧ RK N f p_ a_ l m ∧ KO zs N = true ∧ N ≤ 6 ∧ (CT bs N : Int) ≤ f ∧ ∀ x ∈ os, -8 ≤ x ∧ x ≤ 8) ∧ Di.St w0 B p a len cap w' ∧ Step p w w' := by
  have hp := st.lt
  have hB := st.le
  have hst := st.step
  have s0 := st.here.obj (.cells #[.int .i64 0, .int .i64 0, .int .i64 0, .int .i64 0, .int .i64 0, .int .i64 0, .slice none 0 0, .slice none 0 0, .slice none 0 0, .slice none 0 0, .int .i64 0, .slice none 0 0, .slice none 0 0] 36)
  have Z0 := Room.new w [.int .i64 0, .int .i64 0, .int .i64 0, .int .i64 0, .int .i64 0, .int .i64 0, .slice none 0 0, .slice none 0 0, .slice none 0 0, .slice none 0 0, .int .i64 0, .slice none 0 0, .slice none 0 0] 36
  go_enter Try.func9, Try.ntmps9
  go_wp2_with fail
  refine (Di.below' w B p a len cap 3 (by omega) (by omega) _ s0).mono ?_
  rintro e w1 ⟨⟨f, rfl, f0, f1⟩, s1, x1⟩
  replace Z0 := Dg.room_step Z0 x1 (by omega)
  clear x1 s0
  go_wp2_with fail
  refine (Di.below' w B p a len cap 2 (by omega) (by omega) _ s1).mono ?_
  rintro e w2 ⟨⟨x, rfl, x0, x1⟩, s2, px⟩
  replace Z0 := Dg.room_step Z0 px (by omega)
  clear px s1
  go_wp2_with fail
  refine (Di.below' w B p a len cap 4 (by omega) (by omega) _ s2).mono ?_
  rintro e w3 ⟨⟨al, rfl, al0, al1⟩, s3, px⟩
  replace Z0 := Dg.room_step Z0 px (by omega)
  clear px s2
  go_wp2_with fail
  refine (Di.below' w B p a len cap 2 (by omega) (by omega) _ s3).mono ?_
  rintro e w4 ⟨⟨le, rfl, le0, le1⟩, s4, px⟩
  replace Z0 := Dg.room_step Z0 px (by omega)
  clear px s3
  have lZ := Z0.lt (by simp)
  go_wp2_with fail
  have n0 : 1 ≤ 2 * f + 1 + x := by omega
  have n1 : 2 * f + 1 + x ≤ 6 := by omega
  have n2 : 2 * f + 1 ≤ 2 * f + 1 + x := by omega
  generalize 2 * f + 1 + x = q at n0 n1 n2 ⊢
  obtain ⟨N, rfl⟩ := Int.eq_ofNat_of_zero_le (a := q) (by omega)
  have l0 : 1 ≤ 1 + le := by omega
  have l1 : 1 + le ≤ 2 := by omega
  generalize 1 + le = l at l0 l1 ⊢
  clear x0 x1 le0 le1
  obtain ⟨X, hX⟩ : ∃ X, X = w4.heap.size := ⟨_, rfl⟩
  have NB : Cb w B p a len cap X [.int .i64 N, .int .i64 f, .int .i64 0, .int .i64 al, .int .i64 l, .int .i64 0] (w4.alloc (.cells #[.int .i64 N, .int .i64 f, .int .i64 0, .int .i64 al, .int .i64 l, .int .i64 0] 28)) := ⟨s4.obj _, Z0.alloc _, Room.at w4 [.int .i64 N, .int .i64 f, .int .i64 0, .int .i64 al, .int .i64 l, .int .i64 0] 28 X hX, by omega, hp, hB, Nat.succ_pos _⟩
  rw [← hX]
  generalize w4.alloc (.cells #[.int .i64 N, .int .i64 f, .int .i64 0, .int .i64 al, .int .i64 l, .int .i64 0] 28) = w5 at NB ⊢
  clear hX s4 Z0 lZ
  replace NB := NB.drew
  refine wp_region_noPanic ?_
  refine wp_region_held_drew (S := (fun w' => w'.cell? ⟨X, 4, none⟩ = some (.int .i64 l))) (by kernel_rfl) (NB.R.cell 4 rfl) (fun hHeld => ?_)
  generalize w5.drew = wd at hHeld NB ⊢
  refine Tk.W 0 (some 27) (.fieldAddr 28 (.tmp 4) 4) 0 none ?_
  refine Tk.W 1 (some 28) (.load 2 (.tmp 27)) 2 none ?_
  refine Tk.W 2 (some 29) (.move (.tmp 0)) 24 none ?_
  refine Tk.R 3 (some 30) (.call ⟨.value (.func 11), #[.tmp 29, .const (.int .i64 4)], #[24, 2]⟩) 2 none (fun K hK => ?_)
  go_simp
  refine (Di.below' w B p a len cap 4 (by omega) (by omega) _ NB.st).mono ?_
  rintro e w6 ⟨⟨y, rfl, y0, y1⟩, sx, px⟩
  replace NB := NB.step sx px
  clear sx px
  have hw : IntKind.i64.wrap (l + y) = l + y := by rw [IntKind.wrap_i64]; omega
  try dsimp only
  refine hK.out _ _ (NB.R.cell 4 rfl) ?_; clear hK K hHeld; intro hHeld; try simp only [Act.put, List.setIfInBounds_toArray, List.set_cons_zero, List.set_cons_succ]
  refine Tk.W 4 (some 31) (.binOp .add 2 (.tmp 28) (.tmp 30) 2) 2 none ?_
  refine Tk.W 5 (some 32) (.fieldAddr 28 (.tmp 4) 5) 0 none ?_
  refine Tk.R 6 none (.store 2 (.tmp 32) (.tmp 31)) 0 none (fun K hK => ?_)
  have c5 := NB.R.cell 5 rfl
  have f5 := NB.R.froz 5 rfl
  go_simp
  clear c5 f5 hw
  have N2 : Cb w B p a len cap X [.int .i64 N, .int .i64 f, .int .i64 0, .int .i64 al, .int .i64 l, .int .i64 (l + y)] (w6.setCell ⟨X, 5, none⟩ (.int .i64 (l + y))) := NB.put 5 _
  generalize w6.setCell ⟨X, 5, none⟩ (.int .i64 (l + y)) = w7 at N2 ⊢
  try dsimp only
  refine hK.out _ _ (N2.R.cell 4 rfl) ?_; clear hK K hHeld; intro hHeld; try simp only [Act.put, List.setIfInBounds_toArray, List.set_cons_zero, List.set_cons_succ]
  refine wpAnyH_done (by kernel_rfl) ?_ _
  refine NoPanic.normal ?_
  clear hHeld NB
  have m0 : l ≤ l + y := by omega
  have m1 : l + y ≤ 5 := by omega
  generalize l + y = m at m0 m1 N2 ⊢
  clear y0 y1
  go_wp2_with fail
  have NB := N2.drew
  clear N2
  have hw1 : IntKind.i64.wrap (al + m) = al + m := by rw [IntKind.wrap_i64]; omega
  have hw2 : IntKind.i64.wrap (al + m + 4) = al + m + 4 := by rw [IntKind.wrap_i64]; omega
  refine wp_region_noPanic ?_
  refine wp_region_held_drew (S := (fun w' => w'.cell? ⟨X, 3, none⟩ = some (.int .i64 al) ∧ w'.cell? ⟨X, 5, none⟩ = some (.int .i64 m))) (by kernel_rfl) ⟨NB.R.cell 3 rfl, NB.R.cell 5 rfl⟩ (fun hHeld => ?_)
  generalize w7.drew = wd2 at hHeld NB ⊢
  refine Tk.W 0 (some 33) (.fieldAddr 28 (.tmp 4) 3) 0 none ?_
  refine Tk.W 1 (some 34) (.load 2 (.tmp 33)) 2 none ?_
  refine Tk.W 2 (some 35) (.fieldAddr 28 (.tmp 4) 5) 0 none ?_
  refine Tk.W 3 (some 36) (.load 2 (.tmp 35)) 2 none ?_
  refine Tk.W 4 (some 37) (.binOp .add 2 (.tmp 34) (.tmp 36) 2) 2 none ?_
  refine Tk.W 5 (some 38) (.binOp .add 2 (.tmp 37) (.const (.int .i64 4)) 2) 2 none ?_
  refine Tk.W 6 (some 39) (.move (.tmp 0)) 24 none ?_
  refine Tk.R 7 (some 40) (.call ⟨.value (.func 11), #[.tmp 39, .const (.int .i64 9)], #[24, 2]⟩) 2 none (fun K hK => ?_)
  go_simp
  refine (Di.below' w B p a len cap 9 (by omega) (by omega) _ NB.st).mono ?_
  rintro e w8 ⟨⟨z, rfl, z0, z1⟩, sx, px⟩
  replace NB := NB.step sx px
  clear sx px
  have hw3 : IntKind.i64.wrap (al + m + 4 + z) = al + m + 4 + z := by rw [IntKind.wrap_i64]; omega
  try dsimp only
  refine hK.out _ _ ⟨NB.R.cell 3 rfl, NB.R.cell 5 rfl⟩ ?_; clear hK K hHeld; intro hHeld; try simp only [Act.put, List.setIfInBounds_toArray, List.set_cons_zero, List.set_cons_succ]
  refine Tk.W 8 (some 41) (.binOp .add 2 (.tmp 38) (.tmp 40) 2) 2 none ?_
  refine Tk.W 9 (some 42) (.fieldAddr 28 (.tmp 4) 2) 0 none ?_
  refine Tk.R 10 none (.store 2 (.tmp 42) (.tmp 41)) 0 none (fun K hK => ?_)
  have c5 := NB.R.cell 2 rfl
  have f5 := NB.R.froz 2 rfl
  go_simp
  clear c5 f5 hw1 hw2 hw3
  have N2 : Cb w B p a len cap X [.int .i64 N, .int .i64 f, .int .i64 (al + m + 4 + z), .int .i64 al, .int .i64 l, .int .i64 m] (w8.setCell ⟨X, 2, none⟩ (.int .i64 (al + m + 4 + z))) := NB.put 2 _
  generalize w8.setCell ⟨X, 2, none⟩ (.int .i64 (al + m + 4 + z)) = w9 at N2 ⊢
  try dsimp only
  refine hK.out _ _ ⟨N2.R.cell 3 rfl, N2.R.cell 5 rfl⟩ ?_; clear hK K hHeld; intro hHeld; try simp only [Act.put, List.setIfInBounds_toArray, List.set_cons_zero, List.set_cons_succ]
  refine wpAnyH_done (by kernel_rfl) ?_ _
  refine NoPanic.normal ?_
  clear hHeld NB
  have rk : RK N f (al + m + 4 + z) al l m := ⟨by omega, by omega, by omega, by omega, by omega, by omega, by omega⟩
  generalize al + m + 4 + z = P at N2 rk ⊢
  clear z0 z1 m0 m1 l0 l1 al0 al1
  have hmk := run_make_row' (P := Try.prog) 30 4 (.bool false) 1 Try.underlying30 info_bool rfl .i64 .i64 N (by omega) (by omega)
  have NB := N2
  clear N2
  have zX := NB.lt
  have c0 := (NB.R.alloc (.cells #[] 2)).alloc (.cells #[] 2) |>.cell 0 rfl
  go_wp2_with fail
  clear c0 hmk
  have CL : Cl w B p a len cap X [.int .i64 N, .int .i64 f, .int .i64 P, .int .i64 al, .int .i64 l, .int .i64 m] w9.heap.size w9.heap.size 0 0 (w9.heap.size + 1) 0 0 (w9.heap.size + 2) N [] [] (List.replicate N false) (((w9.alloc (.cells #[] 2)).alloc (.cells #[] 2)).alloc (.cells (madeCells #[.bool false] N) 4)) := by
    refine ⟨((NB.below ((Below.refl _ _).alloc (Nat.le_refl _) _)).below ((Below.refl _ _).alloc (Nat.le_refl _) _)).below ((Below.refl _ _).alloc (Nat.le_refl _) _), ?_, ?_, ?_, by omega, zX⟩
    · exact own_below (own_below (World.ownsRow_made w9 #[] 0 (Nat.le_refl _) (by unfold maxLen; omega) rfl) ((Below.refl _ _).alloc (Nat.le_refl _) _)) ((Below.refl _ _).alloc (Nat.le_refl _) _)
    · have q := World.ownsRow_made (e := 2) (size := 1) (base := w9.heap.size) (w9.alloc (.cells #[] 2)) #[] 0 (by simp) (by unfold maxLen; omega) rfl
      rw [World.size_alloc] at q
      exact own_below q ((Below.refl _ _).alloc (Nat.le_refl _) _)
    · have q := ownb_made ((w9.alloc (.cells #[] 2)).alloc (.cells #[] 2)) w9.heap.size N (by simp; omega) (by omega)
      rw [World.size_alloc, World.size_alloc] at q
      exact q
  generalize ((w9.alloc (.cells #[] 2)).alloc (.cells #[] 2)).alloc (.cells (madeCells #[.bool false] N) 4) = wA at CL ⊢
  clear NB
  obtain ⟨i0, hi0, hz0, hz1, hz2⟩ := info_parts Ls.info
  go_loopw [5, 6, 8] (fun v5 v6 i wr => ∃ (k gK cK gO cO : Nat) (zs os : List Int), k ≤ N ∧ i = .int .i64 k ∧ v5 = .slice (some ⟨gK, 0, none⟩) k cK ∧ v6 = .slice (some ⟨gO, 0, none⟩) k cO ∧ Hid (Cl w B p a len cap X [.int .i64 N, .int .i64 f, .int .i64 P, .int .i64 al, .int .i64 l, .int .i64 m] w9.heap.size gK cK k gO cO k (w9.heap.size + 2) N zs os (List.replicate N false) wr ∧ (∀ x ∈ zs, 1 ≤ x ∧ x ≤ 100000) ∧ (∀ x ∈ os, -8 ≤ x ∧ x ≤ 8))) (fun _ _ i _ => N - (intOf i).toNat)
  case atStart => exact ⟨0, _, _, _, _, [], [], Nat.zero_le _, rfl, rfl, rfl, CL, (fun x hx => by cases hx), (fun x hx => by cases hx)⟩
  case round =>
    clear CL
    obtain ⟨k, gK, cK, gO, cO, zs, os, hk, rfl, rfl, rfl, HH⟩ := hrel
    obtain ⟨CL, hzs, hos⟩ := HH.out
    clear HH
    have c0 := CL.C.R.cell 0 rfl
    have HZ : Hid ((∀ x ∈ zs, 1 ≤ x ∧ x ≤ 100000) ∧ (∀ x ∈ os, -8 ≤ x ∧ x ≤ 8)) := ⟨hzs, hos⟩
    clear hzs hos
    by_cases hlt : k < N
    · have hi : (k : Int) < N := by omega
      go_wp2_with fail
      clear c0
      refine (Di.below' w B p a len cap 100000 (by omega) (by omega) _ CL.C.st).mono ?_
      rintro e wa ⟨⟨x, rfl, x0, x1⟩, sx, px⟩
      replace CL := CL.step sx px
      clear sx px
      have HO : Hid (Own wa w9.heap.size gK k cK zs) := CL.K
      have zl := (own_lt CL.K rfl)
      have hzl := CL.K.data.1
      go_wp2_with (at_builtin; refine wpList_append_own_at _ rfl (.tmp 54) (.tmp 58) 29 rfl w9.heap.size 2 i0 (.int .i64 0) 1 8 Try.underlying29 hi0 hz0 hz1 hz2 rfl (by decide) _ _ _ rfl (World.ownsRow.alloc (w := wa) HO.out _) ⟨wa.heap.size, 0, none⟩ 1 1 (ints [1 + x]) rfl rfl (Dg.one_new wa (1 + x) _ _ rfl) (Ow.one _) (by unfold maxLen; omega) (by omega) (by simp; omega) ?_; intro v2 w2 hx2 hg2 hn2 ha2)
      obtain ⟨gK2, cK2, rfl, CL2⟩ := CL.moreK hx2 hg2 (Dg.no_nil hn2 rfl) ha2
      clear hx2 hg2 hn2 ha2 HO CL zl
      go_wp2_with fail
      refine (Di.around' w B p a len cap 8 (by omega) (by omega) _ CL2.C.st).mono ?_
      rintro e wb ⟨⟨y, rfl, y0, y1⟩, sx, px⟩
      replace CL := CL2.step sx px
      clear sx px CL2
      have HO : Hid (Own wb w9.heap.size gO k cO os) := CL.O
      have zl := (own_lt CL.O rfl)
      have hol := CL.O.data.1
      go_wp2_with (at_builtin; refine wpList_append_own_at _ rfl (.tmp 60) (.tmp 63) 29 rfl w9.heap.size 2 i0 (.int .i64 0) 1 8 Try.underlying29 hi0 hz0 hz1 hz2 rfl (by decide) _ _ _ rfl (World.ownsRow.alloc (w := wb) HO.out _) ⟨wb.heap.size, 0, none⟩ 1 1 (ints [y]) rfl rfl (Dg.one_new wb (y) _ _ rfl) (Ow.one _) (by unfold maxLen; omega) (by omega) (by simp; omega) ?_; intro v2 w2 hx2 hg2 hn2 ha2)
      obtain ⟨gO2, cO2, rfl, CL2⟩ := CL.moreO hx2 hg2 (Dg.no_nil hn2 rfl) ha2
      clear hx2 hg2 hn2 ha2 HO CL zl
      go_wp2_with fail
      go_roundw
      case rel => exact ⟨k + 1, gK2, cK2, gO2, cO2, zs ++ [1 + x], os ++ [y], by omega, by go_num, rfl, rfl, CL2, (fun q hq => by rcases List.mem_append.1 hq with hq | hq; exact HZ.out.1 q hq; rw [List.mem_singleton] at hq; subst hq; omega), (fun q hq => by rcases List.mem_append.1 hq with hq | hq; exact HZ.out.2 q hq; rw [List.mem_singleton] at hq; subst hq; omega)⟩
      case measure => simp [intOf]; omega
    · have hi : ¬ (k : Int) < N := by omega
      have e : N = k := by omega
      subst e
      clear hi
      go_wp2_with fail
      clear c0
      refine (Di.below' w B p a len cap (f + 1) (by omega) (by omega) _ CL.C.st).mono ?_
      rintro e wa ⟨⟨x, rfl, x0, x1⟩, sx, px⟩
      replace CL := CL.step sx px
      clear sx px
      obtain ⟨J, rfl⟩ := Int.eq_ofNat_of_zero_le x0
      go_wp2_with fail
      go_loopw [9] (fun q wr => ∃ (j : Nat) (bs : List Bool), q = .int .i64 j ∧ Hid (Cl w B p a len cap X [.int .i64 N, .int .i64 f, .int .i64 P, .int .i64 al, .int .i64 l, .int .i64 m] w9.heap.size gK cK N gO cO N (w9.heap.size + 2) N zs os bs wr ∧ (CT bs N : Int) + j ≤ f)) (fun q _ => (intOf q).toNat)
      case atStart => exact ⟨J, _, rfl, CL, by rw [ct_none]; omega⟩
      case round =>
        clear CL
        obtain ⟨j, bs, rfl, HH⟩ := hrel
        obtain ⟨CL, hct⟩ := HH.out
        clear HH
        have HC : Hid ((CT bs N : Int) + j ≤ f) := hct
        clear hct
        have hj3 : j ≤ 3 := by have := HC.out; omega
        have c0 := CL.C.R.cell 0 rfl
        by_cases hj : 0 < j
        · have hi : (0 : Int) < j := by omega
          go_wp2_with fail
          clear c0
          refine (Di.below' w B p a len cap N (by omega) (by omega) _ CL.C.st).mono ?_
          rintro e wb ⟨⟨y, rfl, y0, y1⟩, sx, px⟩
          replace CL := CL.step sx px
          clear sx px
          obtain ⟨i, rfl⟩ := Int.eq_ofNat_of_zero_le y0
          have hiN : i < N := by omega
          have hbl : bs.length = N := by have := CL.F.1; rw [bools_len] at this; omega
          have hc := (own_cell CL.F i (.bool bs[i]) (by simp [bools, hbl, hiN])).1
          have hf := (own_cell CL.F i (.bool bs[i]) (by simp [bools, hbl, hiN])).2
          replace CL := CL.lie i hiN
          have hq := (ct_set bs i N).1
          have HC2 : Hid ((CT (bs.set i true) N : Int) + (j - 1 : Nat) ≤ f) := by have := HC.out; unfold Hid; omega
          clear hq HC
          go_wp2_with fail
          go_roundw
          case rel => exact ⟨j - 1, bs.set i true, by rw [Int.ofNat_sub hj]; go_num, CL, HC2.out⟩
          case measure => simp [intOf]; omega
        · have hj0 : j = 0 := by omega
          subst hj0
          have ct : (CT bs N : Int) ≤ f := by have := HC.out; omega
          clear HC hj
          have d0 := CL.C.R.cell 0 rfl
          have d1 := CL.C.R.cell 1 rfl
          have d2 := CL.C.R.cell 2 rfl
          have d3 := CL.C.R.cell 3 rfl
          have d4 := CL.C.R.cell 4 rfl
          have d5 := CL.C.R.cell 5 rfl
          have hzl := CL.K.data.1
          have hol := CL.O.data.1
          have ko : KO zs N = true := Sl.ko_yes (by omega) (fun q hq => by have := HZ.out.1 _ (el_mem (zs := zs) (k := q) (by omega)); omega)
          have ho8 : ∀ q, q < N → -1000000000000000 ≤ el os q ∧ el os q ≤ 1000000000000000 := fun q hq => by have := HZ.out.2 _ (el_mem (zs := os) (k := q) (by omega)); omega
          have HK : Hid (KO zs N = true) := ko
          clear ko
          go_wp2_with fail
          clear d0 d1 d2 d3 d4 d5 c0
          refine (newCourt N cK N cO f P al l m _ _ _ zs os bs _ rk CL.K.row CL.O.row (OwnB.flags CL.F) HK.out ct ho8).mono ?_
          rintro e wN ⟨⟨hK, kK, hL, kL, aP, cP, rfl, MM⟩, bN⟩
          have NB := CL.C.below bN
          have zN := CL.C.lt
          replace MM := MM.low (show w.heap.size + 1 ≤ wr.heap.size by have := CL.C.x; omega)
          clear CL bN hzl hol ho8
          have b1 := (Below.refl wN.heap.size wN).alloc (Nat.le_refl _) (.cells #[.int .i64 N, .int .i64 f, .int .i64 P, .int .i64 al, .int .i64 l, .int .i64 m, .slice (some ⟨hK, 0, none⟩) N kK, .slice (some ⟨hL, 0, none⟩) N kL, .slice aP N cP, .slice none 0 0, .int .i64 0, .slice none 0 0, .slice none 0 0] 36)
          have RY := Room.new wN [.int .i64 N, .int .i64 f, .int .i64 P, .int .i64 al, .int .i64 l, .int .i64 m, .slice (some ⟨hK, 0, none⟩) N kK, .slice (some ⟨hL, 0, none⟩) N kL, .slice aP N cP, .slice none 0 0, .int .i64 0, .slice none 0 0, .slice none 0 0] 36
          replace NB := NB.below b1
          replace MM := MM.below b1
          have e0 := RY.cell 0 rfl
          have e1 := RY.cell 1 rfl
          have e2 := RY.cell 2 rfl
          have e3 := RY.cell 3 rfl
          have e4 := RY.cell 4 rfl
          have e5 := RY.cell 5 rfl
          have e6 := RY.cell 6 rfl
          have e7 := RY.cell 7 rfl
          have e8 := RY.cell 8 rfl
          have e9 := RY.cell 9 rfl
          have e10 := RY.cell 10 rfl
          have e11 := RY.cell 11 rfl
          have e12 := RY.cell 12 rfl
          have d0 := NB.Z.cell 0 rfl
          have d1 := NB.Z.cell 1 rfl
          have d2 := NB.Z.cell 2 rfl
          have d3 := NB.Z.cell 3 rfl
          have d4 := NB.Z.cell 4 rfl
          have d5 := NB.Z.cell 5 rfl
          have d6 := NB.Z.cell 6 rfl
          have d7 := NB.Z.cell 7 rfl
          have d8 := NB.Z.cell 8 rfl
          have d9 := NB.Z.cell 9 rfl
          have d10 := NB.Z.cell 10 rfl
          have d11 := NB.Z.cell 11 rfl
          have d12 := NB.Z.cell 12 rfl
          have f0 := NB.Z.froz 0 rfl
          have f1 := NB.Z.froz 1 rfl
          have f2 := NB.Z.froz 2 rfl
          have f3 := NB.Z.froz 3 rfl
          have f4 := NB.Z.froz 4 rfl
          have f5 := NB.Z.froz 5 rfl
          have f6 := NB.Z.froz 6 rfl
          have f7 := NB.Z.froz 7 rfl
          have f8 := NB.Z.froz 8 rfl
          have f9 := NB.Z.froz 9 rfl
          have f10 := NB.Z.froz 10 rfl
          have f11 := NB.Z.froz 11 rfl
          have f12 := NB.Z.froz 12 rfl
          go_wp2_with fail
          generalize wN.alloc (.cells #[.int .i64 N, .int .i64 f, .int .i64 P, .int .i64 al, .int .i64 l, .int .i64 m, .slice (some ⟨hK, 0, none⟩) N kK, .slice (some ⟨hL, 0, none⟩) N kL, .slice aP N cP, .slice none 0 0, .int .i64 0, .slice none 0 0, .slice none 0 0] 36) = wM at NB MM ⊢
          have RZ : Room (((((((((((((wM.setCell ⟨w.heap.size, 0, none⟩ (.int .i64 N)).setCell ⟨w.heap.size, 1, none⟩ (.int .i64 f)).setCell ⟨w.heap.size, 2, none⟩ (.int .i64 P)).setCell ⟨w.heap.size, 3, none⟩ (.int .i64 al)).setCell ⟨w.heap.size, 4, none⟩ (.int .i64 l)).setCell ⟨w.heap.size, 5, none⟩ (.int .i64 m)).setCell ⟨w.heap.size, 6, none⟩ (.slice (some ⟨hK, 0, none⟩) N kK)).setCell ⟨w.heap.size, 7, none⟩ (.slice (some ⟨hL, 0, none⟩) N kL)).setCell ⟨w.heap.size, 8, none⟩ (.slice aP N cP)).setCell ⟨w.heap.size, 9, none⟩ (.slice none 0 0)).setCell ⟨w.heap.size, 10, none⟩ (.int .i64 0)).setCell ⟨w.heap.size, 11, none⟩ (.slice none 0 0)).setCell ⟨w.heap.size, 12, none⟩ (.slice none 0 0)) w.heap.size [.int .i64 N, .int .i64 f, .int .i64 P, .int .i64 al, .int .i64 l, .int .i64 m, .slice (some ⟨hK, 0, none⟩) N kK, .slice (some ⟨hL, 0, none⟩) N kL, .slice aP N cP, .slice none 0 0, .int .i64 0, .slice none 0 0, .slice none 0 0] := sets_room [.int .i64 N, .int .i64 f, .int .i64 P, .int .i64 al, .int .i64 l, .int .i64 m, .slice (some ⟨hK, 0, none⟩) N kK, .slice (some ⟨hL, 0, none⟩) N kL, .slice aP N cP, .slice none 0 0, .int .i64 0, .slice none 0 0, .slice none 0 0] 0 wM [] z13 NB.Z rfl rfl
          have MZ : Mem (((((((((((((wM.setCell ⟨w.heap.size, 0, none⟩ (.int .i64 N)).setCell ⟨w.heap.size, 1, none⟩ (.int .i64 f)).setCell ⟨w.heap.size, 2, none⟩ (.int .i64 P)).setCell ⟨w.heap.size, 3, none⟩ (.int .i64 al)).setCell ⟨w.heap.size, 4, none⟩ (.int .i64 l)).setCell ⟨w.heap.size, 5, none⟩ (.int .i64 m)).setCell ⟨w.heap.size, 6, none⟩ (.slice (some ⟨hK, 0, none⟩) N kK)).setCell ⟨w.heap.size, 7, none⟩ (.slice (some ⟨hL, 0, none⟩) N kL)).setCell ⟨w.heap.size, 8, none⟩ (.slice aP N cP)).setCell ⟨w.heap.size, 9, none⟩ (.slice none 0 0)).setCell ⟨w.heap.size, 10, none⟩ (.int .i64 0)).setCell ⟨w.heap.size, 11, none⟩ (.slice none 0 0)).setCell ⟨w.heap.size, 12, none⟩ (.slice none 0 0)) (w.heap.size + 1) N hK kK hL kL aP cP zs os bs := MM.keep fun g h1 h2 => sets_heap (by omega) [.int .i64 N, .int .i64 f, .int .i64 P, .int .i64 al, .int .i64 l, .int .i64 m, .slice (some ⟨hK, 0, none⟩) N kK, .slice (some ⟨hL, 0, none⟩) N kL, .slice aP N cP, .slice none 0 0, .int .i64 0, .slice none 0 0, .slice none 0 0] 0 wM
          have SZ : Di.St w B p a len cap (((((((((((((wM.setCell ⟨w.heap.size, 0, none⟩ (.int .i64 N)).setCell ⟨w.heap.size, 1, none⟩ (.int .i64 f)).setCell ⟨w.heap.size, 2, none⟩ (.int .i64 P)).setCell ⟨w.heap.size, 3, none⟩ (.int .i64 al)).setCell ⟨w.heap.size, 4, none⟩ (.int .i64 l)).setCell ⟨w.heap.size, 5, none⟩ (.int .i64 m)).setCell ⟨w.heap.size, 6, none⟩ (.slice (some ⟨hK, 0, none⟩) N kK)).setCell ⟨w.heap.size, 7, none⟩ (.slice (some ⟨hL, 0, none⟩) N kL)).setCell ⟨w.heap.size, 8, none⟩ (.slice aP N cP)).setCell ⟨w.heap.size, 9, none⟩ (.slice none 0 0)).setCell ⟨w.heap.size, 10, none⟩ (.int .i64 0)).setCell ⟨w.heap.size, 11, none⟩ (.slice none 0 0)).setCell ⟨w.heap.size, 12, none⟩ (.slice none 0 0)) := stz [.int .i64 N, .int .i64 f, .int .i64 P, .int .i64 al, .int .i64 l, .int .i64 m, .slice (some ⟨hK, 0, none⟩) N kK, .slice (some ⟨hL, 0, none⟩) N kL, .slice aP N cP, .slice none 0 0, .int .i64 0, .slice none 0 0, .slice none 0 0] 0 wM NB.st (Nat.le_refl _) (by omega) (by omega)
          generalize (((((((((((((wM.setCell ⟨w.heap.size, 0, none⟩ (.int .i64 N)).setCell ⟨w.heap.size, 1, none⟩ (.int .i64 f)).setCell ⟨w.heap.size, 2, none⟩ (.int .i64 P)).setCell ⟨w.heap.size, 3, none⟩ (.int .i64 al)).setCell ⟨w.heap.size, 4, none⟩ (.int .i64 l)).setCell ⟨w.heap.size, 5, none⟩ (.int .i64 m)).setCell ⟨w.heap.size, 6, none⟩ (.slice (some ⟨hK, 0, none⟩) N kK)).setCell ⟨w.heap.size, 7, none⟩ (.slice (some ⟨hL, 0, none⟩) N kL)).setCell ⟨w.heap.size, 8, none⟩ (.slice aP N cP)).setCell ⟨w.heap.size, 9, none⟩ (.slice none 0 0)).setCell ⟨w.heap.size, 10, none⟩ (.int .i64 0)).setCell ⟨w.heap.size, 11, none⟩ (.slice none 0 0)).setCell ⟨w.heap.size, 12, none⟩ (.slice none 0 0)) = wz at RZ MZ SZ ⊢
          refine bodyPost_ret (v := crt N f P al l m (.slice (some ⟨hK, 0, none⟩) N kK) (.slice (some ⟨hL, 0, none⟩) N kL) (.slice aP N cP)) (ret13z Try.results9 rfl RZ) rfl ⟨⟨N, f, P, al, l, m, hK, kK, hL, kL, aP, cP, rfl, zs, os, bs, MZ.low (by omega), rk, HK.out, by omega, ct, HZ.out.2⟩, Di.St.on hst SZ, SZ.step⟩

end Go.Proofs.Ytadmkojlobniaaa.Ct
