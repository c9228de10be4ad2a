/-
  FnSeal's state: dice, a court's cells, its keys; plain facts on seals.
-/
import Derived.Test.YtadmkojlobniaaaCt6
import Derived.Test.YtadmkojlobniaaaKd2
import Derived.Deep.Cut
import Derived.Deep.CutRange
namespace Go.Proofs.Ytadmkojlobniaaa.Ct
open Go.ChangeShapes Go.WideShapes Go.ChangeAt Go.RowKit
open Ls (el Row)
open Ow (Own ints)
open Rm (Room)
open Sl (KO SO SR TT sl)
open Dr (Step)
set_option linter.unusedVariables false
set_option linter.unusedSimpArgs false

/-- Dice, a court's cells, its keys. -/
structure Fz (w : World) (a : Option Addr) (len cap X : Nat) (cs : List Value) (b0 gK kK N : Nat) (zs : List Int) (w' : World) : Prop where
  st : Di.St w w.heap.size w.heap.size a len cap w'
  C : Room w' X cs
  K : Own w' b0 gK N kK zs
  x : w.heap.size < X ∧ w.heap.size < b0
theorem Fz.below {w : World} {a : Option Addr} {len cap X : Nat} {cs : List Value} {b0 gK kK N : Nat} {zs : List Int} {w1 w2 : World} (h : Fz w a len cap X cs b0 gK kK N zs w1) (b : Below w1.heap.size w1 w2) : Fz w a len cap X cs b0 gK kK N zs w2 :=
  ⟨h.st.below b, h.C.below b, own_below h.K b, h.x⟩
theorem Fz.step {w : World} {a : Option Addr} {len cap X : Nat} {cs : List Value} {b0 gK kK N : Nat} {zs : List Int} {w1 w2 : World} (h : Fz w a len cap X cs b0 gK kK N zs w1) (s : Di.St w w.heap.size w.heap.size a len cap w2) (t : Step w.heap.size w1 w2) : Fz w a len cap X cs b0 gK kK N zs w2 :=
  ⟨s, Dg.room_step h.C t (by have := h.x; omega), own_stp h.K t h.x.2, h.x⟩
theorem Fz.put {w : World} {a : Option Addr} {len cap X : Nat} {cs : List Value} {b0 gK kK N : Nat} {zs : List Int} {w1 : World} (h : Fz w a len cap X cs b0 gK kK N zs w1) {q : Nat} (hq : w.heap.size < q) (hX : q ≠ X) (hK : q ≠ gK) (i : Nat) (v : Value) : Fz w a len cap X cs b0 gK kK N zs (w1.setCell ⟨q, i, none⟩ v) :=
  ⟨h.st.setNew i (by omega) (by omega) (by omega) v, h.C.setOther hX i v, own_keep h.K fun g hg => by cases hg; exact Below.heap_setCell _ _ _ _ (by simp; exact fun e => hK e.symm), h.x⟩
theorem Fz.out {w : World} {a : Option Addr} {len cap X : Nat} {cs : List Value} {b0 gK kK N : Nat} {zs : List Int} {w1 : World} (h : Fz w a len cap X cs b0 gK kK N zs w1) : Below w.heap.size w w1 :=
  ⟨h.st.step.os, h.st.step.tape, h.st.step.output, h.st.step.size, fun k hk => h.st.step.block k hk (by omega)⟩
theorem Fz.lt {w : World} {a : Option Addr} {len cap X : Nat} {cs : List Value} {b0 gK kK N : Nat} {zs : List Int} {w1 : World} (h : Fz w a len cap X cs b0 gK kK N zs w1) : gK < w1.heap.size := (own_lt h.K rfl).2

theorem seal_last {zs : List Int} {N : Nat} {r : Int} : SO zs N r N = false := Sl.so_no (by omega)
theorem seal_is {zs : List Int} {N : Nat} {r k : Int} (h : SO zs N r k = true) : SR zs N r k (TT zs N r k) = true := by rw [Sl.sr_yes h, decide_eq_true rfl]
theorem seal_other {zs : List Int} {N : Nat} {r k t : Int} (h : SO zs N r k = true) (ht : t ≠ TT zs N r k) : SR zs N r k t = false := by rw [Sl.sr_yes h, decide_eq_false ht]

end Go.Proofs.Ytadmkojlobniaaa.Ct
