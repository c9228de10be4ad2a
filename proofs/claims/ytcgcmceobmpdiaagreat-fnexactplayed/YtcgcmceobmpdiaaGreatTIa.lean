/-
  What is used of turns ahead of impl.TurnOk.
-/
import Derived.Test.YtcgcmceobmpdiaaGreatTOk
import Derived.Test.YtcgcmceobmpdiaaGreatIm6b
import Derived.Deep.RegionHeld3
namespace Go.Proofs.YtcgcmceobmpdiaaGreat.Tu
open Go.ChangeShapes Go.WideShapes Go.ChangeAt Go.RowKit
open Ls (el Row)
open Ow (Has Own ints)
open Rd (Flags)
open Bo (eb HasB)
open Rm (Room)
open Sp (span LK)
open Wl (wld c9 WO bad allIn)
open Ss (RowsAt ln rw_ tot)
open Cf (CP)
set_option linter.unusedVariables false
set_option linter.unusedSimpArgs false

theorem fr_ow (ks : List Int) (fs rs : List Bool) : ∀ k, FR ks fs rs k = (OW 0 ks fs k && OW 1 ks rs k)
  | 0 => rfl
  | k + 1 => by
    show (FR ks fs rs k && (!(eb fs k && (el ks k != 0)) && !(eb rs k && (el ks k != 1)))) = ((OW 0 ks fs k && !(eb fs k && (el ks k != 0))) && (OW 1 ks rs k && !(eb rs k && (el ks k != 1))))
    rw [fr_ow ks fs rs k]
    cases OW 0 ks fs k <;> cases OW 1 ks rs k <;> cases (!(eb fs k && (el ks k != 0))) <;> cases (!(eb rs k && (el ks k != 1))) <;> rfl
theorem lk_not {lo hi x : Int} (h : LK lo hi x = false) : lo ≤ x ∧ x ≤ hi := by
  unfold LK at h
  simp at h
  omega
theorem all_at {lo hi : Int} {zs : List Int} {n : Nat} (h : allIn lo hi zs n = true) : ∀ j, j < n → lo ≤ el zs j ∧ el zs j ≤ hi := by
  intro j hj
  cases hx : LK lo hi (el zs j) with
  | false => exact lk_not hx
  | true =>
    have := Wl.all_no (lo := lo) (hi := hi) (zs := zs) (k := j) (by rw [allIn, hx]; simp) n hj
    rw [h] at this; cases this
theorem wo_more {n l d r p s : Int} {ks os : List Int} {k m : Nat} {t : Int} (h : WO n l d r p s ks k os m t = true) : n = (k : Int) ∧ m = k ∧ 0 < k ∧ ∀ j, j < k → -1000000000000000 ≤ el os j ∧ el os j ≤ 1000000000000000 := by
  unfold WO at h
  simp only [Bool.and_eq_true, beq_iff_eq] at h
  have h1 := Cf.cr_zero.1 (Cf.cp_zero.1 h.1).1
  have h2 := Cf.n1_iff.1 h1.1
  have h4 := h.2.1.1
  have h5 := h.2.2.1.1
  have h6 := all_at h.2.2.1.2
  have e : m = k := by omega
  subst e
  exact ⟨by omega, rfl, by omega, h6⟩
theorem r1_in (d : Int) (a : Option Addr) (m cap k : Nat) (zs : List Int) (w : World) (hr : Row w w.heap.size a m zs) (hm : m ≤ 1048576) :
    Calls Tryz.prog 47 #[span (-d) d, .slice a m cap, .int .i64 (k : Int)] w fun e w' => e = .returned (.bool (R1 d k zs)) ∧ Below w.heap.size w w' := by
  have key := Wl.eachIn (-d) d a m cap zs (k : Int) w hr hm
  have e := r1_eq d k zs
  rw [hr.1] at e
  rw [e] at key
  exact key
theorem if_yes {c : Prop} [Decidable c] {a b : Prop} (h : c) (ha : a) : if c then a else b := by rw [if_pos h]; exact ha
theorem held_lit {P : Program} {ops : Array Oper} {Q : Exit → Act → World → Prop} {S : World → Prop} {id : Nat} {a : Act} {w : World} (n : Nat) (L : Array Bool) (hn : ops.size = n) (hL : Array.replicate n false = L) (hm : P.follows .mixedOrders = true) (hS : S w.drew)
    (h : S w.drew → wpAnyH P .any ops Q S n L a w.drew) : (Code.region id ops true).wp P Q a w := by
  subst hn; subst hL
  exact wp_region_held_drew hm hS h

end Go.Proofs.YtcgcmceobmpdiaaGreat.Tu
