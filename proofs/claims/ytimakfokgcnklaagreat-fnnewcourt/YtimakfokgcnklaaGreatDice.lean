/-
  The numbers that the laws roll out of their bytes: laws.roll and the methods below and around of its dice: each returns, writes nothing that was there ahead of it, and its number lies where it should.
-/
import Derived.Test.YtimakfokgcnklaaGreatDraw2
import Derived.RegionTactic
import Derived.ChangeAlike
namespace Go.Proofs.YtimakfokgcnklaaGreat.Di
open Go.ChangeShapes Go.WideShapes Go.ChangeAt Go.RowKit
set_option linter.unusedVariables false

theorem and_u64 (v : Int) (m : Nat) (hm : m < 9223372036854775808) : 0 ≤ bits .and .u64 v (m : Int) ∧ bits .and .u64 v (m : Int) ≤ m := by
  have h2 : (BitVec.ofInt 64 (m : Int)).toNat = m := by
    rw [BitVec.ofInt_natCast, BitVec.toNat_ofNat]; exact Nat.mod_eq_of_lt (by omega)
  have e : bits .and .u64 v (m : Int) = IntKind.u64.wrap ((BitVec.ofInt 64 v &&& BitVec.ofInt 64 (m : Int)).toNat : Int) := rfl
  have l : (BitVec.ofInt 64 v &&& BitVec.ofInt 64 (m : Int)).toNat ≤ m := by
    rw [BitVec.toNat_and, h2]; exact Nat.and_le_right
  rw [e, IntKind.wrap_u64]
  omega

/-- Dice at block p, over these bytes. -/
structure Cur (w : World) (B p : Nat) (a : Option Addr) (len cap : Nat) (i : Nat) (h : Int) : Prop where
  le : B ≤ p
  code : Dr.Code w B a len
  c0 : w.cell? ⟨p, 0, none⟩ = some (.slice a len cap)
  c1 : w.cell? ⟨p, 1, none⟩ = some (.int .i64 i)
  c2 : w.cell? ⟨p, 2, none⟩ = some (.int .u64 h)
  f1 : w.frozen? ⟨p, 1, none⟩ = false
  f2 : w.frozen? ⟨p, 2, none⟩ = false
  i_le : i ≤ len

def IsCur (w : World) (B p : Nat) (a : Option Addr) (len cap : Nat) : Prop := ∃ i h, Cur w B p a len cap i h

theorem Cur.set2 {w : World} {B p : Nat} {a : Option Addr} {len cap i : Nat} {h : Int} (c : Cur w B p a len cap i h) (v : Int) : Cur (w.setCell ⟨p, 2, none⟩ (.int .u64 v)) B p a len cap i v where
  le := c.le
  code := c.code.later ((Below.refl _ _).setCell c.le _)
  c0 := by rw [World.cell?_setCell_other _ _ _ _ (by simp)]; exact c.c0
  c1 := by rw [World.cell?_setCell_other _ _ _ _ (by simp)]; exact c.c1
  c2 := World.cell?_setCell_same _ _ _ c.c2
  f1 := by rw [World.frozen?_setCell]; exact c.f1
  f2 := by rw [World.frozen?_setCell]; exact c.f2
  i_le := c.i_le

theorem Cur.set1 {w : World} {B p : Nat} {a : Option Addr} {len cap i : Nat} {h : Int} (c : Cur w B p a len cap i h) (j : Nat) (v : Int) (hv : v = j) (hj : j ≤ len) : Cur (w.setCell ⟨p, 1, none⟩ (.int .i64 v)) B p a len cap j h where
  le := c.le
  code := c.code.later ((Below.refl _ _).setCell c.le _)
  c0 := by rw [World.cell?_setCell_other _ _ _ _ (by simp)]; exact c.c0
  c1 := by rw [← hv]; exact World.cell?_setCell_same _ _ _ c.c1
  c2 := by rw [World.cell?_setCell_other _ _ _ _ (by simp)]; exact c.c2
  f1 := by rw [World.frozen?_setCell]; exact c.f1
  f2 := by rw [World.frozen?_setCell]; exact c.f2
  i_le := hj

theorem Cur.drewN {w : World} {B p : Nat} {a : Option Addr} {len cap i : Nat} {h : Int} (c : Cur w B p a len cap i h) (n : Nat) : Cur (w.drewN n) B p a len cap i h :=
  ⟨c.le, c.code.later (below_drewN (Below.refl _ _) n), c.c0, c.c1, c.c2, c.f1, c.f2, c.i_le⟩

/-- Dice, and what has turned since w0. -/
structure St (w0 : World) (B p : Nat) (a : Option Addr) (len cap : Nat) (w : World) : Prop where
  cur : IsCur w B p a len cap
  step : Dr.Step p w0 w

theorem new_cur (w : World) (B : Nat) (a : Option Addr) (len cap : Nat) (h : Int) (t : TypeId) (hB : B ≤ w.heap.size) (hc : Dr.Code w B a len) :
    St w B w.heap.size a len cap (w.alloc (.cells #[.slice a len cap, .int .i64 0, .int .u64 h] t)) := by
  refine ⟨⟨0, h, hB, hc.later ((Below.refl _ _).alloc hB _), by simp, by simp, by simp, ?_, ?_, by omega⟩, (Dr.Step.refl _ _).alloc _⟩
  all_goals (rw [frozen?_alloc_cells]; simp [World.frozen?])

end Go.Proofs.YtimakfokgcnklaaGreat.Di
