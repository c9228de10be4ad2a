/-
  The numbers that the laws roll out of their bytes: laws.roll and the methods below and around of its dice: each returns, writes nothing that was there ahead of it, and its number lies where it should.
-/
import Derived.Test.YtadmkojlobniaaaDraw2
import Derived.RegionTactic
import Derived.ChangeAlike
namespace Go.Proofs.Ytadmkojlobniaaa.Di
open Go.ChangeShapes Go.WideShapes Go.ChangeAt Go.RowKit
set_option linter.unusedVariables false

theorem and_u64 (v : Int) (m : Nat) (hm : m < 9223372036854775808) : 0 ≤ bits .and .u64 v (m : Int) ∧ bits .and .u64 v (m : Int) ≤ m := by
  have h2 : (BitVec.ofInt 64 (m : Int)).toNat = m := by
    rw [BitVec.ofInt_natCast, BitVec.toNat_ofNat]; exact Nat.mod_eq_of_lt (by omega)
  have e : bits .and .u64 v (m : Int) = IntKind.u64.wrap ((BitVec.ofInt 64 v &&& BitVec.ofInt 64 (m : Int)).toNat : Int) := rfl
  have l : (BitVec.ofInt 64 v &&& BitVec.ofInt 64 (m : Int)).toNat ≤ m := by
    rw [BitVec.toNat_and, h2]; exact Nat.and_le_right
  rw [e, IntKind.wrap_u64]
  omega

/-- Dice at block p, over these bytes. -/
structure Cur (w : World) (B p : Nat) (a : Option Addr) (len cap : Nat) (i : Nat) (h : Int) : Prop where
  le : B ≤ p
  code : Dr.Code w B a len
  c0 : w.cell? ⟨p, 0, none⟩ = some (.slice a len cap)
  c1 : w.cell? ⟨p, 1, none⟩ = some (.int .i64 i)
  c2 : w.cell? ⟨p, 2, none⟩ = some (.int .u64 h)
  f1 : w.frozen? ⟨p, 1, none⟩ = false
  f2 : w.frozen? ⟨p, 2, none⟩ = false
  i_le : i ≤ len

def IsCur (w : World) (B p : Nat) (a : Option Addr) (len cap : Nat) : Prop := ∃ i h, Cur w B p a len cap i h

theorem Cur.set2 {w : World} {B p : Nat} {a : Option Addr} {len cap i : Nat} {h : Int} (c : Cur w B p a len cap i h) (v : Int) : Cur (w.setCell ⟨p, 2, none⟩ (.int .u64 v)) B p a len cap i v where
  le := c.le
  code := c.code.later ((Below.refl _ _).setCell c.le _)
  c0 := by rw [World.cell?_setCell_other _ _ _ _ (by simp)]; exact c.c0
  c1 := by rw [World.cell?_setCell_other _ _ _ _ (by simp)]; exact c.c1
  c2 := World.cell?_setCell_same _ _ _ c.c2
  f1 := by rw [World.frozen?_setCell]; exact c.f1
  f2 := by rw [World.frozen?_setCell]; exact c.f2
  i_le := c.i_le

theorem Cur.set1 {w : World} {B p : Nat} {a : Option Addr} {len cap i : Nat} {h : Int} (c : Cur w B p a len cap i h) (j : Nat) (v : Int) (hv : v = j) (hj : j ≤ len) : Cur (w.setCell ⟨p, 1, none⟩ (.int .i64 v)) B p a len cap j h where
  le := c.le
  code := c.code.later ((Below.refl _ _).setCell c.le _)
  c0 := by rw [World.cell?_setCell_other _ _ _ _ (by simp)]; exact c.c0
  c1 := by rw [← hv]; exact World.cell?_setCell_same _ _ _ c.c1
  c2 := by rw [World.cell?_setCell_other _ _ _ _ (by simp)]; exact c.c2
  f1 := by rw [World.frozen?_setCell]; exact c.f1
  f2 := by rw [World.frozen?_setCell]; exact c.f2
  i_le := hj

theorem Cur.drewN {w : World} {B p : Nat} {a : Option Addr} {len cap i : Nat} {h : Int} (c : Cur w B p a len cap i h) (n : Nat) : Cur (w.drewN n) B p a len cap i h :=
  ⟨c.le, c.code.later (below_drewN (Below.refl _ _) n), c.c0, c.c1, c.c2, c.f1, c.f2, c.i_le⟩

/-- Dice, and what has turned since w0. -/
structure St (w0 : World) (B p : Nat) (a : Option Addr) (len cap : Nat) (w : World) : Prop where
  cur : IsCur w B p a len cap
  step : Dr.Step p w0 w

theorem new_cur (w : World) (B : Nat) (a : Option Addr) (len cap : Nat) (h : Int) (t : TypeId) (hB : B ≤ w.heap.size) (hc : Dr.Code w B a len) :
    St w B w.heap.size a len cap (w.alloc (.cells #[.slice a len cap, .int .i64 0, .int .u64 h] t)) := by
  refine ⟨⟨0, h, hB, hc.later ((Below.refl _ _).alloc hB _), by simp, by simp, by simp, ?_, ?_, by omega⟩, (Dr.Step.refl _ _).alloc _⟩
  all_goals (rw [frozen?_alloc_cells]; simp [World.frozen?])

set_option maxHeartbeats 1000000 in
theorem roll (B : Nat) (a : Option Addr) (len cap : Nat) (s : Int) (w : World) (hB : B ≤ w.heap.size) (hc : Dr.Code w B a len) :
    Calls Try.prog 8 #[.slice a len cap, .int .u64 s] w fun e w' => e = .returned (.pointer (some ⟨w.heap.size, 0, none⟩)) ∧ St w B w.heap.size a len cap w' := by
  have ⟨l4, cd⟩ := hc
  go_enter Try.func8, Try.ntmps8
  go_wp2
  go_loopw [6] (fun i wr => ∃ k : Nat, k ≤ len ∧ i = .int .i64 k ∧ St w B w.heap.size a len cap wr) (fun i _ => len - (intOf i).toNat)
  case atStart => exact ⟨0, Nat.zero_le _, rfl, new_cur w B a len cap _ _ hB hc⟩
  case round =>
    obtain ⟨k, hk, rfl, ⟨i, h, cu⟩, sp⟩ := hrel
    have ⟨le, code, c0, c1, c2, f1, f2, i_le⟩ := cu
    by_cases hlt : k < len
    · rcases code.2 with cd | ⟨b, off, rfl, hb, hz⟩
      · omega
      · obtain ⟨z, hz, z0, z1⟩ := hz k hlt
        have hi : (k : Int) < len := by omega
        have hne : b ≠ w.heap.size := by omega
        have hne' : w.heap.size ≠ b := by omega
        go_wp2
        go_region
        all_goals
          go_wp2
          exact ⟨⟨k + 1, by omega, by go_num, ⟨i, _, (cu.set2 _).drewN 1⟩, (sp.setCell 2 _).drewN 1⟩, by simp [intOf]; omega⟩
    · have hi : ¬ (k : Int) < len := by omega
      go_wp2
      go_ret
      exact ⟨rfl, ⟨i, h, cu⟩, sp⟩

set_option maxHeartbeats 1000000 in
theorem below (w0 : World) (B p : Nat) (a : Option Addr) (len cap : Nat) (n : Int) (hn : 0 < n) (hm : n ≤ 9223372036854775807) (w : World) (st : St w0 B p a len cap w) :
    Calls Try.prog 11 #[.pointer (some ⟨p, 0, none⟩), .int .i64 n] w fun e w' => (∃ x : Int, e = .returned (.int .i64 x) ∧ 0 ≤ x ∧ x < n) ∧ St w0 B p a len cap w' := by
  have hnz : n ≠ 0 := by omega
  obtain ⟨⟨i, h, cu⟩, sp⟩ := st
  have ⟨le, code, c0, c1, c2, f1, f2, i_le⟩ := cu
  have ⟨l4, cd⟩ := code
  obtain ⟨v, hv⟩ : ∃ v, IntKind.u64.wrap (IntKind.u64.wrap (h * 6364136223846793005) + 1442695040888963407) = v := ⟨_, rfl⟩
  have m0 : 0 ≤ bits .and .u64 (v / 8589934592) 16777215 := (and_u64 (v / 8589934592) 16777215 (by decide)).1
  have m1 : bits .and .u64 (v / 8589934592) 16777215 ≤ 16777215 := (and_u64 (v / 8589934592) 16777215 (by decide)).2
  by_cases hi : i < len
  · rcases cd with cd | ⟨b, off, rfl, hb, hz⟩
    · omega
    · obtain ⟨z, hz, z0, z1⟩ := hz i hi
      have hne : b ≠ p := by omega
      have hne' : p ≠ b := by omega
      have hi' : (i : Int) < len := by omega
      go_enter Try.func11, Try.ntmps11
      go_wp2
      go_quiet (fail)
      go_wp2
      go_quiet (fail)
      go_wp2
      go_ret
      exact ⟨⟨_, rfl, Int.emod_nonneg _ hnz, Int.emod_lt_of_pos _ hn⟩, ⟨i + 1, _, ((cu.set2 _).drewN _).set1 (i + 1) _ (by omega) (by omega)⟩, ((sp.setCell 2 _).drewN _).setCell 1 _⟩
  · have hi' : ¬ (i : Int) < len := by omega
    go_enter Try.func11, Try.ntmps11
    go_wp2
    go_quiet (fail)
    go_wp2
    go_ret
    exact ⟨⟨_, rfl, Int.emod_nonneg _ hnz, Int.emod_lt_of_pos _ hn⟩, ⟨_, _, (cu.set2 _).drewN _⟩, (sp.setCell 2 _).drewN _⟩

set_option maxHeartbeats 1000000 in
theorem around (w0 : World) (B p : Nat) (a : Option Addr) (len cap : Nat) (n : Int) (hn : 0 ≤ n) (hm : n ≤ 4000000000) (w : World) (st : St w0 B p a len cap w) :
    Calls Try.prog 22 #[.pointer (some ⟨p, 0, none⟩), .int .i64 n] w fun e w' => (∃ x : Int, e = .returned (.int .i64 x) ∧ -n ≤ x ∧ x ≤ n) ∧ St w0 B p a len cap w' := by
  go_enter Try.func22, Try.ntmps22
  go_wp2_with fail
  refine (below w0 B p a len cap _ (by omega) (by omega) _ st).mono ?_
  rintro e w1 ⟨⟨x, rfl, x0, x1⟩, st1⟩
  go_wp2
  go_ret
  exact ⟨⟨_, rfl, by omega, by omega⟩, st1⟩

end Go.Proofs.Ytadmkojlobniaaa.Di
