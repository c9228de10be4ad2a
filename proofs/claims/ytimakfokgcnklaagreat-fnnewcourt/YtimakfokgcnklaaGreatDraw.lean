/-
  The draws that the laws make out of their bytes: each returns, writes nothing that was there ahead of it, and its number lies where it should.
-/
import Derived.Test.YtimakfokgcnklaaGreatRows
import Derived.WalkKit
import Derived.ProofKit
import Derived.OpenShut
import Derived.Below
import Derived.WalkSmall
import Derived.Deep.QuietTactic
import Derived.BigQuiet
import Derived.Laws.Bits64b
namespace Go.Proofs.YtimakfokgcnklaaGreat.Dr
open Go.ChangeShapes Go.WideShapes Go.ChangeAt Go.RowKit
set_option linter.unusedVariables false

theorem and_i64 (v : Int) (m : Nat) (hm : m < 9223372036854775808) : 0 ≤ bits .and .i64 v (m : Int) ∧ bits .and .i64 v (m : Int) ≤ m := by
  have h2 : (BitVec.ofInt 64 (m : Int)).toNat = m := by
    rw [BitVec.ofInt_natCast, BitVec.toNat_ofNat]; exact Nat.mod_eq_of_lt (by omega)
  have e : bits .and .i64 v (m : Int) = IntKind.i64.wrap ((BitVec.ofInt 64 v &&& BitVec.ofInt 64 (m : Int)).toNat : Int) := rfl
  have l : (BitVec.ofInt 64 v &&& BitVec.ofInt 64 (m : Int)).toNat ≤ m := by
    rw [BitVec.toNat_and, h2]; exact Nat.and_le_right
  rw [e, IntKind.wrap_i64]
  omega

/-- The bytes can be read: they lie below block B. -/
def Code (w : World) (B : Nat) (a : Option Addr) (len : Nat) : Prop :=
  len ≤ 4096 ∧ (len = 0 ∨ ∃ b off, a = some ⟨b, off, none⟩ ∧ b < B ∧ ∀ k, k < len → ∃ z : Int, w.cell? ⟨b, off + k, none⟩ = some (.int .u8 z) ∧ 0 ≤ z ∧ z ≤ 255)

theorem Code.later {w w' : World} {B : Nat} {a : Option Addr} {len : Nat} (h : Code w B a len) (hb : Below B w w') : Code w' B a len := by
  obtain ⟨h1, h2⟩ := h
  refine ⟨h1, ?_⟩
  rcases h2 with h2 | ⟨b, off, e, hB, hc⟩
  · exact .inl h2
  · refine .inr ⟨b, off, e, hB, fun k hk => ?_⟩
    obtain ⟨z, hz, h0⟩ := hc k hk
    exact ⟨z, by rw [hb.cell (p := ⟨b, off + k, none⟩) hB]; exact hz, h0⟩

/-- A cursor at block p, over these bytes. -/
structure Cur (w : World) (B p : Nat) (a : Option Addr) (len cap : Nat) (i : Nat) (h : Int) : Prop where
  le : B ≤ p
  code : Code w B a len
  c0 : w.cell? ⟨p, 0, none⟩ = some (.slice a len cap)
  c1 : w.cell? ⟨p, 1, none⟩ = some (.int .i64 i)
  c2 : w.cell? ⟨p, 2, none⟩ = some (.int .i64 h)
  f1 : w.frozen? ⟨p, 1, none⟩ = false
  f2 : w.frozen? ⟨p, 2, none⟩ = false
  i_le : i ≤ len

def IsCur (w : World) (B p : Nat) (a : Option Addr) (len cap : Nat) : Prop := ∃ i h, Cur w B p a len cap i h

theorem Cur.set2 {w : World} {B p : Nat} {a : Option Addr} {len cap i : Nat} {h : Int} (c : Cur w B p a len cap i h) (v : Int) : Cur (w.setCell ⟨p, 2, none⟩ (.int .i64 v)) B p a len cap i v where
  le := c.le
  code := c.code.later ((Below.refl _ _).setCell c.le _)
  c0 := by rw [World.cell?_setCell_other _ _ _ _ (by simp)]; exact c.c0
  c1 := by rw [World.cell?_setCell_other _ _ _ _ (by simp)]; exact c.c1
  c2 := World.cell?_setCell_same _ _ _ c.c2
  f1 := by rw [World.frozen?_setCell]; exact c.f1
  f2 := by rw [World.frozen?_setCell]; exact c.f2
  i_le := c.i_le

theorem Cur.set1 {w : World} {B p : Nat} {a : Option Addr} {len cap i : Nat} {h : Int} (c : Cur w B p a len cap i h) (j : Nat) (v : Int) (hv : v = j) (hj : j ≤ len) : Cur (w.setCell ⟨p, 1, none⟩ (.int .i64 v)) B p a len cap j h where
  le := c.le
  code := c.code.later ((Below.refl _ _).setCell c.le _)
  c0 := by rw [World.cell?_setCell_other _ _ _ _ (by simp)]; exact c.c0
  c1 := by rw [← hv]; exact World.cell?_setCell_same _ _ _ c.c1
  c2 := by rw [World.cell?_setCell_other _ _ _ _ (by simp)]; exact c.c2
  f1 := by rw [World.frozen?_setCell]; exact c.f1
  f2 := by rw [World.frozen?_setCell]; exact c.f2
  i_le := hj

theorem Cur.drewN {w : World} {B p : Nat} {a : Option Addr} {len cap i : Nat} {h : Int} (c : Cur w B p a len cap i h) (n : Nat) : Cur (w.drewN n) B p a len cap i h :=
  ⟨c.le, c.code.later (below_drewN (Below.refl _ _) n), c.c0, c.c1, c.c2, c.f1, c.f2, c.i_le⟩

theorem Cur.alloc {w : World} {B p : Nat} {a : Option Addr} {len cap i : Nat} {h : Int} (c : Cur w B p a len cap i h) (cs : Array Value) (t : TypeId) : Cur (w.alloc (.cells cs t)) B p a len cap i h := by
  have hp : p < w.heap.size := World.block_lt_of_cell? _ _ c.c0
  have e : ∀ o, (w.alloc (.cells cs t)).cell? ⟨p, o, none⟩ = w.cell? ⟨p, o, none⟩ := fun o => World.cell?_alloc_lt _ _ _ hp
  exact ⟨c.le, c.code.later ((Below.refl _ _).alloc (by have := c.le; omega) _), by rw [e]; exact c.c0, by rw [e]; exact c.c1, by rw [e]; exact c.c2,
    by rw [frozen?_alloc_cells]; exact c.f1, by rw [frozen?_alloc_cells]; exact c.f2, c.i_le⟩

/-- From w to w' block p alone has turned, and blocks have been laid. -/
structure Step (p : Nat) (w w' : World) : Prop where
  os : w'.os = w.os
  tape : w'.tape = w.tape
  output : w'.output = w.output
  size : w.heap.size ≤ w'.heap.size
  block : ∀ k, k < w.heap.size → k ≠ p → w'.heap[k]? = w.heap[k]?

theorem Step.refl (p : Nat) (w : World) : Step p w w := ⟨rfl, rfl, rfl, Nat.le_refl _, fun _ _ _ => rfl⟩
theorem Step.trans {p : Nat} {a b c : World} (h : Step p a b) (k : Step p b c) : Step p a c :=
  ⟨k.os.trans h.os, k.tape.trans h.tape, k.output.trans h.output, Nat.le_trans h.size k.size, fun i hi hn => (k.block i (Nat.lt_of_lt_of_le hi h.size) hn).trans (h.block i hi hn)⟩
theorem Step.drewN {p : Nat} {a w : World} (h : Step p a w) (n : Nat) : Step p a (w.drewN n) := h.trans ⟨rfl, rfl, rfl, Nat.le_refl _, fun _ _ _ => rfl⟩
theorem Step.alloc {p : Nat} {a w : World} (h : Step p a w) (o : Obj) : Step p a (w.alloc o) :=
  h.trans ⟨rfl, rfl, rfl, by simp, fun k hk _ => Below.heap_alloc _ _ _ hk⟩
theorem Step.setCell {p : Nat} {a w : World} (h : Step p a w) (off : Nat) (u : Value) : Step p a (w.setCell ⟨p, off, none⟩ u) :=
  h.trans ⟨rfl, rfl, rfl, by simp [World.setCell], fun k _ hn => Below.heap_setCell _ _ _ _ hn⟩
theorem Step.below {p B : Nat} {w w' : World} (h : Step p w w') (hp : p < w.heap.size) (hB : B ≤ p) : Below B w w' :=
  ⟨h.os, h.tape, h.output, h.size, fun k hk => h.block k (by omega) (by omega)⟩
theorem Step.cell {p : Nat} {w w' : World} (h : Step p w w') {b o : Nat} (hb : b < w.heap.size) (hn : b ≠ p) : w'.cell? ⟨b, o, none⟩ = w.cell? ⟨b, o, none⟩ :=
  World.cell?_of_block (h.block b hb hn)

/-- A cursor, and what has turned since w0. -/
structure St (w0 : World) (B p : Nat) (a : Option Addr) (len cap : Nat) (w : World) : Prop where
  cur : IsCur w B p a len cap
  step : Step p w0 w

theorem St.lt {w0 : World} {B p : Nat} {a : Option Addr} {len cap : Nat} {w : World} (s : St w0 B p a len cap w) : p < w.heap.size := by
  obtain ⟨⟨i, h, c⟩, _⟩ := s
  exact World.block_lt_of_cell? _ _ c.c0
theorem St.alloc {w0 : World} {B p : Nat} {a : Option Addr} {len cap : Nat} {w : World} (s : St w0 B p a len cap w) (cs : Array Value) (t : TypeId) : St w0 B p a len cap (w.alloc (.cells cs t)) := by
  obtain ⟨⟨i, h, c⟩, k⟩ := s
  exact ⟨⟨i, h, c.alloc cs t⟩, k.alloc _⟩
theorem St.here {w0 : World} {B p : Nat} {a : Option Addr} {len cap : Nat} {w : World} (s : St w0 B p a len cap w) : St w B p a len cap w := ⟨s.cur, Step.refl _ _⟩
theorem St.on {w0 w1 : World} {B p : Nat} {a : Option Addr} {len cap : Nat} {w : World} (k : Step p w0 w1) (s : St w1 B p a len cap w) : St w0 B p a len cap w := ⟨s.cur, k.trans s.step⟩

set_option maxHeartbeats 1000000 in
theorem l1Byte (w0 : World) (B p : Nat) (a : Option Addr) (len cap : Nat) (w : World) (st : St w0 B p a len cap w) :
    Calls Tryz.prog 117 #[.pointer (some ⟨p, 0, none⟩)] w fun e w' => (∃ x : Int, e = .returned (.int .i64 x) ∧ 0 ≤ x ∧ x ≤ 255) ∧ St w0 B p a len cap w' := by
  obtain ⟨⟨i, h, cu⟩, sp⟩ := st
  have ⟨le, code, c0, c1, c2, f1, f2, i_le⟩ := cu
  have ⟨l4, cd⟩ := code
  by_cases hi : i < len
  · rcases cd with cd | ⟨b, off, rfl, hb, hz⟩
    · omega
    · obtain ⟨z, hz, z0, z1⟩ := hz i hi
      have hne : b ≠ p := by omega
      have hne' : p ≠ b := by omega
      have hi' : (i : Int) < len := by omega
      go_enter Tryz.func117, Tryz.ntmps117
      go_wp2
      go_quiet (fail)
      go_wp2
      go_quiet (fail)
      go_wp2
      go_quiet (fail)
      go_wp2
      go_ret
      exact ⟨⟨_, rfl, and_i64 _ 255 (by decide)⟩, ⟨i + 1, _, ((cu.set2 _).drewN _).set1 (i + 1) _ (by omega) (by omega)⟩, ((sp.setCell 2 _).drewN _).setCell 1 _⟩
  · have hi' : ¬ (i : Int) < len := by omega
    go_enter Tryz.func117, Tryz.ntmps117
    go_wp2
    go_quiet (fail)
    go_wp2
    go_quiet (fail)
    go_wp2
    go_ret
    exact ⟨⟨_, rfl, and_i64 _ 255 (by decide)⟩, ⟨_, _, ((cu.set2 _).drewN _).drewN _⟩, ((sp.setCell 2 _).drewN _).drewN _⟩

set_option maxHeartbeats 1000000 in
theorem l1Below (w0 : World) (B p : Nat) (a : Option Addr) (len cap : Nat) (n : Int) (hn : 0 < n) (hm : n ≤ 9223372036854775807) (w : World) (st : St w0 B p a len cap w) :
    Calls Tryz.prog 87 #[.pointer (some ⟨p, 0, none⟩), .int .i64 n] w fun e w' => (∃ x : Int, e = .returned (.int .i64 x) ∧ 0 ≤ x ∧ x < n) ∧ St w0 B p a len cap w' := by
  have hn0 : ¬ n ≤ 0 := by omega
  have hnz : n ≠ 0 := by omega
  by_cases h : n ≤ 256
  · go_enter Tryz.func87, Tryz.ntmps87
    go_wp2_with (go_at_call 117; refine (l1Byte w0 B p a len cap _ (by assumption)).mono ?_; rintro e w1 ⟨⟨x, rfl, x0, x1⟩, st1⟩)
    go_ret
    exact ⟨⟨_, rfl, Int.emod_nonneg _ hnz, Int.emod_lt_of_pos _ hn⟩, st1⟩
  · go_enter Tryz.func87, Tryz.ntmps87
    go_wp2_with (go_at_call 117; refine (l1Byte w0 B p a len cap _ (by assumption)).mono ?_; rintro e w1 ⟨⟨x, rfl, x0, x1⟩, st1⟩)
    go_ret
    exact ⟨⟨_, rfl, Int.emod_nonneg _ hnz, Int.emod_lt_of_pos _ hn⟩, by assumption⟩

set_option maxHeartbeats 1000000 in
theorem l1From (w0 : World) (B p : Nat) (a : Option Addr) (len cap : Nat) (lo hi : Int) (h1 : lo ≤ hi) (h2 : -4000000000 ≤ lo) (h3 : hi ≤ 4000000000) (w : World) (st : St w0 B p a len cap w) :
    Calls Tryz.prog 89 #[.pointer (some ⟨p, 0, none⟩), .int .i64 lo, .int .i64 hi] w fun e w' => (∃ x : Int, e = .returned (.int .i64 x) ∧ lo ≤ x ∧ x ≤ hi) ∧ St w0 B p a len cap w' := by
  go_enter Tryz.func89, Tryz.ntmps89
  go_wp2_with (go_at_call 87; refine (l1Below w0 B p a len cap _ (by omega) (by omega) _ (by assumption)).mono ?_; rintro e w1 ⟨⟨x, rfl, x0, x1⟩, st1⟩)
  go_ret
  exact ⟨⟨_, rfl, by omega, by omega⟩, st1⟩

set_option maxHeartbeats 1000000 in
theorem l1Once (w0 : World) (B p : Nat) (a : Option Addr) (len cap : Nat) (n : Int) (hn : 0 < n) (hm : n ≤ 9223372036854775807) (w : World) (st : St w0 B p a len cap w) :
    Calls Tryz.prog 39 #[.pointer (some ⟨p, 0, none⟩), .int .i64 n] w fun e w' => (∃ x : Bool, e = .returned (.bool x)) ∧ St w0 B p a len cap w' := by
  go_enter Tryz.func39, Tryz.ntmps39
  go_wp2_with (go_at_call 87; refine (l1Below w0 B p a len cap _ hn hm _ (by assumption)).mono ?_; rintro e w1 ⟨⟨x, rfl, x0, x1⟩, st1⟩)
  go_ret
  exact ⟨⟨_, rfl⟩, st1⟩

/-- A number of a literal list, read behind what has turned block p alone. -/
theorem lit_cell {w0 : World} {B p : Nat} {a : Option Addr} {len cap : Nat} {w w1 : World} {cs : Array Value} {t : TypeId} (st : St w0 B p a len cap w) (s1 : Step p (w.alloc (.cells cs t)) w1) (o : Nat) :
    w1.cell? ⟨w.heap.size, o, none⟩ = cs[o]? := by
  have h := st.lt
  rw [s1.cell (by simp) (by omega)]
  exact World.cell?_alloc_new _ _ _ _

theorem in10 {k : Nat} (h : k < 10) : k = 0 ∨ k = 1 ∨ k = 2 ∨ k = 3 ∨ k = 4 ∨ k = 5 ∨ k = 6 ∨ k = 7 ∨ k = 8 ∨ k = 9 := by omega

set_option maxHeartbeats 1000000 in
theorem l1Odd (w0 : World) (B p : Nat) (a : Option Addr) (len cap : Nat) (w : World) (st : St w0 B p a len cap w) :
    Calls Tryz.prog 40 #[.pointer (some ⟨p, 0, none⟩)] w fun e w' => (∃ x : Int, e = .returned (.int .i64 x) ∧ -9223372036854775808 ≤ x ∧ x ≤ 9223372036854775807) ∧ St w0 B p a len cap w' := by
  go_enter Tryz.func40, Tryz.ntmps40
  go_wp2_with fail
  refine (l1Below _ B p a len cap 10 (by omega) (by omega) _ (st.alloc _ _).here).mono ?_
  rintro e w1 ⟨⟨x, rfl, x0, x1⟩, st1⟩
  obtain ⟨k, rfl⟩ := Int.eq_ofNat_of_zero_le x0
  have hc := lit_cell st st1.step k
  obtain ⟨v, hv, v0, v1⟩ : ∃ v : Int, w1.cell? ⟨w.heap.size, k, none⟩ = some (.int .i64 v) ∧ -9223372036854775808 ≤ v ∧ v ≤ 9223372036854775807 := by
    rw [hc]
    rcases in10 (k := k) (by omega) with rfl | rfl | rfl | rfl | rfl | rfl | rfl | rfl | rfl | rfl
    all_goals exact ⟨_, rfl, by decide, by decide⟩
  clear hc
  have st2 := St.on ((st.step.alloc _)) st1
  go_wp2
  go_ret
  exact ⟨⟨_, rfl, v0, v1⟩, st2⟩

end Go.Proofs.YtimakfokgcnklaaGreat.Dr
