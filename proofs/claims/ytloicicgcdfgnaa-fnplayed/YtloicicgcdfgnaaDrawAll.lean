/-
  The draws that the laws make out of their bytes: each returns, writes nothing that was there ahead of it, and its number lies where it should. · A new cursor, and the draws of the first chapter: each returns numbers that fit, and writes nothing that was there ahead of it. · A block of cells that can be read and written: what becomes of it behind a step, a call, a store. · Small draws with what they leave as it was; numbers drawn about a bound; when a drawn config is right. · The numbers that the laws roll out of their bytes: laws.roll and the methods below and around of its dice: each returns, writes nothing that was there ahead of it, and its number lies where it should. · A right config of 1 to 8 nodes, rolled, and who of them lies: laws.mesh: no more lie than may, and nothing is written that was there ahead of it but the dice. · Rows of numbers that the laws roll (laws.row): new memory, each number where it should lie.
-/
import Derived.Test.YtloicicgcdfgnaaRows
import Derived.WalkKit
import Derived.ProofKit
import Derived.OpenShut
import Derived.Below
import Derived.WalkSmall
import Derived.Deep.QuietTactic
import Derived.BigQuiet
import Derived.Laws.Bits64b
import Derived.Test.YtloicicgcdfgnaaCfg2
import Derived.RegionTactic
import Derived.ChangeAlike
import Derived.Deep.OwnRows
import Derived.Deep.CutRange
import Derived.Deep.DeepCutAuto
import Derived.Test.YtloicicgcdfgnaaUp
import Derived.Test.YtloicicgcdfgnaaBase
namespace Go.Proofs.Ytloicicgcdfgnaa.Dr
open Go.ChangeShapes Go.WideShapes Go.ChangeAt Go.RowKit
set_option linter.unusedVariables false

theorem and_i64 (v : Int) (m : Nat) (hm : m < 9223372036854775808) : 0 ≤ bits .and .i64 v (m : Int) ∧ bits .and .i64 v (m : Int) ≤ m := by
  have h2 : (BitVec.ofInt 64 (m : Int)).toNat = m := by
    rw [BitVec.ofInt_natCast, BitVec.toNat_ofNat]; exact Nat.mod_eq_of_lt (by omega)
  have e : bits .and .i64 v (m : Int) = IntKind.i64.wrap ((BitVec.ofInt 64 v &&& BitVec.ofInt 64 (m : Int)).toNat : Int) := rfl
  have l : (BitVec.ofInt 64 v &&& BitVec.ofInt 64 (m : Int)).toNat ≤ m := by
    rw [BitVec.toNat_and, h2]; exact Nat.and_le_right
  rw [e, IntKind.wrap_i64]
  omega

/-- The bytes can be read: they lie below block B. -/
def Code (w : World) (B : Nat) (a : Option Addr) (len : Nat) : Prop :=
  len ≤ 4096 ∧ (len = 0 ∨ ∃ b off, a = some ⟨b, off, none⟩ ∧ b < B ∧ ∀ k, k < len → ∃ z : Int, w.cell? ⟨b, off + k, none⟩ = some (.int .u8 z) ∧ 0 ≤ z ∧ z ≤ 255)

theorem Code.later {w w' : World} {B : Nat} {a : Option Addr} {len : Nat} (h : Code w B a len) (hb : Below B w w') : Code w' B a len := by
  obtain ⟨h1, h2⟩ := h
  refine ⟨h1, ?_⟩
  rcases h2 with h2 | ⟨b, off, e, hB, hc⟩
  · exact .inl h2
  · refine .inr ⟨b, off, e, hB, fun k hk => ?_⟩
    obtain ⟨z, hz, h0⟩ := hc k hk
    exact ⟨z, by rw [hb.cell (p := ⟨b, off + k, none⟩) hB]; exact hz, h0⟩

/-- A cursor at block p, over these bytes. -/
structure Cur (w : World) (B p : Nat) (a : Option Addr) (len cap : Nat) (i : Nat) (h : Int) : Prop where
  le : B ≤ p
  code : Code w B a len
  c0 : w.cell? ⟨p, 0, none⟩ = some (.slice a len cap)
  c1 : w.cell? ⟨p, 1, none⟩ = some (.int .i64 i)
  c2 : w.cell? ⟨p, 2, none⟩ = some (.int .i64 h)
  f1 : w.frozen? ⟨p, 1, none⟩ = false
  f2 : w.frozen? ⟨p, 2, none⟩ = false
  i_le : i ≤ len

def IsCur (w : World) (B p : Nat) (a : Option Addr) (len cap : Nat) : Prop := ∃ i h, Cur w B p a len cap i h

theorem Cur.set2 {w : World} {B p : Nat} {a : Option Addr} {len cap i : Nat} {h : Int} (c : Cur w B p a len cap i h) (v : Int) : Cur (w.setCell ⟨p, 2, none⟩ (.int .i64 v)) B p a len cap i v where
  le := c.le
  code := c.code.later ((Below.refl _ _).setCell c.le _)
  c0 := by rw [World.cell?_setCell_other _ _ _ _ (by simp)]; exact c.c0
  c1 := by rw [World.cell?_setCell_other _ _ _ _ (by simp)]; exact c.c1
  c2 := World.cell?_setCell_same _ _ _ c.c2
  f1 := by rw [World.frozen?_setCell]; exact c.f1
  f2 := by rw [World.frozen?_setCell]; exact c.f2
  i_le := c.i_le

theorem Cur.set1 {w : World} {B p : Nat} {a : Option Addr} {len cap i : Nat} {h : Int} (c : Cur w B p a len cap i h) (j : Nat) (v : Int) (hv : v = j) (hj : j ≤ len) : Cur (w.setCell ⟨p, 1, none⟩ (.int .i64 v)) B p a len cap j h where
  le := c.le
  code := c.code.later ((Below.refl _ _).setCell c.le _)
  c0 := by rw [World.cell?_setCell_other _ _ _ _ (by simp)]; exact c.c0
  c1 := by rw [← hv]; exact World.cell?_setCell_same _ _ _ c.c1
  c2 := by rw [World.cell?_setCell_other _ _ _ _ (by simp)]; exact c.c2
  f1 := by rw [World.frozen?_setCell]; exact c.f1
  f2 := by rw [World.frozen?_setCell]; exact c.f2
  i_le := hj

theorem Cur.drewN {w : World} {B p : Nat} {a : Option Addr} {len cap i : Nat} {h : Int} (c : Cur w B p a len cap i h) (n : Nat) : Cur (w.drewN n) B p a len cap i h :=
  ⟨c.le, c.code.later (below_drewN (Below.refl _ _) n), c.c0, c.c1, c.c2, c.f1, c.f2, c.i_le⟩

theorem Cur.alloc {w : World} {B p : Nat} {a : Option Addr} {len cap i : Nat} {h : Int} (c : Cur w B p a len cap i h) (cs : Array Value) (t : TypeId) : Cur (w.alloc (.cells cs t)) B p a len cap i h := by
  have hp : p < w.heap.size := World.block_lt_of_cell? _ _ c.c0
  have e : ∀ o, (w.alloc (.cells cs t)).cell? ⟨p, o, none⟩ = w.cell? ⟨p, o, none⟩ := fun o => World.cell?_alloc_lt _ _ _ hp
  exact ⟨c.le, c.code.later ((Below.refl _ _).alloc (by have := c.le; omega) _), by rw [e]; exact c.c0, by rw [e]; exact c.c1, by rw [e]; exact c.c2,
    by rw [frozen?_alloc_cells]; exact c.f1, by rw [frozen?_alloc_cells]; exact c.f2, c.i_le⟩

/-- From w to w' block p alone has turned, and blocks have been laid. -/
structure Step (p : Nat) (w w' : World) : Prop where
  os : w'.os = w.os
  tape : w'.tape = w.tape
  output : w'.output = w.output
  size : w.heap.size ≤ w'.heap.size
  block : ∀ k, k < w.heap.size → k ≠ p → w'.heap[k]? = w.heap[k]?

theorem Step.refl (p : Nat) (w : World) : Step p w w := ⟨rfl, rfl, rfl, Nat.le_refl _, fun _ _ _ => rfl⟩
theorem Step.trans {p : Nat} {a b c : World} (h : Step p a b) (k : Step p b c) : Step p a c :=
  ⟨k.os.trans h.os, k.tape.trans h.tape, k.output.trans h.output, Nat.le_trans h.size k.size, fun i hi hn => (k.block i (Nat.lt_of_lt_of_le hi h.size) hn).trans (h.block i hi hn)⟩
theorem Step.drewN {p : Nat} {a w : World} (h : Step p a w) (n : Nat) : Step p a (w.drewN n) := h.trans ⟨rfl, rfl, rfl, Nat.le_refl _, fun _ _ _ => rfl⟩
theorem Step.alloc {p : Nat} {a w : World} (h : Step p a w) (o : Obj) : Step p a (w.alloc o) :=
  h.trans ⟨rfl, rfl, rfl, by simp, fun k hk _ => Below.heap_alloc _ _ _ hk⟩
theorem Step.setCell {p : Nat} {a w : World} (h : Step p a w) (off : Nat) (u : Value) : Step p a (w.setCell ⟨p, off, none⟩ u) :=
  h.trans ⟨rfl, rfl, rfl, by simp [World.setCell], fun k _ hn => Below.heap_setCell _ _ _ _ hn⟩
theorem Step.below {p B : Nat} {w w' : World} (h : Step p w w') (hp : p < w.heap.size) (hB : B ≤ p) : Below B w w' :=
  ⟨h.os, h.tape, h.output, h.size, fun k hk => h.block k (by omega) (by omega)⟩
theorem Step.cell {p : Nat} {w w' : World} (h : Step p w w') {b o : Nat} (hb : b < w.heap.size) (hn : b ≠ p) : w'.cell? ⟨b, o, none⟩ = w.cell? ⟨b, o, none⟩ :=
  World.cell?_of_block (h.block b hb hn)

/-- A cursor, and what has turned since w0. -/
structure St (w0 : World) (B p : Nat) (a : Option Addr) (len cap : Nat) (w : World) : Prop where
  cur : IsCur w B p a len cap
  step : Step p w0 w

theorem St.lt {w0 : World} {B p : Nat} {a : Option Addr} {len cap : Nat} {w : World} (s : St w0 B p a len cap w) : p < w.heap.size := by
  obtain ⟨⟨i, h, c⟩, _⟩ := s
  exact World.block_lt_of_cell? _ _ c.c0
theorem St.alloc {w0 : World} {B p : Nat} {a : Option Addr} {len cap : Nat} {w : World} (s : St w0 B p a len cap w) (cs : Array Value) (t : TypeId) : St w0 B p a len cap (w.alloc (.cells cs t)) := by
  obtain ⟨⟨i, h, c⟩, k⟩ := s
  exact ⟨⟨i, h, c.alloc cs t⟩, k.alloc _⟩
theorem St.here {w0 : World} {B p : Nat} {a : Option Addr} {len cap : Nat} {w : World} (s : St w0 B p a len cap w) : St w B p a len cap w := ⟨s.cur, Step.refl _ _⟩
theorem St.on {w0 w1 : World} {B p : Nat} {a : Option Addr} {len cap : Nat} {w : World} (k : Step p w0 w1) (s : St w1 B p a len cap w) : St w0 B p a len cap w := ⟨s.cur, k.trans s.step⟩

set_option maxHeartbeats 1000000 in
theorem l1Byte (w0 : World) (B p : Nat) (a : Option Addr) (len cap : Nat) (w : World) (st : St w0 B p a len cap w) :
    Calls Try.prog 143 #[.pointer (some ⟨p, 0, none⟩)] w fun e w' => (∃ x : Int, e = .returned (.int .i64 x) ∧ 0 ≤ x ∧ x ≤ 255) ∧ St w0 B p a len cap w' := by
  obtain ⟨⟨i, h, cu⟩, sp⟩ := st
  have ⟨le, code, c0, c1, c2, f1, f2, i_le⟩ := cu
  have ⟨l4, cd⟩ := code
  by_cases hi : i < len
  · rcases cd with cd | ⟨b, off, rfl, hb, hz⟩
    · omega
    · obtain ⟨z, hz, z0, z1⟩ := hz i hi
      have hne : b ≠ p := by omega
      have hne' : p ≠ b := by omega
      have hi' : (i : Int) < len := by omega
      go_enter Try.func143, Try.ntmps143
      go_wp2
      go_quiet (fail)
      go_wp2
      go_quiet (fail)
      go_wp2
      go_quiet (fail)
      go_wp2
      go_ret
      exact ⟨⟨_, rfl, and_i64 _ 255 (by decide)⟩, ⟨i + 1, _, ((cu.set2 _).drewN _).set1 (i + 1) _ (by omega) (by omega)⟩, ((sp.setCell 2 _).drewN _).setCell 1 _⟩
  · have hi' : ¬ (i : Int) < len := by omega
    go_enter Try.func143, Try.ntmps143
    go_wp2
    go_quiet (fail)
    go_wp2
    go_quiet (fail)
    go_wp2
    go_ret
    exact ⟨⟨_, rfl, and_i64 _ 255 (by decide)⟩, ⟨_, _, ((cu.set2 _).drewN _).drewN _⟩, ((sp.setCell 2 _).drewN _).drewN _⟩

set_option maxHeartbeats 1000000 in
theorem l1Below (w0 : World) (B p : Nat) (a : Option Addr) (len cap : Nat) (n : Int) (hn : 0 < n) (hm : n ≤ 9223372036854775807) (w : World) (st : St w0 B p a len cap w) :
    Calls Try.prog 117 #[.pointer (some ⟨p, 0, none⟩), .int .i64 n] w fun e w' => (∃ x : Int, e = .returned (.int .i64 x) ∧ 0 ≤ x ∧ x < n) ∧ St w0 B p a len cap w' := by
  have hn0 : ¬ n ≤ 0 := by omega
  have hnz : n ≠ 0 := by omega
  by_cases h : n ≤ 256
  · go_enter Try.func117, Try.ntmps117
    go_wp2_with (go_at_call 143; refine (l1Byte w0 B p a len cap _ (by assumption)).mono ?_; rintro e w1 ⟨⟨x, rfl, x0, x1⟩, st1⟩)
    go_ret
    exact ⟨⟨_, rfl, Int.emod_nonneg _ hnz, Int.emod_lt_of_pos _ hn⟩, st1⟩
  · go_enter Try.func117, Try.ntmps117
    go_wp2_with (go_at_call 143; refine (l1Byte w0 B p a len cap _ (by assumption)).mono ?_; rintro e w1 ⟨⟨x, rfl, x0, x1⟩, st1⟩)
    go_ret
    exact ⟨⟨_, rfl, Int.emod_nonneg _ hnz, Int.emod_lt_of_pos _ hn⟩, by assumption⟩

set_option maxHeartbeats 1000000 in
theorem l1From (w0 : World) (B p : Nat) (a : Option Addr) (len cap : Nat) (lo hi : Int) (h1 : lo ≤ hi) (h2 : -4000000000 ≤ lo) (h3 : hi ≤ 4000000000) (w : World) (st : St w0 B p a len cap w) :
    Calls Try.prog 119 #[.pointer (some ⟨p, 0, none⟩), .int .i64 lo, .int .i64 hi] w fun e w' => (∃ x : Int, e = .returned (.int .i64 x) ∧ lo ≤ x ∧ x ≤ hi) ∧ St w0 B p a len cap w' := by
  go_enter Try.func119, Try.ntmps119
  go_wp2_with (go_at_call 117; refine (l1Below w0 B p a len cap _ (by omega) (by omega) _ (by assumption)).mono ?_; rintro e w1 ⟨⟨x, rfl, x0, x1⟩, st1⟩)
  go_ret
  exact ⟨⟨_, rfl, by omega, by omega⟩, st1⟩

set_option maxHeartbeats 1000000 in
theorem l1Once (w0 : World) (B p : Nat) (a : Option Addr) (len cap : Nat) (n : Int) (hn : 0 < n) (hm : n ≤ 9223372036854775807) (w : World) (st : St w0 B p a len cap w) :
    Calls Try.prog 77 #[.pointer (some ⟨p, 0, none⟩), .int .i64 n] w fun e w' => (∃ x : Bool, e = .returned (.bool x)) ∧ St w0 B p a len cap w' := by
  go_enter Try.func77, Try.ntmps77
  go_wp2_with (go_at_call 117; refine (l1Below w0 B p a len cap _ hn hm _ (by assumption)).mono ?_; rintro e w1 ⟨⟨x, rfl, x0, x1⟩, st1⟩)
  go_ret
  exact ⟨⟨_, rfl⟩, st1⟩

/-- A number of a literal list, read behind what has turned block p alone. -/
theorem lit_cell {w0 : World} {B p : Nat} {a : Option Addr} {len cap : Nat} {w w1 : World} {cs : Array Value} {t : TypeId} (st : St w0 B p a len cap w) (s1 : Step p (w.alloc (.cells cs t)) w1) (o : Nat) :
    w1.cell? ⟨w.heap.size, o, none⟩ = cs[o]? := by
  have h := st.lt
  rw [s1.cell (by simp) (by omega)]
  exact World.cell?_alloc_new _ _ _ _

theorem in10 {k : Nat} (h : k < 10) : k = 0 ∨ k = 1 ∨ k = 2 ∨ k = 3 ∨ k = 4 ∨ k = 5 ∨ k = 6 ∨ k = 7 ∨ k = 8 ∨ k = 9 := by omega

set_option maxHeartbeats 1000000 in
theorem l1Odd (w0 : World) (B p : Nat) (a : Option Addr) (len cap : Nat) (w : World) (st : St w0 B p a len cap w) :
    Calls Try.prog 120 #[.pointer (some ⟨p, 0, none⟩)] w fun e w' => (∃ x : Int, e = .returned (.int .i64 x) ∧ -9223372036854775808 ≤ x ∧ x ≤ 9223372036854775807) ∧ St w0 B p a len cap w' := by
  go_enter Try.func120, Try.ntmps120
  go_wp2_with fail
  refine (l1Below _ B p a len cap 10 (by omega) (by omega) _ (st.alloc _ _).here).mono ?_
  rintro e w1 ⟨⟨x, rfl, x0, x1⟩, st1⟩
  obtain ⟨k, rfl⟩ := Int.eq_ofNat_of_zero_le x0
  have hc := lit_cell st st1.step k
  obtain ⟨v, hv, v0, v1⟩ : ∃ v : Int, w1.cell? ⟨w.heap.size, k, none⟩ = some (.int .i64 v) ∧ -9223372036854775808 ≤ v ∧ v ≤ 9223372036854775807 := by
    rw [hc]
    rcases in10 (k := k) (by omega) with rfl | rfl | rfl | rfl | rfl | rfl | rfl | rfl | rfl | rfl
    all_goals exact ⟨_, rfl, by decide, by decide⟩
  clear hc
  have st2 := St.on ((st.step.alloc _)) st1
  go_wp2
  go_ret
  exact ⟨⟨_, rfl, v0, v1⟩, st2⟩

end Go.Proofs.Ytloicicgcdfgnaa.Dr

namespace Go.Proofs.Ytloicicgcdfgnaa.Dr
open Go.ChangeShapes Go.WideShapes Go.ChangeAt Go.RowKit
set_option linter.unusedVariables false

theorem Step.fresh {p : Nat} {w w' : World} (h : Step p w w') (hp : w.heap.size ≤ p) : Below w.heap.size w w' :=
  ⟨h.os, h.tape, h.output, h.size, fun k hk => h.block k hk (by omega)⟩

theorem new_cur (w : World) (B : Nat) (a : Option Addr) (len cap : Nat) (h : Int) (t : TypeId) (hB : B ≤ w.heap.size) (hc : Code w B a len) :
    St w B w.heap.size a len cap (w.alloc (.cells #[.slice a len cap, .int .i64 0, .int .i64 h] t)) := by
  refine ⟨⟨0, h, hB, hc.later ((Below.refl _ _).alloc hB _), by simp, by simp, by simp, ?_, ?_, by omega⟩, (Step.refl _ _).alloc _⟩
  all_goals (rw [frozen?_alloc_cells]; simp [World.frozen?])

set_option maxHeartbeats 1000000 in
theorem l1New (B : Nat) (a : Option Addr) (len cap : Nat) (w : World) (hB : B ≤ w.heap.size) (hc : Code w B a len) :
    Calls Try.prog 73 #[.slice a len cap] w fun e w' => e = .returned (.pointer (some ⟨w.heap.size, 0, none⟩)) ∧ St w B w.heap.size a len cap w' := by
  have ⟨l4, cd⟩ := hc
  go_enter Try.func73, Try.ntmps73
  go_wp2
  go_loop [3, 4] (fun h i => ∃ (k : Nat) (x : Int), k ≤ len ∧ i = .int .i64 k ∧ h = .int .i64 x ∧ 0 ≤ x ∧ x ≤ 1073741823) (fun _ i => len - (intOf i).toNat)
  case atStart => exact ⟨0, _, Nat.zero_le _, rfl, rfl, by omega, by omega⟩
  case round =>
    obtain ⟨k, x, hk, rfl, rfl, x0, x1⟩ := hrel
    by_cases hlt : k < len
    · rcases cd with cd | ⟨b, off, rfl, hb, hz⟩
      · omega
      · obtain ⟨z, hz, z0, z1⟩ := hz k hlt
        have hi : (k : Int) < len := by omega
        go_wp2
        go_round
        case rel => exact ⟨k + 1, _, by omega, by go_num, rfl, and_i64 _ 1073741823 (by decide)⟩
        case measure => simp [intOf]; omega
    · have hi : ¬ (k : Int) < len := by omega
      go_wp2
      go_ret
      exact ⟨rfl, new_cur w B a len cap _ _ hB hc⟩

end Go.Proofs.Ytloicicgcdfgnaa.Dr

namespace Go.Proofs.Ytloicicgcdfgnaa.Dr
open Go.ChangeShapes Go.WideShapes Go.ChangeAt Go.RowKit
set_option linter.unusedVariables false

/-- At block g, from its start on, lie these values, and can be written. -/
def Room (w : World) (g : Nat) (vs : List Value) : Prop := ∀ i v, vs[i]? = some v → w.cell? ⟨g, i, none⟩ = some v ∧ w.frozen? ⟨g, i, none⟩ = false

theorem Room.cell {w : World} {g : Nat} {vs : List Value} (h : Room w g vs) (i : Nat) {v : Value} (hv : vs[i]? = some v) : w.cell? ⟨g, i, none⟩ = some v := (h i v hv).1
theorem Room.froz {w : World} {g : Nat} {vs : List Value} (h : Room w g vs) (i : Nat) {v : Value} (hv : vs[i]? = some v) : w.frozen? ⟨g, i, none⟩ = false := (h i v hv).2
theorem Room.lt {w : World} {g : Nat} {vs : List Value} (h : Room w g vs) (hn : 0 < vs.length) : g < w.heap.size :=
  World.block_lt_of_cell? _ _ (h 0 _ (List.getElem?_eq_getElem hn)).1
theorem Room.block {w w1 : World} {g : Nat} {vs : List Value} (h : Room w g vs) (e : w1.heap[g]? = w.heap[g]?) : Room w1 g vs := fun i v hv => by
  obtain ⟨a, b⟩ := h i v hv
  exact ⟨by rw [World.cell?_of_block (a := ⟨g, i, none⟩) e]; exact a, by rw [World.frozen?_of_block (a := ⟨g, i, none⟩) e]; exact b⟩
theorem Room.step {p : Nat} {w w1 : World} {g : Nat} {vs : List Value} (h : Room w g vs) (s : Step p w w1) (hne : g ≠ p) : Room w1 g vs := by
  by_cases hn : 0 < vs.length
  · exact h.block (s.block g (h.lt hn) hne)
  · intro i v hv
    have : vs = [] := List.eq_nil_of_length_eq_zero (by omega)
    subst this; cases hv
theorem Room.below {w w1 : World} {g : Nat} {vs : List Value} (h : Room w g vs) (hb : Below w.heap.size w w1) : Room w1 g vs := by
  by_cases hn : 0 < vs.length
  · exact h.block (hb.block g (h.lt hn))
  · intro i v hv
    have : vs = [] := List.eq_nil_of_length_eq_zero (by omega)
    subst this; cases hv
theorem Room.set {w : World} {g : Nat} {vs : List Value} (h : Room w g vs) (i : Nat) (u : Value) : Room (w.setCell ⟨g, i, none⟩ u) g (vs.set i u) := fun j v hv => by
  by_cases e : i = j
  · subst e
    by_cases hi : i < vs.length
    · rw [List.getElem?_set_self hi] at hv
      cases hv
      have q := h i _ (List.getElem?_eq_getElem hi)
      exact ⟨World.cell?_setCell_same _ _ _ q.1, by rw [World.frozen?_setCell]; exact q.2⟩
    · rw [List.getElem?_eq_none (by simp; omega)] at hv; cases hv
  · rw [List.getElem?_set_ne e] at hv
    have q := h j v hv
    exact ⟨by rw [World.cell?_setCell_other _ _ _ _ (by simp <;> omega)]; exact q.1, by rw [World.frozen?_setCell]; exact q.2⟩
theorem Room.setOther {w : World} {g q : Nat} {vs : List Value} (h : Room w g vs) (hne : q ≠ g) (i : Nat) (u : Value) : Room (w.setCell ⟨q, i, none⟩ u) g vs := fun j v hv => by
  have k := h j v hv
  exact ⟨by rw [World.cell?_setCell_other _ _ _ _ (by simp <;> omega)]; exact k.1, by rw [World.frozen?_setCell]; exact k.2⟩
theorem Room.new (w : World) (vs : List Value) (t : TypeId) : Room (w.alloc (.cells vs.toArray t)) w.heap.size vs := fun i v hv =>
  ⟨by rw [World.cell?_alloc_new]; simpa using hv, by rw [frozen?_alloc_cells]; simp [World.frozen?]⟩
theorem Room.alloc {w : World} {g : Nat} {vs : List Value} (h : Room w g vs) (o : Obj) : Room (w.alloc o) g vs := by
  by_cases hn : 0 < vs.length
  · exact h.block (Below.heap_alloc _ _ _ (h.lt hn))
  · intro i v hv
    have : vs = [] := List.eq_nil_of_length_eq_zero (by omega)
    subst this; cases hv
theorem Room.drew {w : World} {g : Nat} {vs : List Value} (h : Room w g vs) : Room w.drew g vs := h
theorem Room.drewN {w : World} {g : Nat} {vs : List Value} (h : Room w g vs) (n : Nat) : Room (w.drewN n) g vs := h
/-- A whole struct of six stored. -/
theorem Room.six {w : World} {g : Nat} {a b c d e f : Value} (h : Room w g [a, b, c, d, e, f]) (x0 x1 x2 x3 x4 x5 : Value) :
    Room ((((((w.setCell ⟨g, 0, none⟩ x0).setCell ⟨g, 1, none⟩ x1).setCell ⟨g, 2, none⟩ x2).setCell ⟨g, 3, none⟩ x3).setCell ⟨g, 4, none⟩ x4).setCell ⟨g, 5, none⟩ x5) g [x0, x1, x2, x3, x4, x5] :=
  (((((h.set 0 x0).set 1 x1).set 2 x2).set 3 x3).set 4 x4).set 5 x5

theorem Step.of_below {p : Nat} {w w' : World} (h : Below w.heap.size w w') : Step p w w' := ⟨h.os, h.tape, h.output, h.size, fun k hk _ => h.block k hk⟩
theorem Step.drew {p : Nat} {a w : World} (h : Step p a w) : Step p a w.drew := h.trans ⟨rfl, rfl, rfl, Nat.le_refl _, fun _ _ _ => rfl⟩
theorem Step.setNew {p : Nat} {w0 w : World} (h : Step p w0 w) {q : Nat} (o : Nat) (hq : w0.heap.size ≤ q) (v : Value) : Step p w0 (w.setCell ⟨q, o, none⟩ v) :=
  ⟨h.os, h.tape, h.output, by simpa [World.setCell] using h.size, fun j hj hn => by
    rw [Below.heap_setCell _ _ _ _ (by simp; omega)]; exact h.block j hj hn⟩

/-- A cursor behind whatever has left its block, and all below, as they were. -/
theorem Cur.block {w w1 : World} {B p : Nat} {a : Option Addr} {len cap i : Nat} {h : Int} (c : Cur w B p a len cap i h) (hb : Below B w w1) (e : w1.heap[p]? = w.heap[p]?) : Cur w1 B p a len cap i h :=
  ⟨c.le, c.code.later hb, by rw [World.cell?_of_block (a := ⟨p, 0, none⟩) e]; exact c.c0, by rw [World.cell?_of_block (a := ⟨p, 1, none⟩) e]; exact c.c1, by rw [World.cell?_of_block (a := ⟨p, 2, none⟩) e]; exact c.c2,
    by rw [World.frozen?_of_block (a := ⟨p, 1, none⟩) e]; exact c.f1, by rw [World.frozen?_of_block (a := ⟨p, 2, none⟩) e]; exact c.f2, c.i_le⟩
theorem St.le {w0 : World} {B p : Nat} {a : Option Addr} {len cap : Nat} {w : World} (s : St w0 B p a len cap w) : B ≤ p := by
  obtain ⟨⟨i, h, c⟩, _⟩ := s
  exact c.le
theorem St.below {w0 : World} {B p : Nat} {a : Option Addr} {len cap : Nat} {w w1 : World} (s : St w0 B p a len cap w) (hb : Below w.heap.size w w1) : St w0 B p a len cap w1 := by
  have hl := s.lt
  obtain ⟨⟨i, h, c⟩, k⟩ := s
  exact ⟨⟨i, h, c.block (hb.mono (by have := c.le; omega)) (hb.block p hl)⟩, k.trans (Step.of_below hb)⟩
theorem St.drew' {w0 : World} {B p : Nat} {a : Option Addr} {len cap : Nat} {w : World} (s : St w0 B p a len cap w) : St w0 B p a len cap w.drew := s.below (Below.refl _ _).drew
theorem St.setNew {w0 : World} {B p : Nat} {a : Option Addr} {len cap : Nat} {w : World} (s : St w0 B p a len cap w) {q : Nat} (o : Nat) (hq : w0.heap.size ≤ q) (hp : q ≠ p) (hB : B ≤ q) (v : Value) : St w0 B p a len cap (w.setCell ⟨q, o, none⟩ v) := by
  obtain ⟨⟨i, h, c⟩, k⟩ := s
  exact ⟨⟨i, h, c.block ((Below.refl _ _).setCell hB _) (Below.heap_setCell _ _ _ _ (by simp; omega))⟩, k.setNew o hq v⟩
theorem St.obj {w0 : World} {B p : Nat} {a : Option Addr} {len cap : Nat} {w : World} (s : St w0 B p a len cap w) (o : Obj) : St w0 B p a len cap (w.alloc o) := s.below ((Below.refl _ _).alloc (Nat.le_refl _) _)
theorem St.six {w0 : World} {B p : Nat} {a : Option Addr} {len cap : Nat} {w : World} (s : St w0 B p a len cap w) {g : Nat} (hq : w0.heap.size ≤ g) (hp : g ≠ p) (hB : B ≤ g) (x0 x1 x2 x3 x4 x5 : Value) :
    St w0 B p a len cap ((((((w.setCell ⟨g, 0, none⟩ x0).setCell ⟨g, 1, none⟩ x1).setCell ⟨g, 2, none⟩ x2).setCell ⟨g, 3, none⟩ x3).setCell ⟨g, 4, none⟩ x4).setCell ⟨g, 5, none⟩ x5) :=
  (((((s.setNew 0 hq hp hB x0).setNew 1 hq hp hB x1).setNew 2 hq hp hB x2).setNew 3 hq hp hB x3).setNew 4 hq hp hB x4).setNew 5 hq hp hB x5

end Go.Proofs.Ytloicicgcdfgnaa.Dr

namespace Go.Proofs.Ytloicicgcdfgnaa.Dr
open Go.ChangeShapes Go.WideShapes Go.ChangeAt Go.RowKit
open Cf (cfg CP CR AM N1 L1 R1 P1)
set_option linter.unusedVariables false
set_option linter.unusedSimpArgs false

theorem l1Below' (w0 : World) (B p : Nat) (a : Option Addr) (len cap : Nat) (n : Int) (hn : 0 < n) (hm : n ≤ 9223372036854775807) (w : World) (st : St w0 B p a len cap w) :
    Calls Try.prog 117 #[.pointer (some ⟨p, 0, none⟩), .int .i64 n] w fun e w' => (∃ x : Int, e = .returned (.int .i64 x) ∧ 0 ≤ x ∧ x < n) ∧ St w0 B p a len cap w' ∧ Step p w w' :=
  (l1Below w B p a len cap n hn hm w st.here).mono fun e w' ⟨h, s⟩ => ⟨h, St.on st.step s, s.step⟩
theorem l1Once' (w0 : World) (B p : Nat) (a : Option Addr) (len cap : Nat) (n : Int) (hn : 0 < n) (hm : n ≤ 9223372036854775807) (w : World) (st : St w0 B p a len cap w) :
    Calls Try.prog 77 #[.pointer (some ⟨p, 0, none⟩), .int .i64 n] w fun e w' => (∃ x : Bool, e = .returned (.bool x)) ∧ St w0 B p a len cap w' ∧ Step p w w' :=
  (l1Once w B p a len cap n hn hm w st.here).mono fun e w' ⟨h, s⟩ => ⟨h, St.on st.step s, s.step⟩
theorem l1Odd' (w0 : World) (B p : Nat) (a : Option Addr) (len cap : Nat) (w : World) (st : St w0 B p a len cap w) :
    Calls Try.prog 120 #[.pointer (some ⟨p, 0, none⟩)] w fun e w' => (∃ x : Int, e = .returned (.int .i64 x) ∧ -9223372036854775808 ≤ x ∧ x ≤ 9223372036854775807) ∧ St w0 B p a len cap w' ∧ Step p w w' :=
  (l1Odd w B p a len cap w st.here).mono fun e w' ⟨h, s⟩ => ⟨h, St.on st.step s, s.step⟩

set_option maxHeartbeats 2000000 in
theorem l1Num (w0 : World) (B p : Nat) (a : Option Addr) (len cap : Nat) (m : Int) (m0 : 0 ≤ m) (m1 : m ≤ 1000000000) (w : World) (st : St w0 B p a len cap w) :
    Calls Try.prog 121 #[.pointer (some ⟨p, 0, none⟩), .int .i64 m] w fun e w' => (∃ x : Int, e = .returned (.int .i64 x)) ∧ St w0 B p a len cap w' := by
  go_enter Try.func121, Try.ntmps121
  go_wp2_with fail
  refine (l1Once w0 B p a len cap 10 (by omega) (by omega) _ st).mono ?_
  rintro e w1 ⟨⟨t, rfl⟩, st1⟩
  cases t with
  | true =>
    go_wp2_with fail
    refine (l1Odd w0 B p a len cap _ st1).mono ?_
    rintro e w2 ⟨⟨y, rfl, y0, y1⟩, st2⟩
    go_wp2_with fail
    refine (l1Below _ B p a len cap 4 (by omega) (by omega) _ (st2.alloc _ _).here).mono ?_
    rintro e w3 ⟨⟨x, rfl, x0, x1⟩, st3⟩
    obtain ⟨k, rfl⟩ := Int.eq_ofNat_of_zero_le x0
    have hc := lit_cell st2 st3.step k
    obtain ⟨v, hv⟩ : ∃ v : Int, w3.cell? ⟨w2.heap.size, k, none⟩ = some (.int .i64 v) := by
      rw [hc]
      rcases (show k = 0 ∨ k = 1 ∨ k = 2 ∨ k = 3 by omega) with rfl | rfl | rfl | rfl
      all_goals exact ⟨_, rfl⟩
    clear hc
    have st4 := St.on ((st2.step.alloc _)) st3
    go_wp2
    go_ret
    exact ⟨⟨_, rfl⟩, st4⟩
  | false =>
    go_wp2_with fail
    refine (l1Once w0 B p a len cap 2 (by omega) (by omega) _ st1).mono ?_
    rintro e w2 ⟨⟨t, rfl⟩, st2⟩
    cases t with
    | true =>
      have hm0 : 0 ≤ min m 4 := by omega
      have hm1 : min m 4 ≤ 4 := by omega
      go_wp2_with fail
      refine (Sp.l1Min m 4 _).mono ?_
      rintro e w3 ⟨rfl, rfl⟩
      generalize min m 4 = q at hm0 hm1 ⊢
      go_wp2_with fail
      refine (l1Below w0 B p a len cap _ (by omega) (by omega) _ st2).mono ?_
      rintro e w4 ⟨⟨x, rfl, x0, x1⟩, st4⟩
      go_wp2
      go_ret
      exact ⟨⟨_, rfl⟩, st4⟩
    | false =>
      go_wp2_with fail
      refine (l1Below w0 B p a len cap _ (by omega) (by omega) _ st2).mono ?_
      rintro e w4 ⟨⟨x, rfl, x0, x1⟩, st4⟩
      go_wp2
      go_ret
      exact ⟨⟨_, rfl⟩, st4⟩

theorem l1Num' (w0 : World) (B p : Nat) (a : Option Addr) (len cap : Nat) (m : Int) (m0 : 0 ≤ m) (m1 : m ≤ 1000000000) (w : World) (st : St w0 B p a len cap w) :
    Calls Try.prog 121 #[.pointer (some ⟨p, 0, none⟩), .int .i64 m] w fun e w' => (∃ x : Int, e = .returned (.int .i64 x)) ∧ St w0 B p a len cap w' ∧ Step p w w' :=
  (l1Num w B p a len cap m m0 m1 w st.here).mono fun e w' ⟨h, s⟩ => ⟨h, St.on st.step s, s.step⟩

abbrev zeros : List Value := [.int .i64 0, .int .i64 0, .int .i64 0, .int .i64 0, .int .i64 0, .int .i64 0]
abbrev nums (n l d r p s : Int) : List Value := [.int .i64 n, .int .i64 l, .int .i64 d, .int .i64 r, .int .i64 p, .int .i64 s]
theorem right {n l d r p s y : Int} (n1 : 1 ≤ n) (n2 : n ≤ 16) (l1 : 0 ≤ l) (l2 : 3 * l + 1 ≤ n) (d1 : 0 ≤ d) (d2 : d ≤ 1000000) (r1 : 0 ≤ r) (r2 : r ≤ 1000000) (s1 : 2 ≤ s) (s2 : s ≤ 100000) (y0 : 0 ≤ y) (y1 : y < 100) (hp : p = (4 * d + 5 * r + 2) * s + y) : CP n l d r p s = 0 := by
  subst hp
  refine Cf.cp_zero.2 ⟨Cf.cr_zero.2 ⟨Cf.n1_iff.2 ⟨n1, n2⟩, Cf.l1_iff.2 ⟨l1, l2⟩, Cf.r1_iff.2 ⟨⟨d1, d2⟩, ⟨r1, r2⟩, s1, s2⟩⟩, ?_⟩
  have q := Cf.prod (g := 4 * d + 5 * r + 2) (s := s) (by omega) (by omega) s1 s2
  have q2 : 1 ≤ (4 * d + 5 * r + 2) * s := by
    have : 2 * s ≤ (4 * d + 5 * r + 2) * s := Int.mul_le_mul_of_nonneg_right (by omega) (by omega)
    omega
  unfold P1
  rw [Cf.pe_iff.2 ⟨by omega, by omega⟩, Bool.true_and]
  exact decide_eq_true (by omega)

end Go.Proofs.Ytloicicgcdfgnaa.Dr

namespace Go.Proofs.Ytloicicgcdfgnaa.Di
open Go.ChangeShapes Go.WideShapes Go.ChangeAt Go.RowKit
set_option linter.unusedVariables false

theorem and_u64 (v : Int) (m : Nat) (hm : m < 9223372036854775808) : 0 ≤ bits .and .u64 v (m : Int) ∧ bits .and .u64 v (m : Int) ≤ m := by
  have h2 : (BitVec.ofInt 64 (m : Int)).toNat = m := by
    rw [BitVec.ofInt_natCast, BitVec.toNat_ofNat]; exact Nat.mod_eq_of_lt (by omega)
  have e : bits .and .u64 v (m : Int) = IntKind.u64.wrap ((BitVec.ofInt 64 v &&& BitVec.ofInt 64 (m : Int)).toNat : Int) := rfl
  have l : (BitVec.ofInt 64 v &&& BitVec.ofInt 64 (m : Int)).toNat ≤ m := by
    rw [BitVec.toNat_and, h2]; exact Nat.and_le_right
  rw [e, IntKind.wrap_u64]
  omega

/-- Dice at block p, over these bytes. -/
structure Cur (w : World) (B p : Nat) (a : Option Addr) (len cap : Nat) (i : Nat) (h : Int) : Prop where
  le : B ≤ p
  code : Dr.Code w B a len
  c0 : w.cell? ⟨p, 0, none⟩ = some (.slice a len cap)
  c1 : w.cell? ⟨p, 1, none⟩ = some (.int .i64 i)
  c2 : w.cell? ⟨p, 2, none⟩ = some (.int .u64 h)
  f1 : w.frozen? ⟨p, 1, none⟩ = false
  f2 : w.frozen? ⟨p, 2, none⟩ = false
  i_le : i ≤ len

def IsCur (w : World) (B p : Nat) (a : Option Addr) (len cap : Nat) : Prop := ∃ i h, Cur w B p a len cap i h

theorem Cur.set2 {w : World} {B p : Nat} {a : Option Addr} {len cap i : Nat} {h : Int} (c : Cur w B p a len cap i h) (v : Int) : Cur (w.setCell ⟨p, 2, none⟩ (.int .u64 v)) B p a len cap i v where
  le := c.le
  code := c.code.later ((Below.refl _ _).setCell c.le _)
  c0 := by rw [World.cell?_setCell_other _ _ _ _ (by simp)]; exact c.c0
  c1 := by rw [World.cell?_setCell_other _ _ _ _ (by simp)]; exact c.c1
  c2 := World.cell?_setCell_same _ _ _ c.c2
  f1 := by rw [World.frozen?_setCell]; exact c.f1
  f2 := by rw [World.frozen?_setCell]; exact c.f2
  i_le := c.i_le

theorem Cur.set1 {w : World} {B p : Nat} {a : Option Addr} {len cap i : Nat} {h : Int} (c : Cur w B p a len cap i h) (j : Nat) (v : Int) (hv : v = j) (hj : j ≤ len) : Cur (w.setCell ⟨p, 1, none⟩ (.int .i64 v)) B p a len cap j h where
  le := c.le
  code := c.code.later ((Below.refl _ _).setCell c.le _)
  c0 := by rw [World.cell?_setCell_other _ _ _ _ (by simp)]; exact c.c0
  c1 := by rw [← hv]; exact World.cell?_setCell_same _ _ _ c.c1
  c2 := by rw [World.cell?_setCell_other _ _ _ _ (by simp)]; exact c.c2
  f1 := by rw [World.frozen?_setCell]; exact c.f1
  f2 := by rw [World.frozen?_setCell]; exact c.f2
  i_le := hj

theorem Cur.drewN {w : World} {B p : Nat} {a : Option Addr} {len cap i : Nat} {h : Int} (c : Cur w B p a len cap i h) (n : Nat) : Cur (w.drewN n) B p a len cap i h :=
  ⟨c.le, c.code.later (below_drewN (Below.refl _ _) n), c.c0, c.c1, c.c2, c.f1, c.f2, c.i_le⟩

/-- Dice, and what has turned since w0. -/
structure St (w0 : World) (B p : Nat) (a : Option Addr) (len cap : Nat) (w : World) : Prop where
  cur : IsCur w B p a len cap
  step : Dr.Step p w0 w

theorem new_cur (w : World) (B : Nat) (a : Option Addr) (len cap : Nat) (h : Int) (t : TypeId) (hB : B ≤ w.heap.size) (hc : Dr.Code w B a len) :
    St w B w.heap.size a len cap (w.alloc (.cells #[.slice a len cap, .int .i64 0, .int .u64 h] t)) := by
  refine ⟨⟨0, h, hB, hc.later ((Below.refl _ _).alloc hB _), by simp, by simp, by simp, ?_, ?_, by omega⟩, (Dr.Step.refl _ _).alloc _⟩
  all_goals (rw [frozen?_alloc_cells]; simp [World.frozen?])

set_option maxHeartbeats 1000000 in
theorem roll (B : Nat) (a : Option Addr) (len cap : Nat) (s : Int) (w : World) (hB : B ≤ w.heap.size) (hc : Dr.Code w B a len) :
    Calls Try.prog 13 #[.slice a len cap, .int .u64 s] w fun e w' => e = .returned (.pointer (some ⟨w.heap.size, 0, none⟩)) ∧ St w B w.heap.size a len cap w' := by
  have ⟨l4, cd⟩ := hc
  go_enter Try.func13, Try.ntmps13
  go_wp2
  go_loopw [6] (fun i wr => ∃ k : Nat, k ≤ len ∧ i = .int .i64 k ∧ St w B w.heap.size a len cap wr) (fun i _ => len - (intOf i).toNat)
  case atStart => exact ⟨0, Nat.zero_le _, rfl, new_cur w B a len cap _ _ hB hc⟩
  case round =>
    obtain ⟨k, hk, rfl, ⟨i, h, cu⟩, sp⟩ := hrel
    have ⟨le, code, c0, c1, c2, f1, f2, i_le⟩ := cu
    by_cases hlt : k < len
    · rcases code.2 with cd | ⟨b, off, rfl, hb, hz⟩
      · omega
      · obtain ⟨z, hz, z0, z1⟩ := hz k hlt
        have hi : (k : Int) < len := by omega
        have hne : b ≠ w.heap.size := by omega
        have hne' : w.heap.size ≠ b := by omega
        go_wp2
        go_region
        all_goals
          go_wp2
          exact ⟨⟨k + 1, by omega, by go_num, ⟨i, _, (cu.set2 _).drewN 1⟩, (sp.setCell 2 _).drewN 1⟩, by simp [intOf]; omega⟩
    · have hi : ¬ (k : Int) < len := by omega
      go_wp2
      go_ret
      exact ⟨rfl, ⟨i, h, cu⟩, sp⟩

set_option maxHeartbeats 1000000 in
theorem below (w0 : World) (B p : Nat) (a : Option Addr) (len cap : Nat) (n : Int) (hn : 0 < n) (hm : n ≤ 9223372036854775807) (w : World) (st : St w0 B p a len cap w) :
    Calls Try.prog 22 #[.pointer (some ⟨p, 0, none⟩), .int .i64 n] w fun e w' => (∃ x : Int, e = .returned (.int .i64 x) ∧ 0 ≤ x ∧ x < n) ∧ St w0 B p a len cap w' := by
  have hnz : n ≠ 0 := by omega
  obtain ⟨⟨i, h, cu⟩, sp⟩ := st
  have ⟨le, code, c0, c1, c2, f1, f2, i_le⟩ := cu
  have ⟨l4, cd⟩ := code
  obtain ⟨v, hv⟩ : ∃ v, IntKind.u64.wrap (IntKind.u64.wrap (h * 6364136223846793005) + 1442695040888963407) = v := ⟨_, rfl⟩
  have m0 : 0 ≤ bits .and .u64 (v / 8589934592) 16777215 := (and_u64 (v / 8589934592) 16777215 (by decide)).1
  have m1 : bits .and .u64 (v / 8589934592) 16777215 ≤ 16777215 := (and_u64 (v / 8589934592) 16777215 (by decide)).2
  by_cases hi : i < len
  · rcases cd with cd | ⟨b, off, rfl, hb, hz⟩
    · omega
    · obtain ⟨z, hz, z0, z1⟩ := hz i hi
      have hne : b ≠ p := by omega
      have hne' : p ≠ b := by omega
      have hi' : (i : Int) < len := by omega
      go_enter Try.func22, Try.ntmps22
      go_wp2
      go_quiet (fail)
      go_wp2
      go_quiet (fail)
      go_wp2
      go_ret
      exact ⟨⟨_, rfl, Int.emod_nonneg _ hnz, Int.emod_lt_of_pos _ hn⟩, ⟨i + 1, _, ((cu.set2 _).drewN _).set1 (i + 1) _ (by omega) (by omega)⟩, ((sp.setCell 2 _).drewN _).setCell 1 _⟩
  · have hi' : ¬ (i : Int) < len := by omega
    go_enter Try.func22, Try.ntmps22
    go_wp2
    go_quiet (fail)
    go_wp2
    go_ret
    exact ⟨⟨_, rfl, Int.emod_nonneg _ hnz, Int.emod_lt_of_pos _ hn⟩, ⟨_, _, (cu.set2 _).drewN _⟩, (sp.setCell 2 _).drewN _⟩

set_option maxHeartbeats 1000000 in
theorem around (w0 : World) (B p : Nat) (a : Option Addr) (len cap : Nat) (n : Int) (hn : 0 ≤ n) (hm : n ≤ 4000000000) (w : World) (st : St w0 B p a len cap w) :
    Calls Try.prog 53 #[.pointer (some ⟨p, 0, none⟩), .int .i64 n] w fun e w' => (∃ x : Int, e = .returned (.int .i64 x) ∧ -n ≤ x ∧ x ≤ n) ∧ St w0 B p a len cap w' := by
  go_enter Try.func53, Try.ntmps53
  go_wp2_with fail
  refine (below w0 B p a len cap _ (by omega) (by omega) _ st).mono ?_
  rintro e w1 ⟨⟨x, rfl, x0, x1⟩, st1⟩
  go_wp2
  go_ret
  exact ⟨⟨_, rfl, by omega, by omega⟩, st1⟩

end Go.Proofs.Ytloicicgcdfgnaa.Di

namespace Go.Proofs.Ytloicicgcdfgnaa.Di
open Go.ChangeShapes Go.WideShapes Go.ChangeAt Go.RowKit
open Cf (cfg)
open Dr (Room zeros nums Step)
set_option linter.unusedVariables false
set_option linter.unusedSimpArgs false

theorem St.lt {w0 : World} {B p : Nat} {a : Option Addr} {len cap : Nat} {w : World} (s : St w0 B p a len cap w) : p < w.heap.size := by
  obtain ⟨⟨i, h, c⟩, _⟩ := s
  exact World.block_lt_of_cell? _ _ c.c0
theorem St.here {w0 : World} {B p : Nat} {a : Option Addr} {len cap : Nat} {w : World} (s : St w0 B p a len cap w) : St w B p a len cap w := ⟨s.cur, Dr.Step.refl _ _⟩
theorem St.on {w0 w1 : World} {B p : Nat} {a : Option Addr} {len cap : Nat} {w : World} (k : Dr.Step p w0 w1) (s : St w1 B p a len cap w) : St w0 B p a len cap w := ⟨s.cur, k.trans s.step⟩
/-- Dice behind whatever has left its block, and all below, as they were. -/
theorem Cur.block {w w1 : World} {B p : Nat} {a : Option Addr} {len cap i : Nat} {h : Int} (c : Cur w B p a len cap i h) (hb : Below B w w1) (e : w1.heap[p]? = w.heap[p]?) : Cur w1 B p a len cap i h :=
  ⟨c.le, c.code.later hb, by rw [World.cell?_of_block (a := ⟨p, 0, none⟩) e]; exact c.c0, by rw [World.cell?_of_block (a := ⟨p, 1, none⟩) e]; exact c.c1, by rw [World.cell?_of_block (a := ⟨p, 2, none⟩) e]; exact c.c2,
    by rw [World.frozen?_of_block (a := ⟨p, 1, none⟩) e]; exact c.f1, by rw [World.frozen?_of_block (a := ⟨p, 2, none⟩) e]; exact c.f2, c.i_le⟩
theorem St.le {w0 : World} {B p : Nat} {a : Option Addr} {len cap : Nat} {w : World} (s : St w0 B p a len cap w) : B ≤ p := by
  obtain ⟨⟨i, h, c⟩, _⟩ := s
  exact c.le
theorem St.below {w0 : World} {B p : Nat} {a : Option Addr} {len cap : Nat} {w w1 : World} (s : St w0 B p a len cap w) (hb : Below w.heap.size w w1) : St w0 B p a len cap w1 := by
  have hl := s.lt
  obtain ⟨⟨i, h, c⟩, k⟩ := s
  exact ⟨⟨i, h, c.block (hb.mono (by have := c.le; omega)) (hb.block p hl)⟩, k.trans (Dr.Step.of_below hb)⟩
theorem St.drew' {w0 : World} {B p : Nat} {a : Option Addr} {len cap : Nat} {w : World} (s : St w0 B p a len cap w) : St w0 B p a len cap w.drew := s.below (Below.refl _ _).drew
theorem St.setNew {w0 : World} {B p : Nat} {a : Option Addr} {len cap : Nat} {w : World} (s : St w0 B p a len cap w) {q : Nat} (o : Nat) (hq : w0.heap.size ≤ q) (hp : q ≠ p) (hB : B ≤ q) (v : Value) : St w0 B p a len cap (w.setCell ⟨q, o, none⟩ v) := by
  obtain ⟨⟨i, h, c⟩, k⟩ := s
  exact ⟨⟨i, h, c.block ((Below.refl _ _).setCell hB _) (Below.heap_setCell _ _ _ _ (by simp; omega))⟩, k.setNew o hq v⟩
theorem St.obj {w0 : World} {B p : Nat} {a : Option Addr} {len cap : Nat} {w : World} (s : St w0 B p a len cap w) (o : Obj) : St w0 B p a len cap (w.alloc o) := s.below ((Below.refl _ _).alloc (Nat.le_refl _) _)
theorem St.six {w0 : World} {B p : Nat} {a : Option Addr} {len cap : Nat} {w : World} (s : St w0 B p a len cap w) {g : Nat} (hq : w0.heap.size ≤ g) (hp : g ≠ p) (hB : B ≤ g) (x0 x1 x2 x3 x4 x5 : Value) :
    St w0 B p a len cap ((((((w.setCell ⟨g, 0, none⟩ x0).setCell ⟨g, 1, none⟩ x1).setCell ⟨g, 2, none⟩ x2).setCell ⟨g, 3, none⟩ x3).setCell ⟨g, 4, none⟩ x4).setCell ⟨g, 5, none⟩ x5) :=
  (((((s.setNew 0 hq hp hB x0).setNew 1 hq hp hB x1).setNew 2 hq hp hB x2).setNew 3 hq hp hB x3).setNew 4 hq hp hB x4).setNew 5 hq hp hB x5

theorem made (w : World) (z : Value) (n : Nat) (t : TypeId) : Room (w.alloc (.cells (madeCells #[z] n) t)) w.heap.size (List.replicate n z) := by
  have e : madeCells #[z] n = (List.replicate n z).toArray := by rw [← toList_madeCells_one, Array.toArray_toList]
  rw [e]
  exact Room.new w _ t

theorem below' (w0 : World) (B p : Nat) (a : Option Addr) (len cap : Nat) (n : Int) (hn : 0 < n) (hm : n ≤ 9223372036854775807) (w : World) (st : St w0 B p a len cap w) :
    Calls Try.prog 22 #[.pointer (some ⟨p, 0, none⟩), .int .i64 n] w fun e w' => (∃ x : Int, e = .returned (.int .i64 x) ∧ 0 ≤ x ∧ x < n) ∧ St w0 B p a len cap w' ∧ Dr.Step p w w' :=
  (below w B p a len cap n hn hm w st.here).mono fun e w' ⟨h, s⟩ => ⟨h, St.on st.step s, s.step⟩

theorem count_set (bs : List Bool) (i : Nat) : (bs.set i true).count true ≤ bs.count true + 1 := by
  induction bs generalizing i with
  | nil => simp
  | cons b bs ih =>
    cases i with
    | zero => cases b <;> simp
    | succ i => simp only [List.set_cons_succ, List.count_cons]; have := ih i; omega

theorem info_bool : (Try.prog.info? 4).map (fun i => (i.zero, i.size, i.bytes)) = some (some (.bool false), 1, 1) := by kernel_rfl

/-- What mesh keeps: the dice, its config, its result's cells, and those that lie. -/
structure Ms (w0 : World) (B p : Nat) (a : Option Addr) (len cap : Nat) (w : World) (X R G : Nat) (n l d r q s : Int) (bs : List Bool) (wr : World) : Prop where
  st : St w0 B p a len cap wr
  x : Room wr X (nums n l d r q s)
  z : Room wr R zeros
  b : Room wr G (bs.map .bool)
  s : Dr.Step p w wr
theorem Ms.step {w0 : World} {B p : Nat} {a : Option Addr} {len cap : Nat} {w : World} {X R G : Nat} {n l d r q s : Int} {bs : List Bool} {wr w1 : World} (m : Ms w0 B p a len cap w X R G n l d r q s bs wr) (st : St w0 B p a len cap w1) (k : Dr.Step p wr w1) (hX : X ≠ p) (hR : R ≠ p) (hG : G ≠ p) : Ms w0 B p a len cap w X R G n l d r q s bs w1 :=
  ⟨st, m.x.step k hX, m.z.step k hR, m.b.step k hG, m.s.trans k⟩
theorem Ms.store {w0 : World} {B p : Nat} {a : Option Addr} {len cap : Nat} {w : World} {X R G : Nat} {n l d r q s : Int} {bs : List Bool} {wr : World} (m : Ms w0 B p a len cap w X R G n l d r q s bs wr) (i : Nat) (h0 : w0.heap.size ≤ G) (hp : G ≠ p) (hB : B ≤ G) (hX : G ≠ X) (hR : G ≠ R) (hw : w.heap.size ≤ G) : Ms w0 B p a len cap w X R G n l d r q s (bs.set i true) (wr.setCell ⟨G, i, none⟩ (.bool true)) :=
  ⟨m.st.setNew i h0 hp hB _, m.x.setOther hX i _, m.z.setOther hR i _, by rw [List.map_set]; exact m.b.set i _, m.s.setNew i hw _⟩

set_option maxHeartbeats 8000000 in
theorem mesh (w0 : World) (B p : Nat) (a : Option Addr) (len cap : Nat) (w : World) (st : St w0 B p a len cap w) :
    Calls Try.prog 52 #[.pointer (some ⟨p, 0, none⟩)] w fun e w' =>
      (∃ (f d r s : Int) (N g : Nat), e = .returned (.tuple #[cfg N f d r 1000000 s, .slice (some ⟨g, 0, none⟩) N N]) ∧ ∃ bs : List Bool,
        (bs.length = N ∧ (bs.count true : Int) ≤ f ∧ Room w' g (bs.map .bool) ∧ w.heap.size ≤ g) ∧ (0 ≤ f ∧ f ≤ 2) ∧ (3 * f + 1 ≤ N ∧ N ≤ 3 * f + 2) ∧ (0 ≤ d ∧ d ≤ 11) ∧ (0 ≤ r ∧ r ≤ 11) ∧ 2 ≤ s ∧ s ≤ 10) ∧
      St w0 B p a len cap w' ∧ Dr.Step p w w' := by
  have hp := st.lt
  have hB := st.le
  have h0 := st.step.size
  have stA := st.obj (.cells zeros.toArray 28)
  have hR0 := Room.new w zeros 28
  go_enter Try.func52, Try.ntmps52
  go_wp2_with fail
  refine (below' w0 B p a len cap 3 (by omega) (by omega) _ stA).mono ?_
  rintro e w1 ⟨⟨f, rfl, f0, f1⟩, st1, s1⟩
  have z1 := s1.size
  (try simp at z1)
  have hR1 := hR0.step s1 (by omega)
  go_wp2_with fail
  refine (below' w0 B p a len cap 2 (by omega) (by omega) _ st1).mono ?_
  rintro e w2 ⟨⟨x, rfl, x0, x1⟩, st2, s2⟩
  have z2 := s2.size
  (try simp at z2)
  have hR2 := hR1.step s2 (by omega)
  go_wp2_with fail
  refine (below' w0 B p a len cap 12 (by omega) (by omega) _ st2).mono ?_
  rintro e w3 ⟨⟨d, rfl, d0, d1⟩, st3, s3⟩
  have z3 := s3.size
  (try simp at z3)
  have hR3 := hR2.step s3 (by omega)
  go_wp2_with fail
  refine (below' w0 B p a len cap 12 (by omega) (by omega) _ st3).mono ?_
  rintro e w4 ⟨⟨r, rfl, r0, r1⟩, st4, s4⟩
  have z4 := s4.size
  (try simp at z4)
  have hR4 := hR3.step s4 (by omega)
  go_wp2_with fail
  refine (below' w0 B p a len cap 9 (by omega) (by omega) _ st4).mono ?_
  rintro e w5 ⟨⟨v, rfl, v0, v1⟩, st5, s5⟩
  have z5 := s5.size
  (try simp at z5)
  have hR5 := hR4.step s5 (by omega)
  have S5 : Dr.Step p w w5 := ((Dr.Step.refl p w).alloc (.cells zeros.toArray 28)).trans (s1.trans (s2.trans (s3.trans (s4.trans s5))))
  have hx5 := st5.lt
  obtain ⟨N, hN⟩ := Int.eq_ofNat_of_zero_le (a := 3 * f + 1 + x) (by omega)
  obtain ⟨V, hV⟩ : ∃ V, 2 + v = V := ⟨_, rfl⟩
  have M6 : Ms w0 B p a len cap w w5.heap.size w.heap.size (w5.heap.size + 1) N f d r 1000000 V (List.replicate N false) ((w5.alloc (.cells (nums N f d r 1000000 V).toArray 28)).alloc (.cells (madeCells #[.bool false] N) 4)) := by
    refine ⟨(st5.obj _).obj _, (Room.new w5 (nums N f d r 1000000 V) 28).alloc _, (hR5.alloc _).alloc _, ?_, (S5.alloc _).alloc _⟩
    have k := made (w5.alloc (.cells (nums N f d r 1000000 V).toArray 28)) (.bool false) N 4
    rw [List.map_replicate]
    simpa using k
  have hmk := run_make_row' (P := Try.prog) 35 4 (.bool false) 1 Try.underlying35 info_bool rfl .i64 .i64 N (by omega) (by omega)
  have stM := M6.st
  clear st1 st2 st3 st4 stA hR1 hR2 hR3 hR4 hR5 hR0 s1 s2 s3 s4 s5 S5 st5
  go_wp2_with fail
  refine (below' w0 B p a len cap (f + 1) (by omega) (by omega) _ stM).mono ?_
  rintro e w6 ⟨⟨k, rfl, k0, k1⟩, st6, s6⟩
  have z6 := s6.size
  (try simp at z6)
  have M7 := M6.step st6 s6 (by omega) (by omega) (by omega)
  have HN : Hid (3 * f + 1 + x = (N : Int) ∧ 2 + v = V) := ⟨hN, hV⟩
  clear M6 stM s6 st6 hmk hN hV
  obtain ⟨k, rfl⟩ := Int.eq_ofNat_of_zero_le k0
  go_wp2
  go_loopw [7] (fun q wr => ∃ (j : Nat) (bs : List Bool), q = .int .i64 j ∧ w6.heap.size ≤ wr.heap.size ∧ Hid (bs.length = N ∧ bs.count true + j ≤ k ∧ Ms w0 B p a len cap w w5.heap.size w.heap.size (w5.heap.size + 1) N f d r 1000000 V bs wr)) (fun q _ => (intOf q).toNat)
  case atStart => exact ⟨k, List.replicate N false, rfl, Nat.le_refl _, by simp, by simp [List.count_replicate], M7⟩
  case round =>
    obtain ⟨j, bs, rfl, hz, H⟩ := hrel
    obtain ⟨hb1, hb2, m⟩ := H.out
    clear H
    have x0' := m.x.cell 0 rfl
    by_cases hj : 0 < j
    · have hj' : (0 : Int) < j := by omega
      have hN := HN.out.1
      have hN1 : 0 < N := by omega
      have hN2 : N ≤ 8 := by omega
      clear hN
      go_wp2_with fail
      refine (below' w0 B p a len cap N (by omega) (by omega) _ m.st).mono ?_
      rintro e w8 ⟨⟨y, rfl, y0, y1⟩, st8, s8⟩
      have m8 := m.step st8 s8 (by omega) (by omega) (by omega)
      obtain ⟨i, rfl⟩ := Int.eq_ofNat_of_zero_le y0
      have hi : i < bs.length := by omega
      have hi2 : (bs.map Value.bool)[i]? = some (.bool bs[i]) := by rw [List.getElem?_map, List.getElem?_eq_getElem hi]; rfl
      have c8 := m8.b.cell i hi2
      have f8 := m8.b.froz i hi2
      have z8 := s8.size
      have m9 := m8.store i (by omega) (by omega) (by omega) (by omega) (by omega) (by omega)
      have q9 := count_set bs i
      clear m m8 st8 s8 hi2 x0'
      go_wp2_with fail
      go_roundw
      case rel => exact ⟨j - 1, bs.set i true, by go_num, by simp [World.setCell]; omega, by simpa using hb1, by omega, m9⟩
      case measure => simp [intOf]; omega
    · have hj0 : j = 0 := by omega
      subst hj0
      have y1 := m.x.cell 1 rfl
      have y2 := m.x.cell 2 rfl
      have y3 := m.x.cell 3 rfl
      have y4 := m.x.cell 4 rfl
      have y5 := m.x.cell 5 rfl
      have r0d := m.z.cell 0 rfl
      have r1d := m.z.cell 1 rfl
      have r2d := m.z.cell 2 rfl
      have r3d := m.z.cell 3 rfl
      have r4d := m.z.cell 4 rfl
      have r5d := m.z.cell 5 rfl
      have f0d := m.z.froz 0 rfl
      have f1d := m.z.froz 1 rfl
      have f2d := m.z.froz 2 rfl
      have f3d := m.z.froz 3 rfl
      have f4d := m.z.froz 4 rfl
      have f5d := m.z.froz 5 rfl
      go_wp2_with fail
      have F6 := m.z.six (.int .i64 N) (.int .i64 f) (.int .i64 d) (.int .i64 r) (.int .i64 1000000) (.int .i64 V)
      have hh := HN.out
      refine bodyPost_ret (v := .tuple #[cfg N f d r 1000000 V, .slice (some ⟨w5.heap.size + 1, 0, none⟩) N N]) (by simp [results, Try.results52, go_sem, F6.cell 0 rfl, F6.cell 1 rfl, F6.cell 2 rfl, F6.cell 3 rfl, F6.cell 4 rfl, F6.cell 5 rfl]) rfl ⟨⟨f, d, r, V, N, w5.heap.size + 1, rfl, bs, ⟨hb1, by omega, ?_, by omega⟩, by omega, by omega, by omega, by omega, by omega⟩, m.st.six (by omega) (by omega) (by omega) _ _ _ _ _ _, ?_⟩
      · exact (((((m.b.setOther (by omega) 0 _).setOther (by omega) 1 _).setOther (by omega) 2 _).setOther (by omega) 3 _).setOther (by omega) 4 _).setOther (by omega) 5 _
      · exact (((((m.s.setNew 0 (by omega) _).setNew 1 (by omega) _).setNew 2 (by omega) _).setNew 3 (by omega) _).setNew 4 (by omega) _).setNew 5 (by omega) _

end Go.Proofs.Ytloicicgcdfgnaa.Di

namespace Go.Proofs.Ytloicicgcdfgnaa.Rw
open Go.ChangeShapes Go.WideShapes Go.ChangeAt Go.RowKit
open Ls (el Row)
open Ow (Own Has ints)
set_option linter.unusedVariables false

theorem own_step {w w' : World} {p B g n c : Nat} {zs : List Int} (h : Own w B g n c zs) (s : Dr.Step p w w') (hne : g ≠ p) : Own w' B g n c zs := by
  obtain ⟨h1, h2⟩ := h
  refine ⟨h1, ?_⟩
  rcases h2 with h2 | ⟨g', cap', cur, e, hB, hb', rest⟩
  · exact .inl h2
  · cases e
    exact .inr ⟨g, c, cur, rfl, hB, by rw [s.block g (Array.getElem?_eq_some_iff.1 hb').1 hne]; exact hb', rest⟩

theorem step_grown {p g : Nat} {w0 w w' : World} (k : Dr.Step p w0 w) (hg : w.grownBy w' (some g)) (h0 : w0.heap.size ≤ g) : Dr.Step p w0 w' :=
  ⟨hg.os.trans k.os, hg.tape.trans k.tape, hg.output.trans k.output, Nat.le_trans k.size hg.size, fun j hj hn => by
    rw [hg.block j (Nat.lt_of_lt_of_le hj k.size) (by simp; omega)]; exact k.block j hj hn⟩

theorem di_grown {w0 w w' : World} {B p g : Nat} {a : Option Addr} {len cap : Nat} (s : Di.St w0 B p a len cap w) (hg : w.grownBy w' (some g)) (hp : g ≠ p) (hB : B ≤ g) (h0 : w0.heap.size ≤ g) : Di.St w0 B p a len cap w' := by
  obtain ⟨⟨i, h, c⟩, k⟩ := s
  have hpl : p < w.heap.size := World.block_lt_of_cell? _ _ c.c0
  have e : w'.heap[p]? = w.heap[p]? := hg.block p hpl (by simp; omega)
  have ec : ∀ o, w'.cell? ⟨p, o, none⟩ = w.cell? ⟨p, o, none⟩ := fun o => World.cell?_of_block (a := ⟨p, o, none⟩) e
  have ef : ∀ o, w'.frozen? ⟨p, o, none⟩ = w.frozen? ⟨p, o, none⟩ := fun o => World.frozen?_of_block (a := ⟨p, o, none⟩) e
  exact ⟨⟨i, h, c.le, c.code.later ((Below.refl _ _).grown hg (by have := c.le; omega) (by intro j hj; cases hj; exact hB)), by rw [ec]; exact c.c0, by rw [ec]; exact c.c1, by rw [ec]; exact c.c2, by rw [ef]; exact c.f1, by rw [ef]; exact c.f2, c.i_le⟩, step_grown k hg h0⟩

theorem dr_grown {w0 w w' : World} {B p g : Nat} {a : Option Addr} {len cap : Nat} (s : Dr.St w0 B p a len cap w) (hg : w.grownBy w' (some g)) (hp : g ≠ p) (hB : B ≤ g) (h0 : w0.heap.size ≤ g) : Dr.St w0 B p a len cap w' := by
  obtain ⟨⟨i, h, c⟩, k⟩ := s
  have hpl : p < w.heap.size := World.block_lt_of_cell? _ _ c.c0
  have e : w'.heap[p]? = w.heap[p]? := hg.block p hpl (by simp; omega)
  have ec : ∀ o, w'.cell? ⟨p, o, none⟩ = w.cell? ⟨p, o, none⟩ := fun o => World.cell?_of_block (a := ⟨p, o, none⟩) e
  have ef : ∀ o, w'.frozen? ⟨p, o, none⟩ = w.frozen? ⟨p, o, none⟩ := fun o => World.frozen?_of_block (a := ⟨p, o, none⟩) e
  exact ⟨⟨i, h, c.le, c.code.later ((Below.refl _ _).grown hg (by have := c.le; omega) (by intro j hj; cases hj; exact hB)), by rw [ec]; exact c.c0, by rw [ec]; exact c.c1, by rw [ec]; exact c.c2, by rw [ef]; exact c.f1, by rw [ef]; exact c.f2, c.i_le⟩, step_grown k hg h0⟩

theorem di_lt {w0 : World} {B p : Nat} {a : Option Addr} {len cap : Nat} {w : World} (s : Di.St w0 B p a len cap w) : p < w.heap.size := by
  obtain ⟨⟨i, h, c⟩, _⟩ := s
  exact World.block_lt_of_cell? _ _ c.c0
theorem di_le {w0 : World} {B p : Nat} {a : Option Addr} {len cap : Nat} {w : World} (s : Di.St w0 B p a len cap w) : B ≤ p := by
  obtain ⟨⟨i, h, c⟩, _⟩ := s
  exact c.le
theorem dr_le {w0 : World} {B p : Nat} {a : Option Addr} {len cap : Nat} {w : World} (s : Dr.St w0 B p a len cap w) : B ≤ p := by
  obtain ⟨⟨i, h, c⟩, _⟩ := s
  exact c.le
theorem di_alloc {w0 : World} {B p : Nat} {a : Option Addr} {len cap : Nat} {w : World} (s : Di.St w0 B p a len cap w) (o : Obj) (h0 : w0.heap.size ≤ w.heap.size) : Di.St w0 B p a len cap (w.alloc o) :=
  di_grown (g := w.heap.size) s (World.grownBy_alloc w o _) (by have := di_lt s; omega) (by have := di_lt s; have := di_le s; omega) h0
theorem dr_alloc {w0 : World} {B p : Nat} {a : Option Addr} {len cap : Nat} {w : World} (s : Dr.St w0 B p a len cap w) (o : Obj) (h0 : w0.heap.size ≤ w.heap.size) : Dr.St w0 B p a len cap (w.alloc o) :=
  dr_grown (g := w.heap.size) s (World.grownBy_alloc w o _) (by have := s.lt; omega) (by have := s.lt; have := dr_le s; omega) h0

/-- One more behind a row. -/
theorem more {w1 w2 : World} {B g k c : Nat} {zs : List Int} {x : Int} {v2 : Value} (h : w2.ownsRow B 2 1 v2 (k + 1) (ints zs ++ ints [x])) (hn : v2 ≠ .slice none 0 0) :
    ∃ g2 c2, v2 = .slice (some ⟨g2, 0, none⟩) (k + 1) c2 ∧ Own w2 B g2 (k + 1) c2 (zs ++ [x]) := Ow.own_of h (by simp [ints]) hn

set_option maxHeartbeats 1000000 in
theorem row (B p : Nat) (a : Option Addr) (len cap N : Nat) (most : Int) (hm0 : 0 ≤ most) (hm1 : most ≤ 4000000000) (hN : N ≤ 1000) (w0 w : World) (st : Di.St w0 B p a len cap w) (h00 : w0.heap.size ≤ w.heap.size) :
    Calls Try.prog 55 #[.pointer (some ⟨p, 0, none⟩), .int .i64 N, .int .i64 most] w fun e w' => (∃ g c, e = .returned (.slice (some ⟨g, 0, none⟩) N c) ∧ ∃ zs, Own w' w.heap.size g N c zs ∧ ∀ x ∈ zs, -most ≤ x ∧ x ≤ most) ∧ Di.St w0 B p a len cap w' ∧ Dr.Step p w w' := by
  obtain ⟨i0, hi, hz0, hz1, hz2⟩ := info_parts Ls.info
  have hpl := di_lt st
  have hle := di_le st
  have hstp := st.step
  go_enter Try.func55, Try.ntmps55
  go_wp2
  go_loopw [1, 7] (fun q v wr => ∃ (k g c : Nat) (zs : List Int), k ≤ N ∧ q = .int .i64 ((N : Int) - (k : Int)) ∧ v = .slice (some ⟨g, 0, none⟩) k c ∧ Own wr w.heap.size g k c zs ∧ Hid (∀ x ∈ zs, -most ≤ x ∧ x ≤ most) ∧ Di.St w B p a len cap wr) (fun q _ _ => (intOf q).toNat)
  case atStart => exact ⟨0, _, _, [], Nat.zero_le _, by simp, rfl, World.ownsRow_made w #[] 0 (Nat.le_refl _) (by unfold maxLen; omega) rfl, (fun x hx => by cases hx), di_alloc ⟨st.cur, Dr.Step.refl _ _⟩ _ (Nat.le_refl _)⟩
  case round =>
    obtain ⟨k, g, c, zs, hk, rfl, rfl, ho, HB, sr⟩ := hrel
    have hgB := ho.data.2.1
    have hzl := ho.data.1
    by_cases hlt : k < N
    · have hi' : (0 : Int) < (N : Int) - (k : Int) := by omega
      go_wp2_with fail
      refine (Di.around wr B p a len cap most hm0 hm1 wr ⟨sr.cur, Dr.Step.refl _ _⟩).mono ?_
      rintro e w1 ⟨⟨x, rfl, x0, x1⟩, s1⟩
      have ho1 := own_step ho s1.step (by omega)
      have sr1 : Di.St w B p a len cap w1 := ⟨s1.cur, sr.step.trans s1.step⟩
      have sz1 : w.heap.size ≤ w1.heap.size := sr1.step.size
      have HO1 : Hid (Own w1 w.heap.size g k c zs) := ho1
      clear ho ho1 s1 sr
      go_wp2_with (at_builtin; refine wpList_append_own _ rfl (.tmp 13) (.tmp 17) 29 rfl w.heap.size 2 i0 (.int .i64 0) 1 8 Try.underlying29 hi hz0 hz1 hz2 rfl (by decide) _ _ _ rfl (World.ownsRow.alloc (w := w1) HO1.out _) ⟨w1.heap.size, 0, none⟩ 1 1 (ints [x]) rfl rfl (Ow.one_new w1 x _ _ rfl) (Ow.one _) (by unfold maxLen; omega) (by omega) (by simp; omega) ?_; intro v2 w2 hx2 hg2 hn2)
      obtain ⟨g2, c2, rfl, ho2⟩ := more (w1 := w1) (g := g) (c := c) hx2 (Ow.no_nil hn2 rfl)
      have sr2 : Di.St w B p a len cap w2 := di_grown (g := g) (di_alloc sr1 _ sz1) hg2 (by omega) (by omega) hgB
      clear hx2 hg2 hn2 sr1 HO1
      go_wp2_with fail
      go_roundw
      case rel => exact ⟨k + 1, g2, c2, zs ++ [x], by omega, by go_num, rfl, ho2, (fun y hy => by rcases List.mem_append.1 hy with hy | hy; exact HB.out y hy; rw [List.mem_singleton] at hy; subst hy; exact ⟨x0, x1⟩), sr2⟩
      case measure => simp [intOf]; omega
    · have hi' : ¬ (0 : Int) < (N : Int) - (k : Int) := by omega
      have e : k = N := by omega
      subst e
      go_wp2
      go_ret
      exact ⟨⟨g, c, rfl, zs, ho, HB.out⟩, ⟨sr.cur, hstp.trans sr.step⟩, sr.step⟩

theorem row' (B p : Nat) (a : Option Addr) (len cap N : Nat) (v most : Int) (hv : v = N) (hm0 : 0 ≤ most) (hm1 : most ≤ 4000000000) (hN : N ≤ 1000) (w0 w : World) (st : Di.St w0 B p a len cap w) (h00 : w0.heap.size ≤ w.heap.size) :
    Calls Try.prog 55 #[.pointer (some ⟨p, 0, none⟩), .int .i64 v, .int .i64 most] w fun e w' => (∃ g c, e = .returned (.slice (some ⟨g, 0, none⟩) N c) ∧ ∃ zs, Own w' w.heap.size g N c zs ∧ ∀ x ∈ zs, -most ≤ x ∧ x ≤ most) ∧ Di.St w0 B p a len cap w' ∧ Dr.Step p w w' := by
  subst hv
  exact row B p a len cap N most hm0 hm1 hN w0 w st h00

end Go.Proofs.Ytloicicgcdfgnaa.Rw
