/-
  A right config of 1 to 8 nodes, rolled, and who of them lies: laws.mesh: no more lie than may, and nothing is written that was there ahead of it but the dice.
-/
import Derived.Test.YteijagcpohiejaaDice
import Derived.Test.YteijagcpohiejaaDrawNum
import Derived.Deep.OwnRows
import Derived.Deep.CutRange
import Derived.Deep.DeepCutAuto
namespace Go.Proofs.Yteijagcpohiejaa.Di
open Go.ChangeShapes Go.WideShapes Go.ChangeAt Go.RowKit
open Cf (cfg)
open Dr (Room zeros nums Step)
set_option linter.unusedVariables false
set_option linter.unusedSimpArgs false

theorem St.lt {w0 : World} {B p : Nat} {a : Option Addr} {len cap : Nat} {w : World} (s : St w0 B p a len cap w) : p < w.heap.size := by
  obtain ⟨⟨i, h, c⟩, _⟩ := s
  exact World.block_lt_of_cell? _ _ c.c0
theorem St.here {w0 : World} {B p : Nat} {a : Option Addr} {len cap : Nat} {w : World} (s : St w0 B p a len cap w) : St w B p a len cap w := ⟨s.cur, Dr.Step.refl _ _⟩
theorem St.on {w0 w1 : World} {B p : Nat} {a : Option Addr} {len cap : Nat} {w : World} (k : Dr.Step p w0 w1) (s : St w1 B p a len cap w) : St w0 B p a len cap w := ⟨s.cur, k.trans s.step⟩
/-- Dice behind whatever has left its block, and all below, as they were. -/
theorem Cur.block {w w1 : World} {B p : Nat} {a : Option Addr} {len cap i : Nat} {h : Int} (c : Cur w B p a len cap i h) (hb : Below B w w1) (e : w1.heap[p]? = w.heap[p]?) : Cur w1 B p a len cap i h :=
  ⟨c.le, c.code.later hb, by rw [World.cell?_of_block (a := ⟨p, 0, none⟩) e]; exact c.c0, by rw [World.cell?_of_block (a := ⟨p, 1, none⟩) e]; exact c.c1, by rw [World.cell?_of_block (a := ⟨p, 2, none⟩) e]; exact c.c2,
    by rw [World.frozen?_of_block (a := ⟨p, 1, none⟩) e]; exact c.f1, by rw [World.frozen?_of_block (a := ⟨p, 2, none⟩) e]; exact c.f2, c.i_le⟩
theorem St.le {w0 : World} {B p : Nat} {a : Option Addr} {len cap : Nat} {w : World} (s : St w0 B p a len cap w) : B ≤ p := by
  obtain ⟨⟨i, h, c⟩, _⟩ := s
  exact c.le
theorem St.below {w0 : World} {B p : Nat} {a : Option Addr} {len cap : Nat} {w w1 : World} (s : St w0 B p a len cap w) (hb : Below w.heap.size w w1) : St w0 B p a len cap w1 := by
  have hl := s.lt
  obtain ⟨⟨i, h, c⟩, k⟩ := s
  exact ⟨⟨i, h, c.block (hb.mono (by have := c.le; omega)) (hb.block p hl)⟩, k.trans (Dr.Step.of_below hb)⟩
theorem St.drew' {w0 : World} {B p : Nat} {a : Option Addr} {len cap : Nat} {w : World} (s : St w0 B p a len cap w) : St w0 B p a len cap w.drew := s.below (Below.refl _ _).drew
theorem St.setNew {w0 : World} {B p : Nat} {a : Option Addr} {len cap : Nat} {w : World} (s : St w0 B p a len cap w) {q : Nat} (o : Nat) (hq : w0.heap.size ≤ q) (hp : q ≠ p) (hB : B ≤ q) (v : Value) : St w0 B p a len cap (w.setCell ⟨q, o, none⟩ v) := by
  obtain ⟨⟨i, h, c⟩, k⟩ := s
  exact ⟨⟨i, h, c.block ((Below.refl _ _).setCell hB _) (Below.heap_setCell _ _ _ _ (by simp; omega))⟩, k.setNew o hq v⟩
theorem St.obj {w0 : World} {B p : Nat} {a : Option Addr} {len cap : Nat} {w : World} (s : St w0 B p a len cap w) (o : Obj) : St w0 B p a len cap (w.alloc o) := s.below ((Below.refl _ _).alloc (Nat.le_refl _) _)
theorem St.six {w0 : World} {B p : Nat} {a : Option Addr} {len cap : Nat} {w : World} (s : St w0 B p a len cap w) {g : Nat} (hq : w0.heap.size ≤ g) (hp : g ≠ p) (hB : B ≤ g) (x0 x1 x2 x3 x4 x5 : Value) :
    St w0 B p a len cap ((((((w.setCell ⟨g, 0, none⟩ x0).setCell ⟨g, 1, none⟩ x1).setCell ⟨g, 2, none⟩ x2).setCell ⟨g, 3, none⟩ x3).setCell ⟨g, 4, none⟩ x4).setCell ⟨g, 5, none⟩ x5) :=
  (((((s.setNew 0 hq hp hB x0).setNew 1 hq hp hB x1).setNew 2 hq hp hB x2).setNew 3 hq hp hB x3).setNew 4 hq hp hB x4).setNew 5 hq hp hB x5

theorem made (w : World) (z : Value) (n : Nat) (t : TypeId) : Room (w.alloc (.cells (madeCells #[z] n) t)) w.heap.size (List.replicate n z) := by
  have e : madeCells #[z] n = (List.replicate n z).toArray := by rw [← toList_madeCells_one, Array.toArray_toList]
  rw [e]
  exact Room.new w _ t

theorem below' (w0 : World) (B p : Nat) (a : Option Addr) (len cap : Nat) (n : Int) (hn : 0 < n) (hm : n ≤ 9223372036854775807) (w : World) (st : St w0 B p a len cap w) :
    Calls Try.prog 37 #[.pointer (some ⟨p, 0, none⟩), .int .i64 n] w fun e w' => (∃ x : Int, e = .returned (.int .i64 x) ∧ 0 ≤ x ∧ x < n) ∧ St w0 B p a len cap w' ∧ Dr.Step p w w' :=
  (below w B p a len cap n hn hm w st.here).mono fun e w' ⟨h, s⟩ => ⟨h, St.on st.step s, s.step⟩

theorem count_set (bs : List Bool) (i : Nat) : (bs.set i true).count true ≤ bs.count true + 1 := by
  induction bs generalizing i with
  | nil => simp
  | cons b bs ih =>
    cases i with
    | zero => cases b <;> simp
    | succ i => simp only [List.set_cons_succ, List.count_cons]; have := ih i; omega

theorem info_bool : (Try.prog.info? 4).map (fun i => (i.zero, i.size, i.bytes)) = some (some (.bool false), 1, 1) := by kernel_rfl

/-- What mesh keeps: the dice, its config, its result's cells, and those that lie. -/
structure Ms (w0 : World) (B p : Nat) (a : Option Addr) (len cap : Nat) (w : World) (X R G : Nat) (n l d r q s : Int) (bs : List Bool) (wr : World) : Prop where
  st : St w0 B p a len cap wr
  x : Room wr X (nums n l d r q s)
  z : Room wr R zeros
  b : Room wr G (bs.map .bool)
  s : Dr.Step p w wr
theorem Ms.step {w0 : World} {B p : Nat} {a : Option Addr} {len cap : Nat} {w : World} {X R G : Nat} {n l d r q s : Int} {bs : List Bool} {wr w1 : World} (m : Ms w0 B p a len cap w X R G n l d r q s bs wr) (st : St w0 B p a len cap w1) (k : Dr.Step p wr w1) (hX : X ≠ p) (hR : R ≠ p) (hG : G ≠ p) : Ms w0 B p a len cap w X R G n l d r q s bs w1 :=
  ⟨st, m.x.step k hX, m.z.step k hR, m.b.step k hG, m.s.trans k⟩
theorem Ms.store {w0 : World} {B p : Nat} {a : Option Addr} {len cap : Nat} {w : World} {X R G : Nat} {n l d r q s : Int} {bs : List Bool} {wr : World} (m : Ms w0 B p a len cap w X R G n l d r q s bs wr) (i : Nat) (h0 : w0.heap.size ≤ G) (hp : G ≠ p) (hB : B ≤ G) (hX : G ≠ X) (hR : G ≠ R) (hw : w.heap.size ≤ G) : Ms w0 B p a len cap w X R G n l d r q s (bs.set i true) (wr.setCell ⟨G, i, none⟩ (.bool true)) :=
  ⟨m.st.setNew i h0 hp hB _, m.x.setOther hX i _, m.z.setOther hR i _, by rw [List.map_set]; exact m.b.set i _, m.s.setNew i hw _⟩

set_option maxHeartbeats 8000000 in
theorem mesh (w0 : World) (B p : Nat) (a : Option Addr) (len cap : Nat) (w : World) (st : St w0 B p a len cap w) :
    Calls Try.prog 22 #[.pointer (some ⟨p, 0, none⟩)] w fun e w' =>
      (∃ (f d r s : Int) (N g : Nat), e = .returned (.tuple #[cfg N f d r 1000000 s, .slice (some ⟨g, 0, none⟩) N N]) ∧ ∃ bs : List Bool,
        (bs.length = N ∧ (bs.count true : Int) ≤ f ∧ Room w' g (bs.map .bool) ∧ w.heap.size ≤ g) ∧ (0 ≤ f ∧ f ≤ 2) ∧ (3 * f + 1 ≤ N ∧ N ≤ 3 * f + 2) ∧ (0 ≤ d ∧ d ≤ 11) ∧ (0 ≤ r ∧ r ≤ 11) ∧ 2 ≤ s ∧ s ≤ 10) ∧
      St w0 B p a len cap w' ∧ Dr.Step p w w' := by
  have hp := st.lt
  have hB := st.le
  have h0 := st.step.size
  have stA := st.obj (.cells zeros.toArray 25)
  have hR0 := Room.new w zeros 25
  go_enter Try.func22, Try.ntmps22
  go_wp2_with fail
  refine (below' w0 B p a len cap 3 (by omega) (by omega) _ stA).mono ?_
  rintro e w1 ⟨⟨f, rfl, f0, f1⟩, st1, s1⟩
  have z1 := s1.size
  (try simp at z1)
  have hR1 := hR0.step s1 (by omega)
  go_wp2_with fail
  refine (below' w0 B p a len cap 2 (by omega) (by omega) _ st1).mono ?_
  rintro e w2 ⟨⟨x, rfl, x0, x1⟩, st2, s2⟩
  have z2 := s2.size
  (try simp at z2)
  have hR2 := hR1.step s2 (by omega)
  go_wp2_with fail
  refine (below' w0 B p a len cap 12 (by omega) (by omega) _ st2).mono ?_
  rintro e w3 ⟨⟨d, rfl, d0, d1⟩, st3, s3⟩
  have z3 := s3.size
  (try simp at z3)
  have hR3 := hR2.step s3 (by omega)
  go_wp2_with fail
  refine (below' w0 B p a len cap 12 (by omega) (by omega) _ st3).mono ?_
  rintro e w4 ⟨⟨r, rfl, r0, r1⟩, st4, s4⟩
  have z4 := s4.size
  (try simp at z4)
  have hR4 := hR3.step s4 (by omega)
  go_wp2_with fail
  refine (below' w0 B p a len cap 9 (by omega) (by omega) _ st4).mono ?_
  rintro e w5 ⟨⟨v, rfl, v0, v1⟩, st5, s5⟩
  have z5 := s5.size
  (try simp at z5)
  have hR5 := hR4.step s5 (by omega)
  have S5 : Dr.Step p w w5 := ((Dr.Step.refl p w).alloc (.cells zeros.toArray 25)).trans (s1.trans (s2.trans (s3.trans (s4.trans s5))))
  have hx5 := st5.lt
  obtain ⟨N, hN⟩ := Int.eq_ofNat_of_zero_le (a := 3 * f + 1 + x) (by omega)
  obtain ⟨V, hV⟩ : ∃ V, 2 + v = V := ⟨_, rfl⟩
  have M6 : Ms w0 B p a len cap w w5.heap.size w.heap.size (w5.heap.size + 1) N f d r 1000000 V (List.replicate N false) ((w5.alloc (.cells (nums N f d r 1000000 V).toArray 25)).alloc (.cells (madeCells #[.bool false] N) 4)) := by
    refine ⟨(st5.obj _).obj _, (Room.new w5 (nums N f d r 1000000 V) 25).alloc _, (hR5.alloc _).alloc _, ?_, (S5.alloc _).alloc _⟩
    have k := made (w5.alloc (.cells (nums N f d r 1000000 V).toArray 25)) (.bool false) N 4
    rw [List.map_replicate]
    simpa using k
  have hmk := run_make_row' (P := Try.prog) 29 4 (.bool false) 1 Try.underlying29 info_bool rfl .i64 .i64 N (by omega) (by omega)
  have stM := M6.st
  clear st1 st2 st3 st4 stA hR1 hR2 hR3 hR4 hR5 hR0 s1 s2 s3 s4 s5 S5 st5
  go_wp2_with fail
  refine (below' w0 B p a len cap (f + 1) (by omega) (by omega) _ stM).mono ?_
  rintro e w6 ⟨⟨k, rfl, k0, k1⟩, st6, s6⟩
  have z6 := s6.size
  (try simp at z6)
  have M7 := M6.step st6 s6 (by omega) (by omega) (by omega)
  have HN : Hid (3 * f + 1 + x = (N : Int) ∧ 2 + v = V) := ⟨hN, hV⟩
  clear M6 stM s6 st6 hmk hN hV
  obtain ⟨k, rfl⟩ := Int.eq_ofNat_of_zero_le k0
  go_wp2
  go_loopw [7] (fun q wr => ∃ (j : Nat) (bs : List Bool), q = .int .i64 j ∧ w6.heap.size ≤ wr.heap.size ∧ Hid (bs.length = N ∧ bs.count true + j ≤ k ∧ Ms w0 B p a len cap w w5.heap.size w.heap.size (w5.heap.size + 1) N f d r 1000000 V bs wr)) (fun q _ => (intOf q).toNat)
  case atStart => exact ⟨k, List.replicate N false, rfl, Nat.le_refl _, by simp, by simp [List.count_replicate], M7⟩
  case round =>
    obtain ⟨j, bs, rfl, hz, H⟩ := hrel
    obtain ⟨hb1, hb2, m⟩ := H.out
    clear H
    have x0' := m.x.cell 0 rfl
    by_cases hj : 0 < j
    · have hj' : (0 : Int) < j := by omega
      have hN := HN.out.1
      have hN1 : 0 < N := by omega
      have hN2 : N ≤ 8 := by omega
      clear hN
      go_wp2_with fail
      refine (below' w0 B p a len cap N (by omega) (by omega) _ m.st).mono ?_
      rintro e w8 ⟨⟨y, rfl, y0, y1⟩, st8, s8⟩
      have m8 := m.step st8 s8 (by omega) (by omega) (by omega)
      obtain ⟨i, rfl⟩ := Int.eq_ofNat_of_zero_le y0
      have hi : i < bs.length := by omega
      have hi2 : (bs.map Value.bool)[i]? = some (.bool bs[i]) := by rw [List.getElem?_map, List.getElem?_eq_getElem hi]; rfl
      have c8 := m8.b.cell i hi2
      have f8 := m8.b.froz i hi2
      have z8 := s8.size
      have m9 := m8.store i (by omega) (by omega) (by omega) (by omega) (by omega) (by omega)
      have q9 := count_set bs i
      clear m m8 st8 s8 hi2 x0'
      go_wp2_with fail
      go_roundw
      case rel => exact ⟨j - 1, bs.set i true, by go_num, by simp [World.setCell]; omega, by simpa using hb1, by omega, m9⟩
      case measure => simp [intOf]; omega
    · have hj0 : j = 0 := by omega
      subst hj0
      have y1 := m.x.cell 1 rfl
      have y2 := m.x.cell 2 rfl
      have y3 := m.x.cell 3 rfl
      have y4 := m.x.cell 4 rfl
      have y5 := m.x.cell 5 rfl
      have r0d := m.z.cell 0 rfl
      have r1d := m.z.cell 1 rfl
      have r2d := m.z.cell 2 rfl
      have r3d := m.z.cell 3 rfl
      have r4d := m.z.cell 4 rfl
      have r5d := m.z.cell 5 rfl
      have f0d := m.z.froz 0 rfl
      have f1d := m.z.froz 1 rfl
      have f2d := m.z.froz 2 rfl
      have f3d := m.z.froz 3 rfl
      have f4d := m.z.froz 4 rfl
      have f5d := m.z.froz 5 rfl
      go_wp2_with fail
      have F6 := m.z.six (.int .i64 N) (.int .i64 f) (.int .i64 d) (.int .i64 r) (.int .i64 1000000) (.int .i64 V)
      have hh := HN.out
      refine bodyPost_ret (v := .tuple #[cfg N f d r 1000000 V, .slice (some ⟨w5.heap.size + 1, 0, none⟩) N N]) (by simp [results, Try.results22, go_sem, F6.cell 0 rfl, F6.cell 1 rfl, F6.cell 2 rfl, F6.cell 3 rfl, F6.cell 4 rfl, F6.cell 5 rfl]) rfl ⟨⟨f, d, r, V, N, w5.heap.size + 1, rfl, bs, ⟨hb1, by omega, ?_, by omega⟩, by omega, by omega, by omega, by omega, by omega⟩, m.st.six (by omega) (by omega) (by omega) _ _ _ _ _ _, ?_⟩
      · exact (((((m.b.setOther (by omega) 0 _).setOther (by omega) 1 _).setOther (by omega) 2 _).setOther (by omega) 3 _).setOther (by omega) 4 _).setOther (by omega) 5 _
      · exact (((((m.s.setNew 0 (by omega) _).setNew 1 (by omega) _).setNew 2 (by omega) _).setNew 3 (by omega) _).setNew 4 (by omega) _).setNew 5 (by omega) _

end Go.Proofs.Yteijagcpohiejaa.Di
