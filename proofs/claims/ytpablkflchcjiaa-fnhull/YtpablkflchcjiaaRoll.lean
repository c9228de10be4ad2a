/-
  Rows of numbers that the laws roll (laws.row) or draw (spec.DrawHull): new memory, each number where it should lie.
-/
import Derived.Test.YtpablkflchcjiaaDice
import Derived.Test.YtpablkflchcjiaaSSort
import Derived.Test.YtpablkflchcjiaaMark
namespace Go.Proofs.Ytpablkflchcjiaa.Rw
open Go.ChangeShapes Go.WideShapes Go.ChangeAt Go.RowKit
open Ls (el Row)
open Ow (Own Has ints)
set_option linter.unusedVariables false

theorem own_step {w w' : World} {p B g n c : Nat} {zs : List Int} (h : Own w B g n c zs) (s : Dr.Step p w w') (hne : g ≠ p) : Own w' B g n c zs := by
  obtain ⟨h1, h2⟩ := h
  refine ⟨h1, ?_⟩
  rcases h2 with h2 | ⟨g', cap', cur, e, hB, hb', rest⟩
  · exact .inl h2
  · cases e
    exact .inr ⟨g, c, cur, rfl, hB, by rw [s.block g (Array.getElem?_eq_some_iff.1 hb').1 hne]; exact hb', rest⟩

theorem step_grown {p g : Nat} {w0 w w' : World} (k : Dr.Step p w0 w) (hg : w.grownBy w' (some g)) (h0 : w0.heap.size ≤ g) : Dr.Step p w0 w' :=
  ⟨hg.os.trans k.os, hg.tape.trans k.tape, hg.output.trans k.output, Nat.le_trans k.size hg.size, fun j hj hn => by
    rw [hg.block j (Nat.lt_of_lt_of_le hj k.size) (by simp; omega)]; exact k.block j hj hn⟩

theorem di_grown {w0 w w' : World} {B p g : Nat} {a : Option Addr} {len cap : Nat} (s : Di.St w0 B p a len cap w) (hg : w.grownBy w' (some g)) (hp : g ≠ p) (hB : B ≤ g) (h0 : w0.heap.size ≤ g) : Di.St w0 B p a len cap w' := by
  obtain ⟨⟨i, h, c⟩, k⟩ := s
  have hpl : p < w.heap.size := World.block_lt_of_cell? _ _ c.c0
  have e : w'.heap[p]? = w.heap[p]? := hg.block p hpl (by simp; omega)
  have ec : ∀ o, w'.cell? ⟨p, o, none⟩ = w.cell? ⟨p, o, none⟩ := fun o => World.cell?_of_block (a := ⟨p, o, none⟩) e
  have ef : ∀ o, w'.frozen? ⟨p, o, none⟩ = w.frozen? ⟨p, o, none⟩ := fun o => World.frozen?_of_block (a := ⟨p, o, none⟩) e
  exact ⟨⟨i, h, c.le, c.code.later ((Below.refl _ _).grown hg (by have := c.le; omega) (by intro j hj; cases hj; exact hB)), by rw [ec]; exact c.c0, by rw [ec]; exact c.c1, by rw [ec]; exact c.c2, by rw [ef]; exact c.f1, by rw [ef]; exact c.f2, c.i_le⟩, step_grown k hg h0⟩

theorem dr_grown {w0 w w' : World} {B p g : Nat} {a : Option Addr} {len cap : Nat} (s : Dr.St w0 B p a len cap w) (hg : w.grownBy w' (some g)) (hp : g ≠ p) (hB : B ≤ g) (h0 : w0.heap.size ≤ g) : Dr.St w0 B p a len cap w' := by
  obtain ⟨⟨i, h, c⟩, k⟩ := s
  have hpl : p < w.heap.size := World.block_lt_of_cell? _ _ c.c0
  have e : w'.heap[p]? = w.heap[p]? := hg.block p hpl (by simp; omega)
  have ec : ∀ o, w'.cell? ⟨p, o, none⟩ = w.cell? ⟨p, o, none⟩ := fun o => World.cell?_of_block (a := ⟨p, o, none⟩) e
  have ef : ∀ o, w'.frozen? ⟨p, o, none⟩ = w.frozen? ⟨p, o, none⟩ := fun o => World.frozen?_of_block (a := ⟨p, o, none⟩) e
  exact ⟨⟨i, h, c.le, c.code.later ((Below.refl _ _).grown hg (by have := c.le; omega) (by intro j hj; cases hj; exact hB)), by rw [ec]; exact c.c0, by rw [ec]; exact c.c1, by rw [ec]; exact c.c2, by rw [ef]; exact c.f1, by rw [ef]; exact c.f2, c.i_le⟩, step_grown k hg h0⟩

theorem di_lt {w0 : World} {B p : Nat} {a : Option Addr} {len cap : Nat} {w : World} (s : Di.St w0 B p a len cap w) : p < w.heap.size := by
  obtain ⟨⟨i, h, c⟩, _⟩ := s
  exact World.block_lt_of_cell? _ _ c.c0
theorem di_le {w0 : World} {B p : Nat} {a : Option Addr} {len cap : Nat} {w : World} (s : Di.St w0 B p a len cap w) : B ≤ p := by
  obtain ⟨⟨i, h, c⟩, _⟩ := s
  exact c.le
theorem dr_le {w0 : World} {B p : Nat} {a : Option Addr} {len cap : Nat} {w : World} (s : Dr.St w0 B p a len cap w) : B ≤ p := by
  obtain ⟨⟨i, h, c⟩, _⟩ := s
  exact c.le
theorem di_alloc {w0 : World} {B p : Nat} {a : Option Addr} {len cap : Nat} {w : World} (s : Di.St w0 B p a len cap w) (o : Obj) (h0 : w0.heap.size ≤ w.heap.size) : Di.St w0 B p a len cap (w.alloc o) :=
  di_grown (g := w.heap.size) s (World.grownBy_alloc w o _) (by have := di_lt s; omega) (by have := di_lt s; have := di_le s; omega) h0
theorem dr_alloc {w0 : World} {B p : Nat} {a : Option Addr} {len cap : Nat} {w : World} (s : Dr.St w0 B p a len cap w) (o : Obj) (h0 : w0.heap.size ≤ w.heap.size) : Dr.St w0 B p a len cap (w.alloc o) :=
  dr_grown (g := w.heap.size) s (World.grownBy_alloc w o _) (by have := s.lt; omega) (by have := s.lt; have := dr_le s; omega) h0

/-- One more behind a row. -/
theorem more {w1 w2 : World} {B g k c : Nat} {zs : List Int} {x : Int} {v2 : Value} (h : w2.ownsRow B 2 1 v2 (k + 1) (ints zs ++ ints [x])) (hn : v2 ≠ .slice none 0 0) :
    ∃ g2 c2, v2 = .slice (some ⟨g2, 0, none⟩) (k + 1) c2 ∧ Own w2 B g2 (k + 1) c2 (zs ++ [x]) := Ow.own_of h (by simp [ints]) hn

set_option maxHeartbeats 1000000 in
theorem row (B p : Nat) (a : Option Addr) (len cap N : Nat) (most : Int) (hm0 : 0 ≤ most) (hm1 : most ≤ 4000000000) (hN : N ≤ 1000) (w0 w : World) (st : Di.St w0 B p a len cap w) (h00 : w0.heap.size ≤ w.heap.size) :
    Calls Try.prog 12 #[.pointer (some ⟨p, 0, none⟩), .int .i64 N, .int .i64 most] w fun e w' => (∃ g c, e = .returned (.slice (some ⟨g, 0, none⟩) N c) ∧ ∃ zs, Own w' w.heap.size g N c zs ∧ ∀ x ∈ zs, -most ≤ x ∧ x ≤ most) ∧ Di.St w0 B p a len cap w' ∧ Dr.Step p w w' := by
  obtain ⟨i0, hi, hz0, hz1, hz2⟩ := info_parts Ls.info
  have hpl := di_lt st
  have hle := di_le st
  have hstp := st.step
  go_enter Try.func12, Try.ntmps12
  go_wp2
  go_loopw [1, 7] (fun q v wr => ∃ (k g c : Nat) (zs : List Int), k ≤ N ∧ q = .int .i64 ((N : Int) - (k : Int)) ∧ v = .slice (some ⟨g, 0, none⟩) k c ∧ Own wr w.heap.size g k c zs ∧ Hid (∀ x ∈ zs, -most ≤ x ∧ x ≤ most) ∧ Di.St w B p a len cap wr) (fun q _ _ => (intOf q).toNat)
  case atStart => exact ⟨0, _, _, [], Nat.zero_le _, by simp, rfl, World.ownsRow_made w #[] 0 (Nat.le_refl _) (by unfold maxLen; omega) rfl, (fun x hx => by cases hx), di_alloc ⟨st.cur, Dr.Step.refl _ _⟩ _ (Nat.le_refl _)⟩
  case round =>
    obtain ⟨k, g, c, zs, hk, rfl, rfl, ho, HB, sr⟩ := hrel
    have hgB := ho.data.2.1
    have hzl := ho.data.1
    by_cases hlt : k < N
    · have hi' : (0 : Int) < (N : Int) - (k : Int) := by omega
      go_wp2_with fail
      refine (Di.around wr B p a len cap most hm0 hm1 wr ⟨sr.cur, Dr.Step.refl _ _⟩).mono ?_
      rintro e w1 ⟨⟨x, rfl, x0, x1⟩, s1⟩
      have ho1 := own_step ho s1.step (by omega)
      have sr1 : Di.St w B p a len cap w1 := ⟨s1.cur, sr.step.trans s1.step⟩
      have sz1 : w.heap.size ≤ w1.heap.size := sr1.step.size
      have HO1 : Hid (Own w1 w.heap.size g k c zs) := ho1
      clear ho ho1 s1 sr
      go_wp2_with (at_builtin; refine wpList_append_own _ rfl (.tmp 13) (.tmp 17) 27 rfl w.heap.size 2 i0 (.int .i64 0) 1 8 Try.underlying27 hi hz0 hz1 hz2 rfl (by decide) _ _ _ rfl (World.ownsRow.alloc (w := w1) HO1.out _) ⟨w1.heap.size, 0, none⟩ 1 1 (ints [x]) rfl rfl (Ow.one_new w1 x _ _ rfl) (Ow.one _) (by unfold maxLen; omega) (by omega) (by simp; omega) ?_; intro v2 w2 hx2 hg2 hn2)
      obtain ⟨g2, c2, rfl, ho2⟩ := more (w1 := w1) (g := g) (c := c) hx2 (Ow.no_nil hn2 rfl)
      have sr2 : Di.St w B p a len cap w2 := di_grown (g := g) (di_alloc sr1 _ sz1) hg2 (by omega) (by omega) hgB
      clear hx2 hg2 hn2 sr1 HO1
      go_wp2_with fail
      go_roundw
      case rel => exact ⟨k + 1, g2, c2, zs ++ [x], by omega, by go_num, rfl, ho2, (fun y hy => by rcases List.mem_append.1 hy with hy | hy; exact HB.out y hy; rw [List.mem_singleton] at hy; subst hy; exact ⟨x0, x1⟩), sr2⟩
      case measure => simp [intOf]; omega
    · have hi' : ¬ (0 : Int) < (N : Int) - (k : Int) := by omega
      have e : k = N := by omega
      subst e
      go_wp2
      go_ret
      exact ⟨⟨g, c, rfl, zs, ho, HB.out⟩, ⟨sr.cur, hstp.trans sr.step⟩, sr.step⟩

theorem row' (B p : Nat) (a : Option Addr) (len cap N : Nat) (v most : Int) (hv : v = N) (hm0 : 0 ≤ most) (hm1 : most ≤ 4000000000) (hN : N ≤ 1000) (w0 w : World) (st : Di.St w0 B p a len cap w) (h00 : w0.heap.size ≤ w.heap.size) :
    Calls Try.prog 12 #[.pointer (some ⟨p, 0, none⟩), .int .i64 v, .int .i64 most] w fun e w' => (∃ g c, e = .returned (.slice (some ⟨g, 0, none⟩) N c) ∧ ∃ zs, Own w' w.heap.size g N c zs ∧ ∀ x ∈ zs, -most ≤ x ∧ x ≤ most) ∧ Di.St w0 B p a len cap w' ∧ Dr.Step p w w' := by
  subst hv
  exact row B p a len cap N most hm0 hm1 hN w0 w st h00

/-- A copy in new memory, as the law on append leaves it. -/
theorem copy_of {W w1 : World} {l : Nat} {xs : List Int} {v1 : Value} (h : w1.ownsRow W.heap.size 2 1 v1 l (ints xs)) (hg : (W.alloc (.cells #[] 2)).grownBy w1 (some W.heap.size)) (hn : v1 ≠ .slice none 0 0) :
    (∃ g1 c1, v1 = .slice (some ⟨g1, 0, none⟩) l c1 ∧ Own w1 W.heap.size g1 l c1 xs) ∧ Below W.heap.size W w1 ∧ W.grownBy w1 (some W.heap.size) :=
  ⟨Ow.own_of h rfl hn, ((Below.refl _ _).alloc (Nat.le_refl _) _).grown hg (by simp) (by intro j hj; cases hj; exact Nat.le_refl _),
   ⟨hg.os, hg.tape, hg.output, by have := hg.size; simp at this; omega, fun j hj hne => by rw [hg.block j (by simp; omega) hne]; exact Below.heap_alloc _ _ _ hj⟩⟩

set_option maxHeartbeats 1000000 in
theorem drawHull (B : Nat) (a : Option Addr) (len cap : Nat) (w : World) (hB : B ≤ w.heap.size) (hc : Dr.Code w B a len) :
    Calls Try.prog 16 #[.slice a len cap] w fun e w' => (∃ g c k, e = .returned (.slice (some ⟨g, 0, none⟩) k c) ∧ (∃ zs, Own w' w.heap.size g k c zs) ∧ k ≤ 10) ∧ Below w.heap.size w w' := by
  obtain ⟨i0, hi, hz0, hz1, hz2⟩ := info_parts Ls.info
  go_enter Try.func16, Try.ntmps16
  go_wp2_with fail
  refine (Dr.l1New B a len cap w hB hc).mono ?_
  rintro e w1 ⟨rfl, st1⟩
  have sz1 := st1.step.size
  have hp1 := st1.lt
  go_wp2_with fail
  have st1' : Dr.St w B w.heap.size a len cap (w1.alloc (.cells #[] 2)) := dr_alloc st1 _ sz1
  refine (Dr.l1Below _ B w.heap.size a len cap 6 (by omega) (by omega) _ st1'.here).mono ?_
  rintro e w2 ⟨⟨y, rfl, y0, y1⟩, st2⟩
  obtain ⟨m0, rfl⟩ : ∃ m0 : Nat, y = m0 := ⟨y.toNat, by omega⟩
  have ho2 : Own w2 w1.heap.size w1.heap.size 0 0 [] := own_step (World.ownsRow_made w1 #[] 0 (Nat.le_refl _) (by unfold maxLen; omega) rfl) st2.step (by omega)
  have sr2 : Dr.St w B w.heap.size a len cap w2 := ⟨st2.cur, st1'.step.trans st2.step⟩
  have sz2 := st2.step.size
  simp at sz2
  clear st1' st2 st1
  go_wp2_with fail
  go_loopw [4, 5] (fun v q wr => ∃ (m k g c : Nat) (zs : List Int), m + k ≤ 5 ∧ q = .int .i64 (m : Int) ∧ v = .slice (some ⟨g, 0, none⟩) k c ∧ Own wr w1.heap.size g k c zs ∧ w1.heap.size ≤ wr.heap.size ∧ Dr.St w B w.heap.size a len cap wr) (fun _ q _ => (intOf q).toNat)
  case atStart => exact ⟨m0, 0, _, _, [], by omega, rfl, rfl, ho2, by omega, sr2⟩
  case round =>
    obtain ⟨m, k, g, c, zs, hk, rfl, rfl, ho, hsz, sr⟩ := hrel
    have hgB := ho.data.2.1
    have hzl := ho.data.1
    by_cases hlt : 0 < m
    · have hi' : (0 : Int) < (m : Int) := by omega
      go_wp2_with fail
      refine (Dr.l1DrawNs wr B w.heap.size a len cap wr ⟨sr.cur, Dr.Step.refl _ _⟩).mono ?_
      rintro e w3 ⟨⟨x, rfl, x0, x1⟩, s3⟩
      have ho3 := own_step ho s3.step (by omega)
      have sr3 : Dr.St w B w.heap.size a len cap w3 := ⟨s3.cur, sr.step.trans s3.step⟩
      have sz3 : w1.heap.size ≤ w3.heap.size := Nat.le_trans hsz s3.step.size
      have HO3 : Hid (Own w3 w1.heap.size g k c zs) := ho3
      clear ho ho3 s3 sr
      go_wp2_with (at_builtin; refine wpList_append_own _ rfl (.tmp 15) (.tmp 18) 27 rfl w1.heap.size 2 i0 (.int .i64 0) 1 8 Try.underlying27 hi hz0 hz1 hz2 rfl (by decide) _ _ _ rfl (World.ownsRow.alloc (w := w3) HO3.out _) ⟨w3.heap.size, 0, none⟩ 1 1 (ints [x]) rfl rfl (Ow.one_new w3 x _ _ rfl) (Ow.one _) (by unfold maxLen; omega) (by omega) (by simp; omega) ?_; intro v4 w4 hx4 hg4 hn4)
      obtain ⟨g4, c4, rfl, ho4⟩ := more (w1 := w3) (g := g) (c := c) hx4 (Ow.no_nil hn4 rfl)
      have sr4 : Dr.St w B w.heap.size a len cap w4 := dr_grown (g := g) (dr_alloc sr3 _ (by omega)) hg4 (by omega) (by omega) (by omega)
      have sz4 : w1.heap.size ≤ w4.heap.size := by have := hg4.size; simp at this; omega
      clear hx4 hg4 hn4 sr3 HO3
      go_wp2_with fail
      go_roundw
      case rel => exact ⟨m - 1, k + 1, g4, c4, zs ++ [x], by omega, by go_num, rfl, ho4, sz4, sr4⟩
      case measure => simp [intOf]; omega
    · have hi' : ¬ (0 : Int) < (m : Int) := by omega
      go_wp2
      go_ret
      exact ⟨⟨g, c, k, rfl, ⟨zs, ho.mono sz1⟩, by omega⟩, sr.step.fresh (Nat.le_refl _)⟩

end Go.Proofs.Ytpablkflchcjiaa.Rw
