/-
  impl.guessIn: what a node guesses of another; impl.guessesIn: all of its guesses, one after the other. · The function that impl.guessesIn hands back: it yields a node's guesses, one after the other.
-/
import Derived.Test.YtcgcmceobmpdiaaGreatG1
import Derived.RangeFuncBox
import Derived.RangeFuncLeaves
import Derived.Shelf.Abstract
import Derived.WalkKit
import Derived.OwnWalkIn
import Derived.TacticsInMore
import Derived.LoopNIn
import Derived.LoopIn
import Derived.Maps.OwnIn
namespace Go.Proofs.YtcgcmceobmpdiaaGreat.Tu
open Go.ChangeShapes Go.WideShapes Go.ChangeAt Go.RowKit Go.Shelf
open Ls (el Row)
open Ow (Has Own ints)
open Rm (Room)
open Wl (wld c9)
open Ss (RowsAt ln rw_ tot)
set_option linter.unusedVariables false
set_option linter.unusedSimpArgs false

set_option maxHeartbeats 4000000 in
set_option maxRecDepth 100000 in
theorem guessIn (n l d r p s t : Int) (gK k cK gO cO be oe cE bl ol cL bx ox cx bz oz cz i j : Nat) (D F R : Value) (ks os ds : List Int) (es ls : List (List Int)) (w : World)
    (hK : w.cell? ⟨gK, j, none⟩ = some (.int .i64 (el ks j))) (hOj : w.cell? ⟨gO, j, none⟩ = some (.int .i64 (el os j + el ds j))) (hOi : w.cell? ⟨gO, i, none⟩ = some (.int .i64 (el os i + el ds i)))
    (hE0 : w.cell? ⟨be, oe + i, none⟩ = some (.slice (some ⟨bx, ox, none⟩) k cx)) (hE1 : w.cell? ⟨bx, ox + j, none⟩ = some (.int .i64 (el (rw_ es i) j))) (hL0 : w.cell? ⟨bl, ol + i, none⟩ = some (.slice (some ⟨bz, oz, none⟩) k cz)) (hL1 : w.cell? ⟨bz, oz + j, none⟩ = some (.int .i64 (el (rw_ ls i) j)))
    (hik : i < k) (hjk : j < k) (hk : k ≤ 1048576) (qOj : -2000000000000000 ≤ el os j + el ds j ∧ el os j + el ds j ≤ 2000000000000000) (qOi : -2000000000000000 ≤ el os i + el ds i ∧ el os i + el ds i ≤ 2000000000000000) (qE : -1000000 ≤ el (rw_ es i) j ∧ el (rw_ es i) j ≤ 1000000) :
    Calls Tryz.prog 87 #[wld n l d r p s (.slice (some ⟨gK, 0, none⟩) k cK) (.slice (some ⟨gO, 0, none⟩) k cO) t, trn D (.slice (some ⟨be, oe, none⟩) k cE) (.slice (some ⟨bl, ol, none⟩) k cL) F R, .int .i64 (i : Int), .int .i64 (j : Int)] w fun e w' => e = .returned (.int .i64 (GS ks os ds es ls i j)) ∧ Below w.heap.size w w' := by
  have BB := ((Below.refl w.heap.size w).alloc (Nat.le_refl _) (.cells #[.int .i64 n, .int .i64 l, .int .i64 d, .int .i64 r, .int .i64 p, .int .i64 s, .slice (some ⟨gK, 0, none⟩) k cK, .slice (some ⟨gO, 0, none⟩) k cO, .int .i64 t] 32)).alloc (by simp) (.cells #[D, .slice (some ⟨be, oe, none⟩) k cE, .slice (some ⟨bl, ol, none⟩) k cL, F, R] 53)
  have z1 := World.block_lt_of_cell? _ _ hK
  have z2 := World.block_lt_of_cell? _ _ hOj
  have z3 := World.block_lt_of_cell? _ _ hE0
  have z4 := World.block_lt_of_cell? _ _ hE1
  have z5 := World.block_lt_of_cell? _ _ hL0
  have z6 := World.block_lt_of_cell? _ _ hL1
  have hii : (i : Int) < (k : Int) := by omega
  have hjj : (j : Int) < (k : Int) := by omega
  dsimp only at z1 z2 z3 z4 z5 z6
  rw [← BB.cell (p := ⟨gK, j, none⟩) z1] at hK
  rw [← BB.cell (p := ⟨gO, j, none⟩) z2] at hOj
  rw [← BB.cell (p := ⟨gO, i, none⟩) z2] at hOi
  rw [← BB.cell (p := ⟨be, oe + i, none⟩) z3] at hE0
  rw [← BB.cell (p := ⟨bx, ox + j, none⟩) z4] at hE1
  rw [← BB.cell (p := ⟨bl, ol + i, none⟩) z5] at hL0
  rw [← BB.cell (p := ⟨bz, oz + j, none⟩) z6] at hL1
  by_cases h0 : el ks j = 0
  case neg =>
    have h1 : (el ks j != 0) = true := by simp [h0]
    have E : Hid (GS ks os ds es ls i j = el (rw_ ls i) j) := by unfold Hid GS; rw [if_neg h0]
    clear hOj hOi hE0 hE1
    go_enter Tryz.func87, Tryz.ntmps87
    go_wp2
    go_ret
    exact ⟨by rw [E.out]; rfl, BB⟩
  case pos =>
    have h1 : (el ks j != 0) = false := by simp [h0]
    by_cases hji : j = i
    case pos =>
      subst hji
      have E : Hid (GS ks os ds es ls j j = 0) := by unfold Hid GS; rw [if_pos h0, if_pos rfl]
      clear hOj hOi hE0 hE1 hL0 hL1
      go_enter Tryz.func87, Tryz.ntmps87
      go_wp2
      go_ret
      exact ⟨by rw [E.out]; rfl, BB⟩
    case neg =>
      have h2 : ((j : Int) == (i : Int)) = false := by rw [beq_eq_false_iff_ne]; omega
      have E : Hid (GS ks os ds es ls i j = (el os j + el ds j) - (el os i + el ds i) + el (rw_ es i) j) := by unfold Hid GS; rw [if_pos h0, if_neg hji]
      obtain ⟨A, hA⟩ : ∃ A, el os j + el ds j = A := ⟨_, rfl⟩
      obtain ⟨B, hB⟩ : ∃ B, el os i + el ds i = B := ⟨_, rfl⟩
      obtain ⟨C, hC⟩ : ∃ C, el (rw_ es i) j = C := ⟨_, rfl⟩
      rw [hA] at hOj E qOj
      rw [hB] at hOi E qOi
      rw [hC] at hE1 E qE
      obtain ⟨X, hX⟩ : ∃ X, A - B + C = X := ⟨_, rfl⟩
      rw [hX] at E
      have hw1 : IntKind.i64.wrap (A - B) = A - B := by rw [IntKind.wrap_i64]; omega
      have hw2 : IntKind.i64.wrap (A - B + C) = X := by rw [IntKind.wrap_i64]; omega
      clear hA hB hC hX hL0 hL1 h0 qOj qOi qE
      go_enter Tryz.func87, Tryz.ntmps87
      go_wp2_with fail
      go_quiet (fail)
      all_goals
        go_wp2
        go_ret
        exact ⟨by rw [E.out]; rfl, ⟨BB.os, BB.tape, BB.output, BB.size, BB.block⟩⟩

/-- These blocks lie as they lay. -/
def Kq (Q : Nat → Prop) (W W' : World) : Prop := W.heap.size ≤ W'.heap.size ∧ ∀ b, Q b → W'.heap[b]? = W.heap[b]?
theorem Kq.cell {Q : Nat → Prop} {W W' : World} (h : Kq Q W W') {p : Addr} (hp : Q p.block) : W'.cell? p = W.cell? p := World.cell?_of_block (h.2 _ hp)
theorem Kq.trans {Q : Nat → Prop} {A B C : World} (h : Kq Q A B) (k : Kq Q B C) : Kq Q A C := ⟨Nat.le_trans h.1 k.1, fun b q => (k.2 b q).trans (h.2 b q)⟩
theorem Kq.below {Q : Nat → Prop} {W W' : World} {B : Nat} (h : Below B W W') (hq : ∀ b, Q b → b < B) : Kq Q W W' := ⟨h.size, fun b q => h.block b (hq b q)⟩
theorem Kq.put {Q : Nat → Prop} {B : Nat} (hq : ∀ b, Q b → b < B) (W : World) (l : Nat) (o o' : Obj) (hl : B ≤ l) (_ : W.heap[l]? = some o) (_ : o.isCells = false) (_ : o.isWalk = false) : Kq Q W (W.putObj l o') :=
  ⟨(grownBy_putObj' W l o').size, fun b q => World.putObj_heap_other (by have := hq b q; omega)⟩

set_option maxHeartbeats 2000000 in
theorem guessesIn (n l d r p s t : Int) (K O D E L F R : Value) (i : Int) (w : World) :
    Calls Tryz.prog 77 #[wld n l d r p s K O t, trn D E L F R, .int .i64 i] w fun e w' => e = .returned (.func (.func 86) #[] #[.pointer (some ⟨w.heap.size, 0, none⟩), .pointer (some ⟨w.heap.size + 1, 0, none⟩), .pointer (some ⟨w.heap.size + 1 + 1, 0, none⟩)]) ∧
      w' = ((w.alloc (.cells #[.int .i64 n, .int .i64 l, .int .i64 d, .int .i64 r, .int .i64 p, .int .i64 s, K, O, .int .i64 t] 32)).alloc (.cells #[D, E, L, F, R] 53)).alloc (.cells #[.int .i64 i] 2) := by
  go_enter Tryz.func77, Tryz.ntmps77
  go_wp2
  go_ret
  exact ⟨rfl, rfl⟩

end Go.Proofs.YtcgcmceobmpdiaaGreat.Tu

namespace Go.Proofs.YtcgcmceobmpdiaaGreat.Tu
open Go.ChangeShapes Go.WideShapes Go.ChangeAt Go.RowKit Go.Shelf
open Ls (el Row)
open Ow (Has Own ints)
open Rm (Room)
open Wl (wld c9)
open Ss (RowsAt ln rw_ tot)
attribute [local go_sem] Oper.semAt_some
set_option linter.unusedVariables false
set_option linter.unusedSimpArgs false

/-- All that the guesses are read from. -/
def GF (n l d r p s t : Int) (gK k cK gO cO be oe cE bl ol cL bx ox cx bz oz cz i : Nat) (D F R : Value) (ks os ds : List Int) (es ls : List (List Int)) (B0 B1 B2 : Nat) (W : World) : Prop :=
    Room W B0 [.int .i64 n, .int .i64 l, .int .i64 d, .int .i64 r, .int .i64 p, .int .i64 s, .slice (some ⟨gK, 0, none⟩) k cK, .slice (some ⟨gO, 0, none⟩) k cO, .int .i64 t] ∧ Room W B1 [D, .slice (some ⟨be, oe, none⟩) k cE, .slice (some ⟨bl, ol, none⟩) k cL, F, R] ∧ W.cell? ⟨B2, 0, none⟩ = some (.int .i64 (i : Int)) ∧
      (∀ j, j < k → W.cell? ⟨gK, j, none⟩ = some (.int .i64 (el ks j))) ∧ (∀ j, j < k → W.cell? ⟨gO, j, none⟩ = some (.int .i64 (el os j + el ds j))) ∧ W.cell? ⟨be, oe + i, none⟩ = some (.slice (some ⟨bx, ox, none⟩) k cx) ∧ (∀ j, j < k → W.cell? ⟨bx, ox + j, none⟩ = some (.int .i64 (el (rw_ es i) j))) ∧ W.cell? ⟨bl, ol + i, none⟩ = some (.slice (some ⟨bz, oz, none⟩) k cz) ∧ (∀ j, j < k → W.cell? ⟨bz, oz + j, none⟩ = some (.int .i64 (el (rw_ ls i) j)))
theorem Room.kq {Q : Nat → Prop} {W W' : World} {g : Nat} {vs : List Value} (h : Room W g vs) (k : Kq Q W W') (q : Q g) : Room W' g vs := h.block (k.2 g q)
theorem GF.kept {n l d r p s t : Int} {gK k cK gO cO be oe cE bl ol cL bx ox cx bz oz cz i : Nat} {D F R : Value} {ks os ds : List Int} {es ls : List (List Int)} {B0 B1 B2 : Nat} {Q : Nat → Prop} {W W' : World} (h : GF n l d r p s t gK k cK gO cO be oe cE bl ol cL bx ox cx bz oz cz i D F R ks os ds es ls B0 B1 B2 W) (q : Kq Q W W') (hQ : Q B0 ∧ Q B1 ∧ Q B2 ∧ Q gK ∧ Q gO ∧ Q be ∧ Q bx ∧ Q bl ∧ Q bz) : GF n l d r p s t gK k cK gO cO be oe cE bl ol cL bx ox cx bz oz cz i D F R ks os ds es ls B0 B1 B2 W' := by
  obtain ⟨h1, h2, h3, h4, h5, h6, h7, h8, h9⟩ := h
  obtain ⟨q1, q2, q3, q4, q5, q6, q7, q8, q9⟩ := hQ
  exact ⟨Room.kq h1 q q1, Room.kq h2 q q2, (q.cell q3).trans h3, fun j hj => (q.cell (p := ⟨gK, j, none⟩) q4).trans (h4 j hj), fun j hj => (q.cell (p := ⟨gO, j, none⟩) q5).trans (h5 j hj), (q.cell (p := ⟨be, oe + i, none⟩) q6).trans h6, fun j hj => (q.cell (p := ⟨bx, ox + j, none⟩) q7).trans (h7 j hj), (q.cell (p := ⟨bl, ol + i, none⟩) q8).trans h8, fun j hj => (q.cell (p := ⟨bz, oz + j, none⟩) q9).trans (h9 j hj)⟩
theorem below_grown {w w' : World} (b : Below w.heap.size w w') : w.grownBy w' none := ⟨b.os, b.tape, b.output, b.size, fun k hk _ => b.block k hk⟩
theorem GF.later {n l d r p s t : Int} {gK k cK gO cO be oe cE bl ol cL bx ox cx bz oz cz i : Nat} {D F R : Value} {ks os ds : List Int} {es ls : List (List Int)} {B0 B1 B2 : Nat} {W W' : World} (h : GF n l d r p s t gK k cK gO cO be oe cE bl ol cL bx ox cx bz oz cz i D F R ks os ds es ls B0 B1 B2 W) (b : Below W.heap.size W W') (hk : i < k) : GF n l d r p s t gK k cK gO cO be oe cE bl ol cL bx ox cx bz oz cz i D F R ks os ds es ls B0 B1 B2 W' := by
  obtain ⟨h1, h2, h3, h4, h5, h6, h7, h8, h9⟩ := h
  have c : ∀ {a : Addr} {v : Value}, W.cell? a = some v → W'.cell? a = some v := fun {a v} h => (b.cell (World.block_lt_of_cell? _ _ h)).trans h
  exact ⟨h1.below b, h2.below b, c h3, fun j hj => c (h4 j hj), fun j hj => c (h5 j hj), c h6, fun j hj => c (h7 j hj), c h8, fun j hj => c (h9 j hj)⟩

set_option maxRecDepth 100000 in
set_option maxHeartbeats 4000000 in
theorem gi1 (n l d r p s t : Int) (gK k cK gO cO be oe cE bl ol cL bx ox cx bz oz cz i : Nat) (D F R : Value) (ks os ds : List Int) (es ls : List (List Int)) (Q : Nat → Prop) (B0 B1 B2 : Nat)
    (hik : i < k) (hk : k ≤ 1048576) (qO : Hid (∀ j, j < k → -2000000000000000 ≤ el os j + el ds j ∧ el os j + el ds j ≤ 2000000000000000)) (qE : Hid (∀ j, j < k → -1000000 ≤ el (rw_ es i) j ∧ el (rw_ es i) j ≤ 1000000))
    (hQ : Hid (Q B0 ∧ Q B1 ∧ Q B2 ∧ Q gK ∧ Q gO ∧ Q be ∧ Q bx ∧ Q bl ∧ Q bz)) (m : Nat) (hm : 1 ≤ m) (l0 : Nat) (J Jx : List Int → World → Prop) (W0 : World) (hJ : AbidesFrom W0.heap.size J)
    (hY : ∀ pre x W, J pre W → pre.length < k → YieldAt Fence.wide (m - 1) Tryz.prog l0 #[.int .i64 x] W fun e W' =>
      (e = .returned (.bool true) ∧ J (pre ++ [x]) W' ∧ Kq Q W W') ∨ (e = .returned (.bool false) ∧ Jx (pre ++ [x]) W'))
    (hF : GF n l d r p s t gK k cK gO cO be oe cE bl ol cL bx ox cx bz oz cz i D F R ks os ds es ls B0 B1 B2 W0) (h0 : J [] W0) :
    CallsIn Fence.wide m Tryz.prog 86 #[.func (.yield l0) #[] #[], .pointer (some ⟨B0, 0, none⟩), .pointer (some ⟨B1, 0, none⟩), .pointer (some ⟨B2, 0, none⟩)] W0 fun e W' => (∃ v, e = .returned v) ∧
      ((∃ ys, ys = GL ks os ds es ls i k ∧ J ys W') ∨ (∃ pre, (∃ q, q ≤ k ∧ pre = GL ks os ds es ls i q) ∧ Jx pre W')) := by
  have c6 := hF.1.cell 6 rfl
  have HF : Hid (GF n l d r p s t gK k cK gO cO be oe cE bl ol cL bx ox cx bz oz cz i D F R ks os ds es ls B0 B1 B2 W0) := hF
  clear hF
  refine callsIn_of_wp Tryz.func86 rfl trivial ?_ rfl
  simp only [Tryz.ntmps86, List.size_toArray, List.length_cons, List.length_nil, Nat.reduceAdd, Nat.reduceSub, Array.replicate_succ, Array.replicate_zero, List.push_toArray, List.append_toArray, List.nil_append, List.cons_append]
  gi_wp2
  gi_loopw [9] (fun v wr => ∃ q : Nat, q ≤ k ∧ v = .int .i64 (q : Int) ∧ J (GL ks os ds es ls i q) wr ∧ Hid (GF n l d r p s t gK k cK gO cO be oe cE bl ol cL bx ox cx bz oz cz i D F R ks os ds es ls B0 B1 B2 wr)) (fun v _ => k - (intOf v).toNat)
  case atStart => exact ⟨0, Nat.zero_le _, rfl, h0, HF⟩
  case round =>
    obtain ⟨q, hq, rfl, hJs, HR⟩ := hrel
    clear c6 HF h0
    by_cases hlt : q < k
    · have hi : (q : Int) < k := by omega
      have hF := HR.out
      obtain ⟨h1, h2, h3, h4, h5, h6, h7, h8, h9⟩ := hF
      have key := guessIn n l d r p s t gK k cK gO cO be oe cE bl ol cL bx ox cx bz oz cz i q D F R ks os ds es ls wr (h4 q hlt) (h5 q hlt) (h5 i hik) h6 (h7 q hlt) h8 (h9 q hlt) hik hlt hk (qO.out q hlt) (qO.out i hik) (qE.out q hlt)
      clear h4 h5 h6 h7 h8 h9
      have c0 := h1.cell 0 rfl
      have c1 := h1.cell 1 rfl
      have c2 := h1.cell 2 rfl
      have c3 := h1.cell 3 rfl
      have c4 := h1.cell 4 rfl
      have c5 := h1.cell 5 rfl
      have c6 := h1.cell 6 rfl
      have c7 := h1.cell 7 rfl
      have c8 := h1.cell 8 rfl
      have y0 := h2.cell 0 rfl
      have y1 := h2.cell 1 rfl
      have y2 := h2.cell 2 rfl
      have y3 := h2.cell 3 rfl
      have y4 := h2.cell 4 rfl
      clear h1 h2
      have E1 : Hid (GL ks os ds es ls i (q + 1) = GL ks os ds es ls i q ++ [GS ks os ds es ls i q]) := gl_succ ks os ds es ls i q
      generalize GS ks os ds es ls i q = X at key E1
      gi_wp2_with fail
      refine ⟨trivial, (callsIn_wide.2 key).mono ?_⟩
      clear key
      rintro e W2 ⟨rfl, b2⟩
      have hJ2 := hJ _ _ _ none hJs (below_grown b2) (fun r e => by cases e)
      replace HR : Hid (GF n l d r p s t gK k cK gO cO be oe cE bl ol cL bx ox cx bz oz cz i D F R ks os ds es ls B0 B1 B2 W2) := HR.out.later b2 hik
      clear b2 hJs c0 c1 c2 c3 c4 c5 c6 c7 c8 y0 y1 y2 y3 y4
      obtain ⟨fn, tmps, assign, body, hy, hR⟩ := hY _ X W2 hJ2 (by rw [gl_len]; exact hlt)
      gi_wp2_with fail
      refine hR.mono ?_
      rintro e W3 (⟨rfl, hJ3, hk3⟩ | ⟨rfl, hJx3⟩)
      · have HR3 : Hid (GF n l d r p s t gK k cK gO cO be oe cE bl ol cL bx ox cx bz oz cz i D F R ks os ds es ls B0 B1 B2 W3) := HR.out.kept hk3 hQ.out
        rw [← E1.out] at hJ3
        clear HR hR hy hJ2 hk3
        gi_wp2
        go_roundw
        case rel => exact ⟨q + 1, by omega, by go_num, hJ3, HR3⟩
        case measure => simp [intOf]; omega
      · rw [← E1.out] at hJx3
        gi_wp2
        refine bodyPost_ret (results_none rfl _ _ _) rfl ?_
        exact ⟨⟨_, rfl⟩, .inr ⟨_, ⟨q + 1, by omega, rfl⟩, hJx3⟩⟩
    · have hi : ¬ (q : Int) < k := by omega
      obtain rfl : q = k := by omega
      gi_wp2
      go_end0
      exact ⟨⟨_, rfl⟩, .inl hJs⟩

theorem gi_stops (n l d r p s t : Int) (gK k cK gO cO be oe cE bl ol cL bx ox cx bz oz cz i : Nat) (D F R : Value) (ks os ds : List Int) (es ls : List (List Int)) (Q : Nat → Prop) (B0 B1 B2 : Nat)
    (hik : i < k) (hk : k ≤ 1048576) (qO : Hid (∀ j, j < k → -2000000000000000 ≤ el os j + el ds j ∧ el os j + el ds j ≤ 2000000000000000)) (qE : Hid (∀ j, j < k → -1000000 ≤ el (rw_ es i) j ∧ el (rw_ es i) j ≤ 1000000))
    (hQ : Hid (Q B0 ∧ Q B1 ∧ Q B2 ∧ Q gK ∧ Q gO ∧ Q be ∧ Q bx ∧ Q bl ∧ Q bz)) (m : Nat) (hm : 1 ≤ m) (w : World) (hF : GF n l d r p s t gK k cK gO cO be oe cE bl ol cL bx ox cx bz oz cz i D F R ks os ds es ls B0 B1 B2 w) :
    SeqStopsK Fence.wide m Tryz.prog 86 #[.pointer (some ⟨B0, 0, none⟩), .pointer (some ⟨B1, 0, none⟩), .pointer (some ⟨B2, 0, none⟩)] (fun x : Int => #[Value.int .i64 x]) (Kq Q) (fun ys => ys = GL ks os ds es ls i k) (fun pre => ∃ q, q ≤ k ∧ pre = GL ks os ds es ls i q) k w := fun l0 J Jx W hW hJ _ hY h0 =>
  gi1 n l d r p s t gK k cK gO cO be oe cE bl ol cL bx ox cx bz oz cz i D F R ks os ds es ls Q B0 B1 B2 hik hk qO qE hQ m hm l0 J Jx W hJ hY (hF.later hW hik) h0

end Go.Proofs.YtcgcmceobmpdiaaGreat.Tu
