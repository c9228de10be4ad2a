/-
  impl.guessIn: what a node guesses of another; impl.guessesIn: all of its guesses, one after the other.
-/
import Derived.Test.YtnocmfhlmpgbmaaG1
import Derived.RangeFuncBox
import Derived.RangeFuncLeaves
import Derived.Shelf.Abstract
import Derived.WalkKit
import Derived.OwnWalkIn
import Derived.TacticsInMore
import Derived.LoopNIn
import Derived.LoopIn
import Derived.Maps.OwnIn
namespace Go.Proofs.Ytnocmfhlmpgbmaa.Tu
open Go.ChangeShapes Go.WideShapes Go.ChangeAt Go.RowKit Go.Shelf
open Ls (el Row)
open Ow (Has Own ints)
open Rm (Room)
open Wl (wld c9)
open Ss (RowsAt ln rw_ tot)
set_option linter.unusedVariables false
set_option linter.unusedSimpArgs false

set_option maxHeartbeats 4000000 in
set_option maxRecDepth 100000 in
theorem guessIn (n l d r p s t : Int) (gK k cK gO cO be oe cE bl ol cL bx ox cx bz oz cz i j : Nat) (D F R : Value) (ks os ds : List Int) (es ls : List (List Int)) (w : World)
    (hK : w.cell? ⟨gK, j, none⟩ = some (.int .i64 (el ks j))) (hOj : w.cell? ⟨gO, j, none⟩ = some (.int .i64 (el os j + el ds j))) (hOi : w.cell? ⟨gO, i, none⟩ = some (.int .i64 (el os i + el ds i)))
    (hE0 : w.cell? ⟨be, oe + i, none⟩ = some (.slice (some ⟨bx, ox, none⟩) k cx)) (hE1 : w.cell? ⟨bx, ox + j, none⟩ = some (.int .i64 (el (rw_ es i) j))) (hL0 : w.cell? ⟨bl, ol + i, none⟩ = some (.slice (some ⟨bz, oz, none⟩) k cz)) (hL1 : w.cell? ⟨bz, oz + j, none⟩ = some (.int .i64 (el (rw_ ls i) j)))
    (hik : i < k) (hjk : j < k) (hk : k ≤ 1048576) (qOj : -2000000000000000 ≤ el os j + el ds j ∧ el os j + el ds j ≤ 2000000000000000) (qOi : -2000000000000000 ≤ el os i + el ds i ∧ el os i + el ds i ≤ 2000000000000000) (qE : -1000000 ≤ el (rw_ es i) j ∧ el (rw_ es i) j ≤ 1000000) :
    Calls Try.prog 72 #[wld n l d r p s (.slice (some ⟨gK, 0, none⟩) k cK) (.slice (some ⟨gO, 0, none⟩) k cO) t, trn D (.slice (some ⟨be, oe, none⟩) k cE) (.slice (some ⟨bl, ol, none⟩) k cL) F R, .int .i64 (i : Int), .int .i64 (j : Int)] w fun e w' => e = .returned (.int .i64 (GS ks os ds es ls i j)) ∧ Below w.heap.size w w' := by
  have BB := ((Below.refl w.heap.size w).alloc (Nat.le_refl _) (.cells #[.int .i64 n, .int .i64 l, .int .i64 d, .int .i64 r, .int .i64 p, .int .i64 s, .slice (some ⟨gK, 0, none⟩) k cK, .slice (some ⟨gO, 0, none⟩) k cO, .int .i64 t] 31)).alloc (by simp) (.cells #[D, .slice (some ⟨be, oe, none⟩) k cE, .slice (some ⟨bl, ol, none⟩) k cL, F, R] 36)
  have z1 := World.block_lt_of_cell? _ _ hK
  have z2 := World.block_lt_of_cell? _ _ hOj
  have z3 := World.block_lt_of_cell? _ _ hE0
  have z4 := World.block_lt_of_cell? _ _ hE1
  have z5 := World.block_lt_of_cell? _ _ hL0
  have z6 := World.block_lt_of_cell? _ _ hL1
  have hii : (i : Int) < (k : Int) := by omega
  have hjj : (j : Int) < (k : Int) := by omega
  dsimp only at z1 z2 z3 z4 z5 z6
  rw [← BB.cell (p := ⟨gK, j, none⟩) z1] at hK
  rw [← BB.cell (p := ⟨gO, j, none⟩) z2] at hOj
  rw [← BB.cell (p := ⟨gO, i, none⟩) z2] at hOi
  rw [← BB.cell (p := ⟨be, oe + i, none⟩) z3] at hE0
  rw [← BB.cell (p := ⟨bx, ox + j, none⟩) z4] at hE1
  rw [← BB.cell (p := ⟨bl, ol + i, none⟩) z5] at hL0
  rw [← BB.cell (p := ⟨bz, oz + j, none⟩) z6] at hL1
  by_cases h0 : el ks j = 0
  case neg =>
    have h1 : (el ks j != 0) = true := by simp [h0]
    have E : Hid (GS ks os ds es ls i j = el (rw_ ls i) j) := by unfold Hid GS; rw [if_neg h0]
    clear hOj hOi hE0 hE1
    go_enter Try.func72, Try.ntmps72
    go_wp2
    go_ret
    exact ⟨by rw [E.out]; rfl, BB⟩
  case pos =>
    have h1 : (el ks j != 0) = false := by simp [h0]
    by_cases hji : j = i
    case pos =>
      subst hji
      have E : Hid (GS ks os ds es ls j j = 0) := by unfold Hid GS; rw [if_pos h0, if_pos rfl]
      clear hOj hOi hE0 hE1 hL0 hL1
      go_enter Try.func72, Try.ntmps72
      go_wp2
      go_ret
      exact ⟨by rw [E.out]; rfl, BB⟩
    case neg =>
      have h2 : ((j : Int) == (i : Int)) = false := by rw [beq_eq_false_iff_ne]; omega
      have E : Hid (GS ks os ds es ls i j = (el os j + el ds j) - (el os i + el ds i) + el (rw_ es i) j) := by unfold Hid GS; rw [if_pos h0, if_neg hji]
      obtain ⟨A, hA⟩ : ∃ A, el os j + el ds j = A := ⟨_, rfl⟩
      obtain ⟨B, hB⟩ : ∃ B, el os i + el ds i = B := ⟨_, rfl⟩
      obtain ⟨C, hC⟩ : ∃ C, el (rw_ es i) j = C := ⟨_, rfl⟩
      rw [hA] at hOj E qOj
      rw [hB] at hOi E qOi
      rw [hC] at hE1 E qE
      obtain ⟨X, hX⟩ : ∃ X, A - B + C = X := ⟨_, rfl⟩
      rw [hX] at E
      have hw1 : IntKind.i64.wrap (A - B) = A - B := by rw [IntKind.wrap_i64]; omega
      have hw2 : IntKind.i64.wrap (A - B + C) = X := by rw [IntKind.wrap_i64]; omega
      clear hA hB hC hX hL0 hL1 h0 qOj qOi qE
      go_enter Try.func72, Try.ntmps72
      go_wp2_with fail
      go_quiet (fail)
      all_goals
        go_wp2
        go_ret
        exact ⟨by rw [E.out]; rfl, ⟨BB.os, BB.tape, BB.output, BB.size, BB.block⟩⟩

/-- These blocks lie as they lay. -/
def Kq (Q : Nat → Prop) (W W' : World) : Prop := W.heap.size ≤ W'.heap.size ∧ ∀ b, Q b → W'.heap[b]? = W.heap[b]?
theorem Kq.cell {Q : Nat → Prop} {W W' : World} (h : Kq Q W W') {p : Addr} (hp : Q p.block) : W'.cell? p = W.cell? p := World.cell?_of_block (h.2 _ hp)
theorem Kq.trans {Q : Nat → Prop} {A B C : World} (h : Kq Q A B) (k : Kq Q B C) : Kq Q A C := ⟨Nat.le_trans h.1 k.1, fun b q => (k.2 b q).trans (h.2 b q)⟩
theorem Kq.below {Q : Nat → Prop} {W W' : World} {B : Nat} (h : Below B W W') (hq : ∀ b, Q b → b < B) : Kq Q W W' := ⟨h.size, fun b q => h.block b (hq b q)⟩
theorem Kq.put {Q : Nat → Prop} {B : Nat} (hq : ∀ b, Q b → b < B) (W : World) (l : Nat) (o o' : Obj) (hl : B ≤ l) (_ : W.heap[l]? = some o) (_ : o.isCells = false) (_ : o.isWalk = false) : Kq Q W (W.putObj l o') :=
  ⟨(grownBy_putObj' W l o').size, fun b q => World.putObj_heap_other (by have := hq b q; omega)⟩

set_option maxHeartbeats 2000000 in
theorem guessesIn (n l d r p s t : Int) (K O D E L F R : Value) (i : Int) (w : World) :
    Calls Try.prog 37 #[wld n l d r p s K O t, trn D E L F R, .int .i64 i] w fun e w' => e = .returned (.func (.func 71) #[] #[.pointer (some ⟨w.heap.size, 0, none⟩), .pointer (some ⟨w.heap.size + 1, 0, none⟩), .pointer (some ⟨w.heap.size + 1 + 1, 0, none⟩)]) ∧
      w' = ((w.alloc (.cells #[.int .i64 n, .int .i64 l, .int .i64 d, .int .i64 r, .int .i64 p, .int .i64 s, K, O, .int .i64 t] 31)).alloc (.cells #[D, E, L, F, R] 36)).alloc (.cells #[.int .i64 i] 2) := by
  go_enter Try.func37, Try.ntmps37
  go_wp2
  go_ret
  exact ⟨rfl, rfl⟩

end Go.Proofs.Ytnocmfhlmpgbmaa.Tu
