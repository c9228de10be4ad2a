/-
  The function that impl.guessesIn hands back: it yields a node's guesses, one after the other.
-/
import Derived.Test.YtnocmfhlmpgbmaaG3
import Derived.RangeFuncBox
import Derived.RangeFuncLeaves
import Derived.Shelf.Abstract
import Derived.WalkKit
import Derived.OwnWalkIn
import Derived.TacticsInMore
import Derived.LoopNIn
import Derived.LoopIn
import Derived.Maps.OwnIn
namespace Go.Proofs.Ytnocmfhlmpgbmaa.Tu
open Go.ChangeShapes Go.WideShapes Go.ChangeAt Go.RowKit Go.Shelf
open Ls (el Row)
open Ow (Has Own ints)
open Rm (Room)
open Wl (wld c9)
open Ss (RowsAt ln rw_ tot)
attribute [local go_sem] Oper.semAt_some
set_option linter.unusedVariables false
set_option linter.unusedSimpArgs false

/-- All that the guesses are read from. -/
def GF (n l d r p s t : Int) (gK k cK gO cO be oe cE bl ol cL bx ox cx bz oz cz i : Nat) (D F R : Value) (ks os ds : List Int) (es ls : List (List Int)) (B0 B1 B2 : Nat) (W : World) : Prop :=
    Room W B0 [.int .i64 n, .int .i64 l, .int .i64 d, .int .i64 r, .int .i64 p, .int .i64 s, .slice (some ⟨gK, 0, none⟩) k cK, .slice (some ⟨gO, 0, none⟩) k cO, .int .i64 t] ∧ Room W B1 [D, .slice (some ⟨be, oe, none⟩) k cE, .slice (some ⟨bl, ol, none⟩) k cL, F, R] ∧ W.cell? ⟨B2, 0, none⟩ = some (.int .i64 (i : Int)) ∧
      (∀ j, j < k → W.cell? ⟨gK, j, none⟩ = some (.int .i64 (el ks j))) ∧ (∀ j, j < k → W.cell? ⟨gO, j, none⟩ = some (.int .i64 (el os j + el ds j))) ∧ W.cell? ⟨be, oe + i, none⟩ = some (.slice (some ⟨bx, ox, none⟩) k cx) ∧ (∀ j, j < k → W.cell? ⟨bx, ox + j, none⟩ = some (.int .i64 (el (rw_ es i) j))) ∧ W.cell? ⟨bl, ol + i, none⟩ = some (.slice (some ⟨bz, oz, none⟩) k cz) ∧ (∀ j, j < k → W.cell? ⟨bz, oz + j, none⟩ = some (.int .i64 (el (rw_ ls i) j)))
theorem Room.kq {Q : Nat → Prop} {W W' : World} {g : Nat} {vs : List Value} (h : Room W g vs) (k : Kq Q W W') (q : Q g) : Room W' g vs := h.block (k.2 g q)
theorem GF.kept {n l d r p s t : Int} {gK k cK gO cO be oe cE bl ol cL bx ox cx bz oz cz i : Nat} {D F R : Value} {ks os ds : List Int} {es ls : List (List Int)} {B0 B1 B2 : Nat} {Q : Nat → Prop} {W W' : World} (h : GF n l d r p s t gK k cK gO cO be oe cE bl ol cL bx ox cx bz oz cz i D F R ks os ds es ls B0 B1 B2 W) (q : Kq Q W W') (hQ : Q B0 ∧ Q B1 ∧ Q B2 ∧ Q gK ∧ Q gO ∧ Q be ∧ Q bx ∧ Q bl ∧ Q bz) : GF n l d r p s t gK k cK gO cO be oe cE bl ol cL bx ox cx bz oz cz i D F R ks os ds es ls B0 B1 B2 W' := by
  obtain ⟨h1, h2, h3, h4, h5, h6, h7, h8, h9⟩ := h
  obtain ⟨q1, q2, q3, q4, q5, q6, q7, q8, q9⟩ := hQ
  exact ⟨Room.kq h1 q q1, Room.kq h2 q q2, (q.cell q3).trans h3, fun j hj => (q.cell (p := ⟨gK, j, none⟩) q4).trans (h4 j hj), fun j hj => (q.cell (p := ⟨gO, j, none⟩) q5).trans (h5 j hj), (q.cell (p := ⟨be, oe + i, none⟩) q6).trans h6, fun j hj => (q.cell (p := ⟨bx, ox + j, none⟩) q7).trans (h7 j hj), (q.cell (p := ⟨bl, ol + i, none⟩) q8).trans h8, fun j hj => (q.cell (p := ⟨bz, oz + j, none⟩) q9).trans (h9 j hj)⟩
theorem below_grown {w w' : World} (b : Below w.heap.size w w') : w.grownBy w' none := ⟨b.os, b.tape, b.output, b.size, fun k hk _ => b.block k hk⟩
theorem GF.later {n l d r p s t : Int} {gK k cK gO cO be oe cE bl ol cL bx ox cx bz oz cz i : Nat} {D F R : Value} {ks os ds : List Int} {es ls : List (List Int)} {B0 B1 B2 : Nat} {W W' : World} (h : GF n l d r p s t gK k cK gO cO be oe cE bl ol cL bx ox cx bz oz cz i D F R ks os ds es ls B0 B1 B2 W) (b : Below W.heap.size W W') (hk : i < k) : GF n l d r p s t gK k cK gO cO be oe cE bl ol cL bx ox cx bz oz cz i D F R ks os ds es ls B0 B1 B2 W' := by
  obtain ⟨h1, h2, h3, h4, h5, h6, h7, h8, h9⟩ := h
  have c : ∀ {a : Addr} {v : Value}, W.cell? a = some v → W'.cell? a = some v := fun {a v} h => (b.cell (World.block_lt_of_cell? _ _ h)).trans h
  exact ⟨h1.below b, h2.below b, c h3, fun j hj => c (h4 j hj), fun j hj => c (h5 j hj), c h6, fun j hj => c (h7 j hj), c h8, fun j hj => c (h9 j hj)⟩

set_option maxRecDepth 100000 in
set_option maxHeartbeats 4000000 in
theorem gi1 (n l d r p s t : Int) (gK k cK gO cO be oe cE bl ol cL bx ox cx bz oz cz i : Nat) (D F R : Value) (ks os ds : List Int) (es ls : List (List Int)) (Q : Nat → Prop) (B0 B1 B2 : Nat)
    (hik : i < k) (hk : k ≤ 1048576) (qO : Hid (∀ j, j < k → -2000000000000000 ≤ el os j + el ds j ∧ el os j + el ds j ≤ 2000000000000000)) (qE : Hid (∀ j, j < k → -1000000 ≤ el (rw_ es i) j ∧ el (rw_ es i) j ≤ 1000000))
    (hQ : Hid (Q B0 ∧ Q B1 ∧ Q B2 ∧ Q gK ∧ Q gO ∧ Q be ∧ Q bx ∧ Q bl ∧ Q bz)) (m : Nat) (hm : 1 ≤ m) (l0 : Nat) (J Jx : List Int → World → Prop) (W0 : World) (hJ : AbidesFrom W0.heap.size J)
    (hY : ∀ pre x W, J pre W → pre.length < k → YieldAt Fence.wide (m - 1) Try.prog l0 #[.int .i64 x] W fun e W' =>
      (e = .returned (.bool true) ∧ J (pre ++ [x]) W' ∧ Kq Q W W') ∨ (e = .returned (.bool false) ∧ Jx (pre ++ [x]) W'))
    (hF : GF n l d r p s t gK k cK gO cO be oe cE bl ol cL bx ox cx bz oz cz i D F R ks os ds es ls B0 B1 B2 W0) (h0 : J [] W0) :
    CallsIn Fence.wide m Try.prog 71 #[.func (.yield l0) #[] #[], .pointer (some ⟨B0, 0, none⟩), .pointer (some ⟨B1, 0, none⟩), .pointer (some ⟨B2, 0, none⟩)] W0 fun e W' => (∃ v, e = .returned v) ∧
      ((∃ ys, ys = GL ks os ds es ls i k ∧ J ys W') ∨ (∃ pre, (∃ q, q ≤ k ∧ pre = GL ks os ds es ls i q) ∧ Jx pre W')) := by
  have c6 := hF.1.cell 6 rfl
  have HF : Hid (GF n l d r p s t gK k cK gO cO be oe cE bl ol cL bx ox cx bz oz cz i D F R ks os ds es ls B0 B1 B2 W0) := hF
  clear hF
  refine callsIn_of_wp Try.func71 rfl trivial ?_ rfl
  simp only [Try.ntmps71, List.size_toArray, List.length_cons, List.length_nil, Nat.reduceAdd, Nat.reduceSub, Array.replicate_succ, Array.replicate_zero, List.push_toArray, List.append_toArray, List.nil_append, List.cons_append]
  gi_wp2
  gi_loopw [9] (fun v wr => ∃ q : Nat, q ≤ k ∧ v = .int .i64 (q : Int) ∧ J (GL ks os ds es ls i q) wr ∧ Hid (GF n l d r p s t gK k cK gO cO be oe cE bl ol cL bx ox cx bz oz cz i D F R ks os ds es ls B0 B1 B2 wr)) (fun v _ => k - (intOf v).toNat)
  case atStart => exact ⟨0, Nat.zero_le _, rfl, h0, HF⟩
  case round =>
    obtain ⟨q, hq, rfl, hJs, HR⟩ := hrel
    clear c6 HF h0
    by_cases hlt : q < k
    · have hi : (q : Int) < k := by omega
      have hF := HR.out
      obtain ⟨h1, h2, h3, h4, h5, h6, h7, h8, h9⟩ := hF
      have key := guessIn n l d r p s t gK k cK gO cO be oe cE bl ol cL bx ox cx bz oz cz i q D F R ks os ds es ls wr (h4 q hlt) (h5 q hlt) (h5 i hik) h6 (h7 q hlt) h8 (h9 q hlt) hik hlt hk (qO.out q hlt) (qO.out i hik) (qE.out q hlt)
      clear h4 h5 h6 h7 h8 h9
      have c0 := h1.cell 0 rfl
      have c1 := h1.cell 1 rfl
      have c2 := h1.cell 2 rfl
      have c3 := h1.cell 3 rfl
      have c4 := h1.cell 4 rfl
      have c5 := h1.cell 5 rfl
      have c6 := h1.cell 6 rfl
      have c7 := h1.cell 7 rfl
      have c8 := h1.cell 8 rfl
      have y0 := h2.cell 0 rfl
      have y1 := h2.cell 1 rfl
      have y2 := h2.cell 2 rfl
      have y3 := h2.cell 3 rfl
      have y4 := h2.cell 4 rfl
      clear h1 h2
      have E1 : Hid (GL ks os ds es ls i (q + 1) = GL ks os ds es ls i q ++ [GS ks os ds es ls i q]) := gl_succ ks os ds es ls i q
      generalize GS ks os ds es ls i q = X at key E1
      gi_wp2_with fail
      refine ⟨trivial, (callsIn_wide.2 key).mono ?_⟩
      clear key
      rintro e W2 ⟨rfl, b2⟩
      have hJ2 := hJ _ _ _ none hJs (below_grown b2) (fun r e => by cases e)
      replace HR : Hid (GF n l d r p s t gK k cK gO cO be oe cE bl ol cL bx ox cx bz oz cz i D F R ks os ds es ls B0 B1 B2 W2) := HR.out.later b2 hik
      clear b2 hJs c0 c1 c2 c3 c4 c5 c6 c7 c8 y0 y1 y2 y3 y4
      obtain ⟨fn, tmps, assign, body, hy, hR⟩ := hY _ X W2 hJ2 (by rw [gl_len]; exact hlt)
      gi_wp2_with fail
      refine hR.mono ?_
      rintro e W3 (⟨rfl, hJ3, hk3⟩ | ⟨rfl, hJx3⟩)
      · have HR3 : Hid (GF n l d r p s t gK k cK gO cO be oe cE bl ol cL bx ox cx bz oz cz i D F R ks os ds es ls B0 B1 B2 W3) := HR.out.kept hk3 hQ.out
        rw [← E1.out] at hJ3
        clear HR hR hy hJ2 hk3
        gi_wp2
        go_roundw
        case rel => exact ⟨q + 1, by omega, by go_num, hJ3, HR3⟩
        case measure => simp [intOf]; omega
      · rw [← E1.out] at hJx3
        gi_wp2
        refine bodyPost_ret (results_none rfl _ _ _) rfl ?_
        exact ⟨⟨_, rfl⟩, .inr ⟨_, ⟨q + 1, by omega, rfl⟩, hJx3⟩⟩
    · have hi : ¬ (q : Int) < k := by omega
      obtain rfl : q = k := by omega
      gi_wp2
      go_end0
      exact ⟨⟨_, rfl⟩, .inl hJs⟩

theorem gi_stops (n l d r p s t : Int) (gK k cK gO cO be oe cE bl ol cL bx ox cx bz oz cz i : Nat) (D F R : Value) (ks os ds : List Int) (es ls : List (List Int)) (Q : Nat → Prop) (B0 B1 B2 : Nat)
    (hik : i < k) (hk : k ≤ 1048576) (qO : Hid (∀ j, j < k → -2000000000000000 ≤ el os j + el ds j ∧ el os j + el ds j ≤ 2000000000000000)) (qE : Hid (∀ j, j < k → -1000000 ≤ el (rw_ es i) j ∧ el (rw_ es i) j ≤ 1000000))
    (hQ : Hid (Q B0 ∧ Q B1 ∧ Q B2 ∧ Q gK ∧ Q gO ∧ Q be ∧ Q bx ∧ Q bl ∧ Q bz)) (m : Nat) (hm : 1 ≤ m) (w : World) (hF : GF n l d r p s t gK k cK gO cO be oe cE bl ol cL bx ox cx bz oz cz i D F R ks os ds es ls B0 B1 B2 w) :
    SeqStopsK Fence.wide m Try.prog 71 #[.pointer (some ⟨B0, 0, none⟩), .pointer (some ⟨B1, 0, none⟩), .pointer (some ⟨B2, 0, none⟩)] (fun x : Int => #[Value.int .i64 x]) (Kq Q) (fun ys => ys = GL ks os ds es ls i k) (fun pre => ∃ q, q ≤ k ∧ pre = GL ks os ds es ls i q) k w := fun l0 J Jx W hW hJ _ hY h0 =>
  gi1 n l d r p s t gK k cK gO cO be oe cE bl ol cL bx ox cx bz oz cz i D F R ks os ds es ls Q B0 B1 B2 hik hk qO qE hQ m hm l0 J Jx W hJ hY (hF.later hW hik) h0

end Go.Proofs.Ytnocmfhlmpgbmaa.Tu
