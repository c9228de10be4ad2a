/-
  A new court is right (spec.CourtOk).
-/
import Derived.Test.YtimakfokgcnklaaGreatCt2
import Derived.Deep.Cut
import Derived.Test.YtimakfokgcnklaaGreatTk
namespace Go.Proofs.YtimakfokgcnklaaGreat.Ct
open Go.ChangeShapes Go.WideShapes Go.ChangeAt Go.RowKit
open Ls (el Row)
open Rm (Room)
open Rd (Flags)
open Sp (LK retb reti)
open Sl (KO sl lk_yes)
set_option linter.unusedVariables false
set_option linter.unusedSimpArgs false

/-- New peers with these offs, below block B. -/
def Peers (w : World) (B : Nat) (a : Option Addr) (n : Nat) (os : List Int) : Prop :=
  os.length = n ∧ (n = 0 ∨ ∃ b off, a = some ⟨b, off, none⟩ ∧ b < B ∧ ∀ k, k < n → w.cell? ⟨b, off + k * 4, none⟩ = some (.int .i64 (el os k)) ∧ w.cell? ⟨b, off + k * 4 + 1, none⟩ = some (.int .i64 1) ∧ w.cell? ⟨b, off + k * 4 + 2, none⟩ = some (.bool false) ∧ w.cell? ⟨b, off + k * 4 + 3, none⟩ = some (.slice none 0 0))
theorem Peers.later {w w' : World} {B B' : Nat} {a : Option Addr} {n : Nat} {os : List Int} (h : Peers w B a n os) (hb : Below B' w w') (hB : B ≤ B') : Peers w' B a n os := by
  obtain ⟨h1, h2⟩ := h
  refine ⟨h1, ?_⟩
  rcases h2 with h2 | ⟨b, off, e, hB1, hc⟩
  · exact .inl h2
  · refine .inr ⟨b, off, e, hB1, fun k hk => ?_⟩
    have q : ∀ o, w'.cell? ⟨b, o, none⟩ = w.cell? ⟨b, o, none⟩ := fun o => hb.cell (p := ⟨b, o, none⟩) (by simp; omega)
    rw [q, q, q, q]
    exact hc k hk
theorem Peers.more {w : World} {B B' : Nat} {a : Option Addr} {n : Nat} {os : List Int} (h : Peers w B a n os) (hB : B ≤ B') : Peers w B' a n os := by
  obtain ⟨h1, h2⟩ := h
  refine ⟨h1, ?_⟩
  rcases h2 with h2 | ⟨b, off, e, hB1, hc⟩
  · exact .inl h2
  · exact .inr ⟨b, off, e, by omega, hc⟩

/-- What is asked of a new court's parts. -/
structure New (w : World) (N : Nat) (f p a l m : Int) (aK aL aP : Option Addr) (zs os : List Int) (bs : List Bool) : Prop where
  rk : RK N f p a l m
  K : Row w w.heap.size aK N zs
  ko : KO zs N = true
  L : Flags w w.heap.size aL N bs
  ct : (CT bs N : Int) ≤ f
  P : Peers w w.heap.size aP N os
  off : ∀ k, k < N → -1000000000000000 ≤ el os k ∧ el os k ≤ 1000000000000000
theorem New.later {w w' : World} {N : Nat} {f p a l m : Int} {aK aL aP : Option Addr} {zs os : List Int} {bs : List Bool} (h : New w N f p a l m aK aL aP zs os bs) (b : Below w.heap.size w w') : New w' N f p a l m aK aL aP zs os bs :=
  ⟨h.rk, (h.K.later b (Nat.le_refl _)).more b.size, h.ko, (h.L.later b (Nat.le_refl _)).more b.size, h.ct, (h.P.later b (Nat.le_refl _)).more b.size, h.off⟩

set_option maxRecDepth 100000 in
set_option maxHeartbeats 8000000 in
theorem courtOk (N cK cL cP : Nat) (f p a l m : Int) (aK aL aP : Option Addr) (zs os : List Int) (bs : List Bool) (w : World) (NW : New w N f p a l m aK aL aP zs os bs) :
    Calls Tryz.prog 19 #[crt N f p a l m (.slice aK N cK) (.slice aL N cL) (.slice aP N cP)] w fun e w' => e = .returned (.bool true) ∧ Below w.heap.size w w' := by
  have R := Room.new w [.int .i64 N, .int .i64 f, .int .i64 p, .int .i64 a, .int .i64 l, .int .i64 m, .slice aK N cK, .slice aL N cL, .slice aP N cP, .slice none 0 0, .int .i64 0, .slice none 0 0, .slice none 0 0] 35
  have B := (Below.refl w.heap.size w).alloc (Nat.le_refl _) (.cells #[.int .i64 N, .int .i64 f, .int .i64 p, .int .i64 a, .int .i64 l, .int .i64 m, .slice aK N cK, .slice aL N cL, .slice aP N cP, .slice none 0 0, .int .i64 0, .slice none 0 0, .slice none 0 0] 35)
  replace NW := NW.later B
  have hN := NW.rk.1
  have hN2 : N ≤ 1048576 := by omega
  go_enter Tryz.func19, Tryz.ntmps19
  have r6 := R.cell 6 rfl
  go_wp2_with fail
  clear r6
  generalize w.alloc (.cells #[.int .i64 N, .int .i64 f, .int .i64 p, .int .i64 a, .int .i64 l, .int .i64 m, .slice aK N cK, .slice aL N cL, .slice aP N cP, .slice none 0 0, .int .i64 0, .slice none 0 0, .slice none 0 0] 35) = w1 at R B NW ⊢
  replace R := R.drew
  replace B := B.drew
  replace NW := NW.later (Below.refl _ _).drew
  refine wp_region_noPanic ?_
  refine wp_region_held_drew (S := (fun w' => w'.cell? ⟨w.heap.size, 0, none⟩ = some (.int .i64 N) ∧ w'.cell? ⟨w.heap.size, 1, none⟩ = some (.int .i64 f) ∧ w'.cell? ⟨w.heap.size, 2, none⟩ = some (.int .i64 p) ∧ w'.cell? ⟨w.heap.size, 3, none⟩ = some (.int .i64 a) ∧ w'.cell? ⟨w.heap.size, 4, none⟩ = some (.int .i64 l) ∧ w'.cell? ⟨w.heap.size, 5, none⟩ = some (.int .i64 m) ∧ w'.cell? ⟨w.heap.size, 6, none⟩ = some (.slice aK N cK) ∧ w'.cell? ⟨w.heap.size, 7, none⟩ = some (.slice aL N cL) ∧ w'.cell? ⟨w.heap.size, 8, none⟩ = some (.slice aP N cP) ∧ w'.cell? ⟨w.heap.size, 9, none⟩ = some (.slice none 0 0) ∧ w'.cell? ⟨w.heap.size, 10, none⟩ = some (.int .i64 0) ∧ w'.cell? ⟨w.heap.size, 11, none⟩ = some (.slice none 0 0) ∧ w'.cell? ⟨w.heap.size, 12, none⟩ = some (.slice none 0 0) ∧ Hid (Room w' w.heap.size [.int .i64 N, .int .i64 f, .int .i64 p, .int .i64 a, .int .i64 l, .int .i64 m, .slice aK N cK, .slice aL N cL, .slice aP N cP, .slice none 0 0, .int .i64 0, .slice none 0 0, .slice none 0 0] ∧ Below w.heap.size w w' ∧ New w' N f p a l m aK aL aP zs os bs))) (by kernel_rfl) ⟨R.cell 0 rfl, R.cell 1 rfl, R.cell 2 rfl, R.cell 3 rfl, R.cell 4 rfl, R.cell 5 rfl, R.cell 6 rfl, R.cell 7 rfl, R.cell 8 rfl, R.cell 9 rfl, R.cell 10 rfl, R.cell 11 rfl, R.cell 12 rfl, ⟨R, B, NW⟩⟩ (fun hHeld => ?_)
  generalize w1.drew = wd at hHeld ⊢
  refine Tk.W 0 (some 11) (.fieldAddr 35 (.tmp 1) 0) 0 none ?_
  refine Tk.W 1 (some 12) (.load 25 (.tmp 11)) 25 none ?_
  refine Tk.R 2 (some 13) (.call ⟨.value (.func 13), #[.tmp 12], #[25]⟩) 4 none (fun K hK => ?_)
  go_simp
  refine (ruleOk N f p a l m hHeld.2.2.2.2.2.2.2.2.2.2.2.2.2.out.2.2.rk _).mono ?_
  rintro e vq3 ⟨rfl, bq3⟩
  have Rq3 := hHeld.2.2.2.2.2.2.2.2.2.2.2.2.2.out.1.below bq3
  have Bq3 := hHeld.2.2.2.2.2.2.2.2.2.2.2.2.2.out.2.1.trans (bq3.mono hHeld.2.2.2.2.2.2.2.2.2.2.2.2.2.out.2.1.size)
  have Nq3 := hHeld.2.2.2.2.2.2.2.2.2.2.2.2.2.out.2.2.later bq3
  clear bq3
  try dsimp only
  refine hK.out _ _ ⟨Rq3.cell 0 rfl, Rq3.cell 1 rfl, Rq3.cell 2 rfl, Rq3.cell 3 rfl, Rq3.cell 4 rfl, Rq3.cell 5 rfl, Rq3.cell 6 rfl, Rq3.cell 7 rfl, Rq3.cell 8 rfl, Rq3.cell 9 rfl, Rq3.cell 10 rfl, Rq3.cell 11 rfl, Rq3.cell 12 rfl, ⟨Rq3, Bq3, Nq3⟩⟩ ?_; clear hK K hHeld; intro hHeld; try simp only [Act.put, List.setIfInBounds_toArray, List.set_cons_zero, List.set_cons_succ]
  refine Tk.W 3 (some 14) (.unOp .not 4 (.tmp 13)) 4 none ?_
  refine Tk.W 4 (some 15) (.move (.tmp 14)) 4 none ?_
  refine Tk.W 5 (some 16) (.fieldAddr 35 (.tmp 1) 1) 0 (some (4, false)) ?_
  refine Tk.W 6 (some 17) (.load 26 (.tmp 16)) 26 (some (4, false)) ?_
  refine Tk.R 7 (some 18) (.call ⟨.value (.func 61), #[.tmp 17], #[26]⟩) 4 (some (4, false)) (fun K hK => ?_)
  go_simp
  refine (Sl.s_KeysOk aK N cK zs _ hHeld.2.2.2.2.2.2.2.2.2.2.2.2.2.out.2.2.K (by omega)).mono ?_
  rintro e vq8 ⟨rfl, rfl⟩
  rw [hHeld.2.2.2.2.2.2.2.2.2.2.2.2.2.out.2.2.ko]
  have Rq8 := hHeld.2.2.2.2.2.2.2.2.2.2.2.2.2.out.1
  have Bq8 := hHeld.2.2.2.2.2.2.2.2.2.2.2.2.2.out.2.1
  have Nq8 := hHeld.2.2.2.2.2.2.2.2.2.2.2.2.2.out.2.2
  try dsimp only
  refine hK.out _ _ ⟨Rq8.cell 0 rfl, Rq8.cell 1 rfl, Rq8.cell 2 rfl, Rq8.cell 3 rfl, Rq8.cell 4 rfl, Rq8.cell 5 rfl, Rq8.cell 6 rfl, Rq8.cell 7 rfl, Rq8.cell 8 rfl, Rq8.cell 9 rfl, Rq8.cell 10 rfl, Rq8.cell 11 rfl, Rq8.cell 12 rfl, ⟨Rq8, Bq8, Nq8⟩⟩ ?_; clear hK K hHeld; intro hHeld; try simp only [Act.put, List.setIfInBounds_toArray, List.set_cons_zero, List.set_cons_succ]
  refine Tk.W 8 (some 19) (.unOp .not 4 (.tmp 18)) 4 (some (4, false)) ?_
  refine Tk.W 9 (some 20) (.pick (.tmp 15) (.const (.bool true)) (.tmp 19)) 4 none ?_
  refine Tk.W 10 (some 21) (.move (.tmp 20)) 4 none ?_
  refine Tk.W 11 (some 22) (.move (.tmp 3)) 2 (some (10, false)) ?_
  refine Tk.W 12 (some 23) (.fieldAddr 35 (.tmp 1) 0) 0 (some (10, false)) ?_
  refine Tk.W 13 (some 24) (.fieldAddr 25 (.tmp 23) 0) 0 (some (10, false)) ?_
  refine Tk.W 14 (some 25) (.load 2 (.tmp 24)) 2 (some (10, false)) ?_
  refine Tk.W 15 (some 26) (.binOp .neq 2 (.tmp 22) (.tmp 25) 2) 4 (some (10, false)) ?_
  refine Tk.W 16 (some 27) (.pick (.tmp 21) (.const (.bool true)) (.tmp 26)) 4 none ?_
  refine Tk.W 17 (some 28) (.move (.tmp 27)) 4 none ?_
  refine Tk.W 18 (some 29) (.fieldAddr 35 (.tmp 1) 2) 0 (some (17, false)) ?_
  refine Tk.W 19 (some 30) (.load 27 (.tmp 29)) 27 (some (17, false)) ?_
  refine Tk.W 20 (some 31) (.call ⟨.builtin .len, #[.tmp 30], #[27]⟩) 3 (some (17, false)) ?_
  refine Tk.W 21 (some 32) (.move (.tmp 3)) 2 (some (17, false)) ?_
  refine Tk.W 22 (some 33) (.binOp .neq 2 (.tmp 31) (.tmp 32) 2) 4 (some (17, false)) ?_
  refine Tk.W 23 (some 34) (.pick (.tmp 28) (.const (.bool true)) (.tmp 33)) 4 none ?_
  refine Tk.W 24 (some 35) (.move (.tmp 34)) 4 none ?_
  refine Tk.W 25 (some 36) (.fieldAddr 35 (.tmp 1) 3) 0 (some (24, false)) ?_
  refine Tk.W 26 (some 37) (.load 30 (.tmp 36)) 30 (some (24, false)) ?_
  refine Tk.W 27 (some 38) (.call ⟨.builtin .len, #[.tmp 37], #[30]⟩) 3 (some (24, false)) ?_
  refine Tk.W 28 (some 39) (.move (.tmp 3)) 2 (some (24, false)) ?_
  refine Tk.W 29 (some 40) (.binOp .neq 2 (.tmp 38) (.tmp 39) 2) 4 (some (24, false)) ?_
  refine Tk.W 30 (some 41) (.pick (.tmp 35) (.const (.bool true)) (.tmp 40)) 4 none ?_
  refine Tk.W 31 (some 42) (.move (.tmp 41)) 4 none ?_
  refine Tk.W 32 (some 43) (.fieldAddr 35 (.tmp 1) 2) 0 (some (31, false)) ?_
  refine Tk.W 33 (some 44) (.load 27 (.tmp 43)) 27 (some (31, false)) ?_
  refine Tk.W 35 (some 46) (.fieldAddr 35 (.tmp 1) 0) 0 (some (31, false)) ?_
  refine Tk.W 36 (some 47) (.fieldAddr 25 (.tmp 46) 1) 0 (some (31, false)) ?_
  refine Tk.W 37 (some 48) (.load 2 (.tmp 47)) 2 (some (31, false)) ?_
  refine Tk.R 34 (some 45) (.call ⟨.value (.func 62), #[.tmp 44], #[27]⟩) 2 (some (31, false)) (fun K hK => ?_)
  go_simp
  refine (count aL N cL bs _ hHeld.2.2.2.2.2.2.2.2.2.2.2.2.2.out.2.2.L (by omega)).mono ?_
  rintro e vq38 ⟨rfl, rfl⟩
  have Rq38 := hHeld.2.2.2.2.2.2.2.2.2.2.2.2.2.out.1
  have Bq38 := hHeld.2.2.2.2.2.2.2.2.2.2.2.2.2.out.2.1
  have Nq38 := hHeld.2.2.2.2.2.2.2.2.2.2.2.2.2.out.2.2
  have hct : decide (f < (CT bs N : Int)) = false := decide_eq_false (by have := hHeld.2.2.2.2.2.2.2.2.2.2.2.2.2.out.2.2.ct; omega)
  try dsimp only
  refine hK.out _ _ ⟨Rq38.cell 0 rfl, Rq38.cell 1 rfl, Rq38.cell 2 rfl, Rq38.cell 3 rfl, Rq38.cell 4 rfl, Rq38.cell 5 rfl, Rq38.cell 6 rfl, Rq38.cell 7 rfl, Rq38.cell 8 rfl, Rq38.cell 9 rfl, Rq38.cell 10 rfl, Rq38.cell 11 rfl, Rq38.cell 12 rfl, ⟨Rq38, Bq38, Nq38⟩⟩ ?_; clear hK K hHeld; intro hHeld; try simp only [Act.put, List.setIfInBounds_toArray, List.set_cons_zero, List.set_cons_succ]
  refine Tk.W 38 (some 49) (.binOp .gtr 2 (.tmp 45) (.tmp 48) 2) 4 (some (31, false)) ?_
  refine Tk.W 39 (some 50) (.pick (.tmp 42) (.const (.bool true)) (.tmp 49)) 4 none ?_
  refine wpAnyH_done (by kernel_rfl) ?_ _
  refine NoPanic.normal ?_
  clear hct
  obtain ⟨_, _, _, _, _, _, _, _, _, _, _, _, _, ⟨R, B, NW⟩⟩ := hHeld
  have r6 := R.cell 6 rfl
  have r8 := R.cell 8 rfl
  have r9 := R.cell 9 rfl
  have r10 := R.cell 10 rfl
  have r11 := R.cell 11 rfl
  have r12 := R.cell 12 rfl
  go_wp2_with fail
  refine (Sp.s_l1In 0 100000 0 _).mono ?_
  rintro e w3 ⟨rfl, rfl⟩
  rw [lk_yes (by omega)]
  go_wp2_with fail
  clear r6 r8 r9 r10 r11 r12
  refine (merged aK N cK zs _ NW.K NW.ko).mono ?_
  rintro e w4 ⟨rfl, b4⟩
  replace R := R.below b4
  replace B := B.trans (b4.mono B.size)
  replace NW := NW.later b4
  clear b4
  have r12 := R.cell 12 rfl
  go_wp2_with fail
  clear r12
  go_loopw [4] (fun i w' => ∃ k : Nat, k ≤ N ∧ i = .int .i64 k ∧ Hid (Room w' w.heap.size [.int .i64 N, .int .i64 f, .int .i64 p, .int .i64 a, .int .i64 l, .int .i64 m, .slice aK N cK, .slice aL N cL, .slice aP N cP, .slice none 0 0, .int .i64 0, .slice none 0 0, .slice none 0 0] ∧ Below w.heap.size w w' ∧ New w' N f p a l m aK aL aP zs os bs)) (fun i _ => N - (intOf i).toNat)
  case atStart => exact ⟨0, Nat.zero_le _, rfl, ⟨R, B, NW⟩⟩
  case round =>
    obtain ⟨k, hk, rfl, ⟨R, B, NW⟩⟩ := hrel
    have r8 := R.cell 8 rfl
    by_cases hlt : k < N
    · have hi : (k : Int) < N := by omega
      obtain ⟨_, hP⟩ := NW.P
      rcases hP with hP | ⟨b, off, rfl, hB, hc⟩
      · omega
      replace hc := hc k hlt
      go_wp2_with fail
      clear r8
      replace R := R.drew
      replace B := B.drew
      replace NW := NW.later (Below.refl _ _).drew
      refine wp_region_noPanic ?_
      refine wp_region_held_drew (S := (fun w' => w'.cell? ⟨w.heap.size, 0, none⟩ = some (.int .i64 N) ∧ w'.cell? ⟨w.heap.size, 1, none⟩ = some (.int .i64 f) ∧ w'.cell? ⟨w.heap.size, 2, none⟩ = some (.int .i64 p) ∧ w'.cell? ⟨w.heap.size, 3, none⟩ = some (.int .i64 a) ∧ w'.cell? ⟨w.heap.size, 4, none⟩ = some (.int .i64 l) ∧ w'.cell? ⟨w.heap.size, 5, none⟩ = some (.int .i64 m) ∧ w'.cell? ⟨w.heap.size, 6, none⟩ = some (.slice aK N cK) ∧ w'.cell? ⟨w.heap.size, 7, none⟩ = some (.slice aL N cL) ∧ w'.cell? ⟨w.heap.size, 8, none⟩ = some (.slice (some ⟨b, off, none⟩) N cP) ∧ w'.cell? ⟨w.heap.size, 9, none⟩ = some (.slice none 0 0) ∧ w'.cell? ⟨w.heap.size, 10, none⟩ = some (.int .i64 0) ∧ w'.cell? ⟨w.heap.size, 11, none⟩ = some (.slice none 0 0) ∧ w'.cell? ⟨w.heap.size, 12, none⟩ = some (.slice none 0 0) ∧ w'.cell? ⟨b, off + k * 4, none⟩ = some (.int .i64 (el os k)) ∧ w'.cell? ⟨b, off + k * 4 + 1, none⟩ = some (.int .i64 1) ∧ w'.cell? ⟨b, off + k * 4 + 2, none⟩ = some (.bool false) ∧ w'.cell? ⟨b, off + k * 4 + 3, none⟩ = some (.slice none 0 0) ∧ Hid (Room w' w.heap.size [.int .i64 N, .int .i64 f, .int .i64 p, .int .i64 a, .int .i64 l, .int .i64 m, .slice aK N cK, .slice aL N cL, .slice (some ⟨b, off, none⟩) N cP, .slice none 0 0, .int .i64 0, .slice none 0 0, .slice none 0 0] ∧ Below w.heap.size w w' ∧ New w' N f p a l m aK aL (some ⟨b, off, none⟩) zs os bs))) (by kernel_rfl) ⟨R.cell 0 rfl, R.cell 1 rfl, R.cell 2 rfl, R.cell 3 rfl, R.cell 4 rfl, R.cell 5 rfl, R.cell 6 rfl, R.cell 7 rfl, R.cell 8 rfl, R.cell 9 rfl, R.cell 10 rfl, R.cell 11 rfl, R.cell 12 rfl, hc.1, hc.2.1, hc.2.2.1, hc.2.2.2, ⟨R, B, NW⟩⟩ (fun hHeld => ?_)
      generalize wr.drew = wd at hHeld ⊢
      refine Tk.W 0 (some 82) (.load 35 (.tmp 1)) 35 none ?_
      refine Tk.W 1 (some 83) (.fieldAddr 35 (.tmp 1) 3) 0 none ?_
      refine Tk.W 2 (some 84) (.load 30 (.tmp 83)) 30 none ?_
      refine Tk.W 3 (some 85) (.move (.tmp 4)) 3 none ?_
      refine Tk.W 4 (some 86) (.indexAddr 30 (.tmp 84) (.tmp 85)) 0 none ?_
      refine Tk.W 5 (some 87) (.load 44 (.tmp 86)) 44 none ?_
      refine Tk.R 6 (some 88) (.call ⟨.value (.func 64), #[.tmp 82, .tmp 87], #[35, 44]⟩) 4 none (fun K hK => ?_)
      go_simp
      refine (peer N f p a l m (el os k) aK N cK zs _ _ _ hHeld.2.2.2.2.2.2.2.2.2.2.2.2.2.2.2.2.2.out.2.2.K hHeld.2.2.2.2.2.2.2.2.2.2.2.2.2.2.2.2.2.out.2.2.ko (hHeld.2.2.2.2.2.2.2.2.2.2.2.2.2.2.2.2.2.out.2.2.off k hlt)).mono ?_
      rintro e vqp7 ⟨rfl, bp7⟩
      have lbp7 : b < wd.heap.size := World.block_lt_of_cell? _ ⟨b, off + k * 4, none⟩ hHeld.2.2.2.2.2.2.2.2.2.2.2.2.2.1
      have Rp7 := hHeld.2.2.2.2.2.2.2.2.2.2.2.2.2.2.2.2.2.out.1.below bp7
      have Bp7 := hHeld.2.2.2.2.2.2.2.2.2.2.2.2.2.2.2.2.2.out.2.1.trans (bp7.mono hHeld.2.2.2.2.2.2.2.2.2.2.2.2.2.2.2.2.2.out.2.1.size)
      have Np7 := hHeld.2.2.2.2.2.2.2.2.2.2.2.2.2.2.2.2.2.out.2.2.later bp7
      have k0p7 : vqp7.cell? ⟨b, off + k * 4, none⟩ = _ := (bp7.cell (p := ⟨b, off + k * 4, none⟩) lbp7).trans hHeld.2.2.2.2.2.2.2.2.2.2.2.2.2.1
      have k1p7 : vqp7.cell? ⟨b, off + k * 4 + 1, none⟩ = _ := (bp7.cell (p := ⟨b, off + k * 4 + 1, none⟩) lbp7).trans hHeld.2.2.2.2.2.2.2.2.2.2.2.2.2.2.1
      have k2p7 : vqp7.cell? ⟨b, off + k * 4 + 2, none⟩ = _ := (bp7.cell (p := ⟨b, off + k * 4 + 2, none⟩) lbp7).trans hHeld.2.2.2.2.2.2.2.2.2.2.2.2.2.2.2.1
      have k3p7 : vqp7.cell? ⟨b, off + k * 4 + 3, none⟩ = _ := (bp7.cell (p := ⟨b, off + k * 4 + 3, none⟩) lbp7).trans hHeld.2.2.2.2.2.2.2.2.2.2.2.2.2.2.2.2.1
      clear bp7
      try dsimp only
      refine hK.out _ _ ⟨Rp7.cell 0 rfl, Rp7.cell 1 rfl, Rp7.cell 2 rfl, Rp7.cell 3 rfl, Rp7.cell 4 rfl, Rp7.cell 5 rfl, Rp7.cell 6 rfl, Rp7.cell 7 rfl, Rp7.cell 8 rfl, Rp7.cell 9 rfl, Rp7.cell 10 rfl, Rp7.cell 11 rfl, Rp7.cell 12 rfl, k0p7, k1p7, k2p7, k3p7, ⟨Rp7, Bp7, Np7⟩⟩ ?_; clear hK K hHeld; intro hHeld; try simp only [Act.put, List.setIfInBounds_toArray, List.set_cons_zero, List.set_cons_succ]
      refine Tk.W 7 (some 89) (.unOp .not 4 (.tmp 88)) 4 none ?_
      refine wpAnyH_done (by kernel_rfl) ?_ _
      refine NoPanic.normal ?_
      obtain ⟨_, _, _, _, _, _, _, _, _, _, _, _, _, _, _, _, _, ⟨R, B, NW⟩⟩ := hHeld
      go_wp2
      go_roundw
      case rel => exact ⟨k + 1, by omega, by go_num, ⟨R, B, NW⟩⟩
      case measure => simp [intOf]; omega
    · have hi : ¬ (k : Int) < N := by omega
      have r9 := R.cell 9 rfl
      go_wp2_with fail
      clear r8
      go_loop [5] (fun i => i = .int .i64 0) (fun i => 0)
      case atStart => rfl
      case round =>
        subst hrel
        have r12 := R.cell 12 rfl
        go_wp2_with fail
        go_loop [6, 7] (fun i _ => i = .int .i64 0) (fun i _ => 0)
        case atStart => rfl
        case round =>
          subst hrel
          go_wp2
          go_ret
          exact ⟨rfl, B⟩

end Go.Proofs.YtimakfokgcnklaaGreat.Ct
