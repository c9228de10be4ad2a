/-
  Clocks: whether one is right, what it has paid, by both.
-/
import Derived.Test.YtcgcmceobmpdiaaSpan
import Derived.Test.YtcgcmceobmpdiaaRm
import Derived.Deep.Cut
import Derived.Deep.RegionHeld3
import Derived.Test.YtcgcmceobmpdiaaTk
namespace Go.Proofs.Ytcgcmceobmpdiaa.Ck
open Go.ChangeShapes Go.WideShapes Go.ChangeAt Go.RowKit
open Sp (IN OK LK span retb reti)
open Ad (Tm)
open Rm (Room)
set_option linter.unusedVariables false
set_option linter.unusedSimpArgs false

abbrev clk (h v o : Int) : Value := .agg #[.int .i64 h, .int .i64 v, .int .i64 o]
abbrev c3 (h v o : Int) : List Value := [.int .i64 h, .int .i64 v, .int .i64 o]
/-- A right clock, a right slew. -/
def CK (h v o s : Int) : Bool := decide ((0 ≤ h ∧ h ≤ 1000000000000000) ∧ (-1000000000000000 ≤ v ∧ v ≤ 1000000000000000) ∧ (-1000000000000000 ≤ o ∧ o ≤ 1000000000000000) ∧ 2 ≤ s ∧ s ≤ 100000)
theorem ck_yes {h v o s : Int} (h1 : 0 ≤ h ∧ h ≤ 1000000000000000) (h2 : -1000000000000000 ≤ v ∧ v ≤ 1000000000000000) (h3 : -1000000000000000 ≤ o ∧ o ≤ 1000000000000000) (h4 : 2 ≤ s ∧ s ≤ 100000) : CK h v o s = true := decide_eq_true ⟨h1, h2, h3, h4⟩
theorem ck_no {h v o s : Int} (q : ¬ ((0 ≤ h ∧ h ≤ 1000000000000000) ∧ (-1000000000000000 ≤ v ∧ v ≤ 1000000000000000) ∧ (-1000000000000000 ≤ o ∧ o ≤ 1000000000000000) ∧ 2 ≤ s ∧ s ≤ 100000)) : CK h v o s = false := decide_eq_false q
theorem ck_of {h v o s : Int} (q : CK h v o s = true) : (0 ≤ h ∧ h ≤ 1000000000000000) ∧ (-1000000000000000 ≤ v ∧ v ≤ 1000000000000000) ∧ (-1000000000000000 ≤ o ∧ o ≤ 1000000000000000) ∧ 2 ≤ s ∧ s ≤ 100000 := of_decide_eq_true q
theorem in_yes {lo hi n : Int} (h1 : Tm lo) (h2 : Tm hi) (h3 : lo ≤ n ∧ n ≤ hi) : IN lo hi n = true := by
  unfold IN LK
  rw [Sp.ok_yes h1 h2 (by omega), decide_eq_true h3.1, decide_eq_true h3.2]
  rfl
theorem in_no {lo hi n : Int} (h3 : ¬ (lo ≤ n ∧ n ≤ hi)) : IN lo hi n = false := by
  unfold IN LK
  by_cases h1 : lo ≤ n
  · rw [decide_eq_true h1, decide_eq_false (show ¬ n ≤ hi by omega)]; simp
  · rw [decide_eq_false h1]; simp
theorem lk_yes {lo hi n : Int} (h3 : lo ≤ n ∧ n ≤ hi) : LK lo hi n = false := by
  unfold LK
  rw [decide_eq_true h3.1, decide_eq_true h3.2]; rfl
theorem lk_no {lo hi n : Int} (h3 : ¬ (lo ≤ n ∧ n ≤ hi)) : LK lo hi n = true := by
  unfold LK
  by_cases h1 : lo ≤ n
  · rw [decide_eq_true h1, decide_eq_false (show ¬ n ≤ hi by omega)]; rfl
  · rw [decide_eq_false h1]; rfl

set_option maxHeartbeats 4000000 in
theorem i_ck (p : Nat) (h v o s : Int) (w : World) (R : Room w p (c3 h v o)) :
    Calls Try.prog 32 #[.pointer (some ⟨p, 0, none⟩), .int .i64 s] w fun e w' => e = .returned (.bool (CK h v o s)) ∧ Below w.heap.size w w' := by
  by_cases h0 : 0 ≤ h ∧ h ≤ 1000000000000000
  · by_cases h1 : -1000000000000000 ≤ v ∧ v ≤ 1000000000000000
    · by_cases h2 : -1000000000000000 ≤ o ∧ o ≤ 1000000000000000
      · by_cases h3 : 2 ≤ s ∧ s ≤ 100000
        · rw [ck_yes h0 h1 h2 h3]
          have R1 := (R.alloc (.cells #[.int .i64 (-1000000000000000), .int .i64 1000000000000000] 67))
          have R2 := Room.new w [.int .i64 (-1000000000000000), .int .i64 1000000000000000] 67
          have BB := (Below.refl w.heap.size w).alloc (Nat.le_refl _) (.cells #[.int .i64 (-1000000000000000), .int .i64 1000000000000000] 67)
          replace R1 := R1.drew
          replace R2 := R2.drew
          replace BB := BB.drew
          go_enter Try.func32, Try.ntmps32
          go_wp2_with fail
          clear R
          refine wp_region_noPanic ?_
          refine wp_region_held_drew (S := (fun w' => w'.cell? ⟨p, 0, none⟩ = some (.int .i64 h) ∧ w'.cell? ⟨p, 1, none⟩ = some (.int .i64 v) ∧ w'.cell? ⟨p, 2, none⟩ = some (.int .i64 o) ∧ w'.cell? ⟨w.heap.size, 0, none⟩ = some (.int .i64 (-1000000000000000)) ∧ w'.cell? ⟨w.heap.size, 1, none⟩ = some (.int .i64 1000000000000000) ∧ Hid (Room w' p (c3 h v o) ∧ Room w' w.heap.size [.int .i64 (-1000000000000000), .int .i64 1000000000000000] ∧ Below w.heap.size w w'))) (by kernel_rfl) ⟨R1.cell 0 rfl, R1.cell 1 rfl, R1.cell 2 rfl, R2.cell 0 rfl, R2.cell 1 rfl, ⟨R1, R2, BB⟩⟩ (fun hHeld => ?_)
          refine Tk.W 0 (some 7) (.build 67 #[(0, .const (.int .i64 0)), (1, .const (.int .i64 1000000000000000))]) 67 none ?_
          refine Tk.W 1 (some 8) (.move (.tmp 0)) 49 none ?_
          refine Tk.W 2 (some 9) (.nilCheck (.tmp 8)) 0 none ?_
          refine Tk.W 3 (some 10) (.fieldAddr 29 (.tmp 9) 0) 0 none ?_
          refine Tk.W 4 (some 11) (.load 2 (.tmp 10)) 2 none ?_
          refine Tk.R 5 (some 12) (.call ⟨.value (.func 42), #[.tmp 7, .tmp 11], #[67, 2]⟩) 4 none (fun K hK => ?_)
          go_simp
          refine (Sp.i_InSpan 0 1000000000000000 h _).mono ?_
          rintro e vq46 ⟨rfl, b_q46⟩
          rw [in_yes (by omega) (by omega) h0]
          have ra_q46 := hHeld.2.2.2.2.2.out.1.below b_q46
          have rb_q46 := hHeld.2.2.2.2.2.out.2.1.below b_q46
          have bb_q46 := hHeld.2.2.2.2.2.out.2.2.trans (b_q46.mono hHeld.2.2.2.2.2.out.2.2.size)
          have kvq46 := Tk.kv hK (w := vq46) ⟨ra_q46.cell 0 rfl, ra_q46.cell 1 rfl, ra_q46.cell 2 rfl, rb_q46.cell 0 rfl, rb_q46.cell 1 rfl, ⟨ra_q46, rb_q46, bb_q46⟩⟩
          clear ra_q46 rb_q46 bb_q46 b_q46
          try dsimp only
          refine hK.out _ _ kvq46 ?_; clear hK K hHeld; intro hHeld; try simp only [Act.put, List.setIfInBounds_toArray, List.set_cons_zero, List.set_cons_succ]
          refine Tk.W 6 (some 13) (.move (.tmp 12)) 4 none ?_
          refine Tk.W 7 (some 14) (.load 67 (.tmp 5)) 67 (some (6, true)) ?_
          refine Tk.W 8 (some 15) (.move (.tmp 0)) 49 (some (6, true)) ?_
          refine Tk.W 9 (some 16) (.nilCheck (.tmp 15)) 0 (some (6, true)) ?_
          refine Tk.W 10 (some 17) (.fieldAddr 29 (.tmp 16) 1) 0 (some (6, true)) ?_
          refine Tk.W 11 (some 18) (.load 2 (.tmp 17)) 2 (some (6, true)) ?_
          refine Tk.R 12 (some 19) (.call ⟨.value (.func 42), #[.tmp 14, .tmp 18], #[67, 2]⟩) 4 (some (6, true)) (fun K hK => ?_)
          go_simp
          refine (Sp.i_InSpan (-1000000000000000) 1000000000000000 v _).mono ?_
          rintro e vq413 ⟨rfl, b_q413⟩
          rw [in_yes (by omega) (by omega) h1]
          have ra_q413 := hHeld.2.2.2.2.2.out.1.below b_q413
          have rb_q413 := hHeld.2.2.2.2.2.out.2.1.below b_q413
          have bb_q413 := hHeld.2.2.2.2.2.out.2.2.trans (b_q413.mono hHeld.2.2.2.2.2.out.2.2.size)
          have kvq413 := Tk.kv hK (w := vq413) ⟨ra_q413.cell 0 rfl, ra_q413.cell 1 rfl, ra_q413.cell 2 rfl, rb_q413.cell 0 rfl, rb_q413.cell 1 rfl, ⟨ra_q413, rb_q413, bb_q413⟩⟩
          clear ra_q413 rb_q413 bb_q413 b_q413
          try dsimp only
          refine hK.out _ _ kvq413 ?_; clear hK K hHeld; intro hHeld; try simp only [Act.put, List.setIfInBounds_toArray, List.set_cons_zero, List.set_cons_succ]
          refine Tk.W 13 (some 20) (.pick (.tmp 13) (.tmp 19) (.const (.bool false))) 4 none ?_
          refine Tk.W 14 (some 21) (.move (.tmp 20)) 4 none ?_
          refine Tk.W 15 (some 22) (.load 67 (.tmp 5)) 67 (some (14, true)) ?_
          refine Tk.W 16 (some 23) (.move (.tmp 0)) 49 (some (14, true)) ?_
          refine Tk.W 17 (some 24) (.nilCheck (.tmp 23)) 0 (some (14, true)) ?_
          refine Tk.W 18 (some 25) (.fieldAddr 29 (.tmp 24) 2) 0 (some (14, true)) ?_
          refine Tk.W 19 (some 26) (.load 2 (.tmp 25)) 2 (some (14, true)) ?_
          refine Tk.R 20 (some 27) (.call ⟨.value (.func 42), #[.tmp 22, .tmp 26], #[67, 2]⟩) 4 (some (14, true)) (fun K hK => ?_)
          go_simp
          refine (Sp.i_InSpan (-1000000000000000) 1000000000000000 o _).mono ?_
          rintro e vq421 ⟨rfl, b_q421⟩
          rw [in_yes (by omega) (by omega) h2]
          have ra_q421 := hHeld.2.2.2.2.2.out.1.below b_q421
          have rb_q421 := hHeld.2.2.2.2.2.out.2.1.below b_q421
          have bb_q421 := hHeld.2.2.2.2.2.out.2.2.trans (b_q421.mono hHeld.2.2.2.2.2.out.2.2.size)
          have kvq421 := Tk.kv hK (w := vq421) ⟨ra_q421.cell 0 rfl, ra_q421.cell 1 rfl, ra_q421.cell 2 rfl, rb_q421.cell 0 rfl, rb_q421.cell 1 rfl, ⟨ra_q421, rb_q421, bb_q421⟩⟩
          clear ra_q421 rb_q421 bb_q421 b_q421
          try dsimp only
          refine hK.out _ _ kvq421 ?_; clear hK K hHeld; intro hHeld; try simp only [Act.put, List.setIfInBounds_toArray, List.set_cons_zero, List.set_cons_succ]
          refine Tk.W 21 (some 28) (.pick (.tmp 21) (.tmp 27) (.const (.bool false))) 4 none ?_
          refine Tk.W 22 (some 29) (.move (.tmp 28)) 4 none ?_
          refine Tk.W 23 (some 30) (.build 67 #[(0, .const (.int .i64 2)), (1, .const (.int .i64 100000))]) 67 (some (22, true)) ?_
          refine Tk.W 24 (some 31) (.move (.tmp 1)) 2 (some (22, true)) ?_
          refine Tk.R 25 (some 32) (.call ⟨.value (.func 42), #[.tmp 30, .tmp 31], #[67, 2]⟩) 4 (some (22, true)) (fun K hK => ?_)
          go_simp
          refine (Sp.i_InSpan 2 100000 s _).mono ?_
          rintro e vq426 ⟨rfl, b_q426⟩
          rw [in_yes (by omega) (by omega) h3]
          have ra_q426 := hHeld.2.2.2.2.2.out.1.below b_q426
          have rb_q426 := hHeld.2.2.2.2.2.out.2.1.below b_q426
          have bb_q426 := hHeld.2.2.2.2.2.out.2.2.trans (b_q426.mono hHeld.2.2.2.2.2.out.2.2.size)
          have kvq426 := Tk.kv hK (w := vq426) ⟨ra_q426.cell 0 rfl, ra_q426.cell 1 rfl, ra_q426.cell 2 rfl, rb_q426.cell 0 rfl, rb_q426.cell 1 rfl, ⟨ra_q426, rb_q426, bb_q426⟩⟩
          clear ra_q426 rb_q426 bb_q426 b_q426
          try dsimp only
          refine hK.out _ _ kvq426 ?_; clear hK K hHeld; intro hHeld; try simp only [Act.put, List.setIfInBounds_toArray, List.set_cons_zero, List.set_cons_succ]
          refine Tk.W 26 (some 33) (.pick (.tmp 29) (.tmp 32) (.const (.bool false))) 4 none ?_
          refine Tk.W 27 (some 4) (.assign (.tmp 33)) 4 none ?_
          refine wpAnyH_done (by kernel_rfl) ?_ _
          refine NoPanic.normal ?_
          clear R1 R2 BB
          obtain ⟨R1, R2, BB⟩ := hHeld.2.2.2.2.2.out
          clear hHeld
          go_wp2_with fail
          go_ret
          exact ⟨rfl, BB⟩
        · rw [ck_no (fun q => h3 q.2.2.2)]
          have R1 := (R.alloc (.cells #[.int .i64 (-1000000000000000), .int .i64 1000000000000000] 67))
          have R2 := Room.new w [.int .i64 (-1000000000000000), .int .i64 1000000000000000] 67
          have BB := (Below.refl w.heap.size w).alloc (Nat.le_refl _) (.cells #[.int .i64 (-1000000000000000), .int .i64 1000000000000000] 67)
          replace R1 := R1.drew
          replace R2 := R2.drew
          replace BB := BB.drew
          go_enter Try.func32, Try.ntmps32
          go_wp2_with fail
          clear R
          refine wp_region_noPanic ?_
          refine wp_region_held_drew (S := (fun w' => w'.cell? ⟨p, 0, none⟩ = some (.int .i64 h) ∧ w'.cell? ⟨p, 1, none⟩ = some (.int .i64 v) ∧ w'.cell? ⟨p, 2, none⟩ = some (.int .i64 o) ∧ w'.cell? ⟨w.heap.size, 0, none⟩ = some (.int .i64 (-1000000000000000)) ∧ w'.cell? ⟨w.heap.size, 1, none⟩ = some (.int .i64 1000000000000000) ∧ Hid (Room w' p (c3 h v o) ∧ Room w' w.heap.size [.int .i64 (-1000000000000000), .int .i64 1000000000000000] ∧ Below w.heap.size w w'))) (by kernel_rfl) ⟨R1.cell 0 rfl, R1.cell 1 rfl, R1.cell 2 rfl, R2.cell 0 rfl, R2.cell 1 rfl, ⟨R1, R2, BB⟩⟩ (fun hHeld => ?_)
          refine Tk.W 0 (some 7) (.build 67 #[(0, .const (.int .i64 0)), (1, .const (.int .i64 1000000000000000))]) 67 none ?_
          refine Tk.W 1 (some 8) (.move (.tmp 0)) 49 none ?_
          refine Tk.W 2 (some 9) (.nilCheck (.tmp 8)) 0 none ?_
          refine Tk.W 3 (some 10) (.fieldAddr 29 (.tmp 9) 0) 0 none ?_
          refine Tk.W 4 (some 11) (.load 2 (.tmp 10)) 2 none ?_
          refine Tk.R 5 (some 12) (.call ⟨.value (.func 42), #[.tmp 7, .tmp 11], #[67, 2]⟩) 4 none (fun K hK => ?_)
          go_simp
          refine (Sp.i_InSpan 0 1000000000000000 h _).mono ?_
          rintro e vq36 ⟨rfl, b_q36⟩
          rw [in_yes (by omega) (by omega) h0]
          have ra_q36 := hHeld.2.2.2.2.2.out.1.below b_q36
          have rb_q36 := hHeld.2.2.2.2.2.out.2.1.below b_q36
          have bb_q36 := hHeld.2.2.2.2.2.out.2.2.trans (b_q36.mono hHeld.2.2.2.2.2.out.2.2.size)
          have kvq36 := Tk.kv hK (w := vq36) ⟨ra_q36.cell 0 rfl, ra_q36.cell 1 rfl, ra_q36.cell 2 rfl, rb_q36.cell 0 rfl, rb_q36.cell 1 rfl, ⟨ra_q36, rb_q36, bb_q36⟩⟩
          clear ra_q36 rb_q36 bb_q36 b_q36
          try dsimp only
          refine hK.out _ _ kvq36 ?_; clear hK K hHeld; intro hHeld; try simp only [Act.put, List.setIfInBounds_toArray, List.set_cons_zero, List.set_cons_succ]
          refine Tk.W 6 (some 13) (.move (.tmp 12)) 4 none ?_
          refine Tk.W 7 (some 14) (.load 67 (.tmp 5)) 67 (some (6, true)) ?_
          refine Tk.W 8 (some 15) (.move (.tmp 0)) 49 (some (6, true)) ?_
          refine Tk.W 9 (some 16) (.nilCheck (.tmp 15)) 0 (some (6, true)) ?_
          refine Tk.W 10 (some 17) (.fieldAddr 29 (.tmp 16) 1) 0 (some (6, true)) ?_
          refine Tk.W 11 (some 18) (.load 2 (.tmp 17)) 2 (some (6, true)) ?_
          refine Tk.R 12 (some 19) (.call ⟨.value (.func 42), #[.tmp 14, .tmp 18], #[67, 2]⟩) 4 (some (6, true)) (fun K hK => ?_)
          go_simp
          refine (Sp.i_InSpan (-1000000000000000) 1000000000000000 v _).mono ?_
          rintro e vq313 ⟨rfl, b_q313⟩
          rw [in_yes (by omega) (by omega) h1]
          have ra_q313 := hHeld.2.2.2.2.2.out.1.below b_q313
          have rb_q313 := hHeld.2.2.2.2.2.out.2.1.below b_q313
          have bb_q313 := hHeld.2.2.2.2.2.out.2.2.trans (b_q313.mono hHeld.2.2.2.2.2.out.2.2.size)
          have kvq313 := Tk.kv hK (w := vq313) ⟨ra_q313.cell 0 rfl, ra_q313.cell 1 rfl, ra_q313.cell 2 rfl, rb_q313.cell 0 rfl, rb_q313.cell 1 rfl, ⟨ra_q313, rb_q313, bb_q313⟩⟩
          clear ra_q313 rb_q313 bb_q313 b_q313
          try dsimp only
          refine hK.out _ _ kvq313 ?_; clear hK K hHeld; intro hHeld; try simp only [Act.put, List.setIfInBounds_toArray, List.set_cons_zero, List.set_cons_succ]
          refine Tk.W 13 (some 20) (.pick (.tmp 13) (.tmp 19) (.const (.bool false))) 4 none ?_
          refine Tk.W 14 (some 21) (.move (.tmp 20)) 4 none ?_
          refine Tk.W 15 (some 22) (.load 67 (.tmp 5)) 67 (some (14, true)) ?_
          refine Tk.W 16 (some 23) (.move (.tmp 0)) 49 (some (14, true)) ?_
          refine Tk.W 17 (some 24) (.nilCheck (.tmp 23)) 0 (some (14, true)) ?_
          refine Tk.W 18 (some 25) (.fieldAddr 29 (.tmp 24) 2) 0 (some (14, true)) ?_
          refine Tk.W 19 (some 26) (.load 2 (.tmp 25)) 2 (some (14, true)) ?_
          refine Tk.R 20 (some 27) (.call ⟨.value (.func 42), #[.tmp 22, .tmp 26], #[67, 2]⟩) 4 (some (14, true)) (fun K hK => ?_)
          go_simp
          refine (Sp.i_InSpan (-1000000000000000) 1000000000000000 o _).mono ?_
          rintro e vq321 ⟨rfl, b_q321⟩
          rw [in_yes (by omega) (by omega) h2]
          have ra_q321 := hHeld.2.2.2.2.2.out.1.below b_q321
          have rb_q321 := hHeld.2.2.2.2.2.out.2.1.below b_q321
          have bb_q321 := hHeld.2.2.2.2.2.out.2.2.trans (b_q321.mono hHeld.2.2.2.2.2.out.2.2.size)
          have kvq321 := Tk.kv hK (w := vq321) ⟨ra_q321.cell 0 rfl, ra_q321.cell 1 rfl, ra_q321.cell 2 rfl, rb_q321.cell 0 rfl, rb_q321.cell 1 rfl, ⟨ra_q321, rb_q321, bb_q321⟩⟩
          clear ra_q321 rb_q321 bb_q321 b_q321
          try dsimp only
          refine hK.out _ _ kvq321 ?_; clear hK K hHeld; intro hHeld; try simp only [Act.put, List.setIfInBounds_toArray, List.set_cons_zero, List.set_cons_succ]
          refine Tk.W 21 (some 28) (.pick (.tmp 21) (.tmp 27) (.const (.bool false))) 4 none ?_
          refine Tk.W 22 (some 29) (.move (.tmp 28)) 4 none ?_
          refine Tk.W 23 (some 30) (.build 67 #[(0, .const (.int .i64 2)), (1, .const (.int .i64 100000))]) 67 (some (22, true)) ?_
          refine Tk.W 24 (some 31) (.move (.tmp 1)) 2 (some (22, true)) ?_
          refine Tk.R 25 (some 32) (.call ⟨.value (.func 42), #[.tmp 30, .tmp 31], #[67, 2]⟩) 4 (some (22, true)) (fun K hK => ?_)
          go_simp
          refine (Sp.i_InSpan 2 100000 s _).mono ?_
          rintro e vq326 ⟨rfl, b_q326⟩
          rw [in_no h3]
          have ra_q326 := hHeld.2.2.2.2.2.out.1.below b_q326
          have rb_q326 := hHeld.2.2.2.2.2.out.2.1.below b_q326
          have bb_q326 := hHeld.2.2.2.2.2.out.2.2.trans (b_q326.mono hHeld.2.2.2.2.2.out.2.2.size)
          have kvq326 := Tk.kv hK (w := vq326) ⟨ra_q326.cell 0 rfl, ra_q326.cell 1 rfl, ra_q326.cell 2 rfl, rb_q326.cell 0 rfl, rb_q326.cell 1 rfl, ⟨ra_q326, rb_q326, bb_q326⟩⟩
          clear ra_q326 rb_q326 bb_q326 b_q326
          try dsimp only
          refine hK.out _ _ kvq326 ?_; clear hK K hHeld; intro hHeld; try simp only [Act.put, List.setIfInBounds_toArray, List.set_cons_zero, List.set_cons_succ]
          refine Tk.W 26 (some 33) (.pick (.tmp 29) (.tmp 32) (.const (.bool false))) 4 none ?_
          refine Tk.W 27 (some 4) (.assign (.tmp 33)) 4 none ?_
          refine wpAnyH_done (by kernel_rfl) ?_ _
          refine NoPanic.normal ?_
          clear R1 R2 BB
          obtain ⟨R1, R2, BB⟩ := hHeld.2.2.2.2.2.out
          clear hHeld
          go_wp2_with fail
          go_ret
          exact ⟨rfl, BB⟩
      · rw [ck_no (fun q => h2 q.2.2.1)]
        have R1 := (R.alloc (.cells #[.int .i64 (-1000000000000000), .int .i64 1000000000000000] 67))
        have R2 := Room.new w [.int .i64 (-1000000000000000), .int .i64 1000000000000000] 67
        have BB := (Below.refl w.heap.size w).alloc (Nat.le_refl _) (.cells #[.int .i64 (-1000000000000000), .int .i64 1000000000000000] 67)
        replace R1 := R1.drew
        replace R2 := R2.drew
        replace BB := BB.drew
        go_enter Try.func32, Try.ntmps32
        go_wp2_with fail
        clear R
        refine wp_region_noPanic ?_
        refine wp_region_held_drew (S := (fun w' => w'.cell? ⟨p, 0, none⟩ = some (.int .i64 h) ∧ w'.cell? ⟨p, 1, none⟩ = some (.int .i64 v) ∧ w'.cell? ⟨p, 2, none⟩ = some (.int .i64 o) ∧ w'.cell? ⟨w.heap.size, 0, none⟩ = some (.int .i64 (-1000000000000000)) ∧ w'.cell? ⟨w.heap.size, 1, none⟩ = some (.int .i64 1000000000000000) ∧ Hid (Room w' p (c3 h v o) ∧ Room w' w.heap.size [.int .i64 (-1000000000000000), .int .i64 1000000000000000] ∧ Below w.heap.size w w'))) (by kernel_rfl) ⟨R1.cell 0 rfl, R1.cell 1 rfl, R1.cell 2 rfl, R2.cell 0 rfl, R2.cell 1 rfl, ⟨R1, R2, BB⟩⟩ (fun hHeld => ?_)
        refine Tk.W 0 (some 7) (.build 67 #[(0, .const (.int .i64 0)), (1, .const (.int .i64 1000000000000000))]) 67 none ?_
        refine Tk.W 1 (some 8) (.move (.tmp 0)) 49 none ?_
        refine Tk.W 2 (some 9) (.nilCheck (.tmp 8)) 0 none ?_
        refine Tk.W 3 (some 10) (.fieldAddr 29 (.tmp 9) 0) 0 none ?_
        refine Tk.W 4 (some 11) (.load 2 (.tmp 10)) 2 none ?_
        refine Tk.R 5 (some 12) (.call ⟨.value (.func 42), #[.tmp 7, .tmp 11], #[67, 2]⟩) 4 none (fun K hK => ?_)
        go_simp
        refine (Sp.i_InSpan 0 1000000000000000 h _).mono ?_
        rintro e vq26 ⟨rfl, b_q26⟩
        rw [in_yes (by omega) (by omega) h0]
        have ra_q26 := hHeld.2.2.2.2.2.out.1.below b_q26
        have rb_q26 := hHeld.2.2.2.2.2.out.2.1.below b_q26
        have bb_q26 := hHeld.2.2.2.2.2.out.2.2.trans (b_q26.mono hHeld.2.2.2.2.2.out.2.2.size)
        have kvq26 := Tk.kv hK (w := vq26) ⟨ra_q26.cell 0 rfl, ra_q26.cell 1 rfl, ra_q26.cell 2 rfl, rb_q26.cell 0 rfl, rb_q26.cell 1 rfl, ⟨ra_q26, rb_q26, bb_q26⟩⟩
        clear ra_q26 rb_q26 bb_q26 b_q26
        try dsimp only
        refine hK.out _ _ kvq26 ?_; clear hK K hHeld; intro hHeld; try simp only [Act.put, List.setIfInBounds_toArray, List.set_cons_zero, List.set_cons_succ]
        refine Tk.W 6 (some 13) (.move (.tmp 12)) 4 none ?_
        refine Tk.W 7 (some 14) (.load 67 (.tmp 5)) 67 (some (6, true)) ?_
        refine Tk.W 8 (some 15) (.move (.tmp 0)) 49 (some (6, true)) ?_
        refine Tk.W 9 (some 16) (.nilCheck (.tmp 15)) 0 (some (6, true)) ?_
        refine Tk.W 10 (some 17) (.fieldAddr 29 (.tmp 16) 1) 0 (some (6, true)) ?_
        refine Tk.W 11 (some 18) (.load 2 (.tmp 17)) 2 (some (6, true)) ?_
        refine Tk.R 12 (some 19) (.call ⟨.value (.func 42), #[.tmp 14, .tmp 18], #[67, 2]⟩) 4 (some (6, true)) (fun K hK => ?_)
        go_simp
        refine (Sp.i_InSpan (-1000000000000000) 1000000000000000 v _).mono ?_
        rintro e vq213 ⟨rfl, b_q213⟩
        rw [in_yes (by omega) (by omega) h1]
        have ra_q213 := hHeld.2.2.2.2.2.out.1.below b_q213
        have rb_q213 := hHeld.2.2.2.2.2.out.2.1.below b_q213
        have bb_q213 := hHeld.2.2.2.2.2.out.2.2.trans (b_q213.mono hHeld.2.2.2.2.2.out.2.2.size)
        have kvq213 := Tk.kv hK (w := vq213) ⟨ra_q213.cell 0 rfl, ra_q213.cell 1 rfl, ra_q213.cell 2 rfl, rb_q213.cell 0 rfl, rb_q213.cell 1 rfl, ⟨ra_q213, rb_q213, bb_q213⟩⟩
        clear ra_q213 rb_q213 bb_q213 b_q213
        try dsimp only
        refine hK.out _ _ kvq213 ?_; clear hK K hHeld; intro hHeld; try simp only [Act.put, List.setIfInBounds_toArray, List.set_cons_zero, List.set_cons_succ]
        refine Tk.W 13 (some 20) (.pick (.tmp 13) (.tmp 19) (.const (.bool false))) 4 none ?_
        refine Tk.W 14 (some 21) (.move (.tmp 20)) 4 none ?_
        refine Tk.W 15 (some 22) (.load 67 (.tmp 5)) 67 (some (14, true)) ?_
        refine Tk.W 16 (some 23) (.move (.tmp 0)) 49 (some (14, true)) ?_
        refine Tk.W 17 (some 24) (.nilCheck (.tmp 23)) 0 (some (14, true)) ?_
        refine Tk.W 18 (some 25) (.fieldAddr 29 (.tmp 24) 2) 0 (some (14, true)) ?_
        refine Tk.W 19 (some 26) (.load 2 (.tmp 25)) 2 (some (14, true)) ?_
        refine Tk.R 20 (some 27) (.call ⟨.value (.func 42), #[.tmp 22, .tmp 26], #[67, 2]⟩) 4 (some (14, true)) (fun K hK => ?_)
        go_simp
        refine (Sp.i_InSpan (-1000000000000000) 1000000000000000 o _).mono ?_
        rintro e vq221 ⟨rfl, b_q221⟩
        rw [in_no h2]
        have ra_q221 := hHeld.2.2.2.2.2.out.1.below b_q221
        have rb_q221 := hHeld.2.2.2.2.2.out.2.1.below b_q221
        have bb_q221 := hHeld.2.2.2.2.2.out.2.2.trans (b_q221.mono hHeld.2.2.2.2.2.out.2.2.size)
        have kvq221 := Tk.kv hK (w := vq221) ⟨ra_q221.cell 0 rfl, ra_q221.cell 1 rfl, ra_q221.cell 2 rfl, rb_q221.cell 0 rfl, rb_q221.cell 1 rfl, ⟨ra_q221, rb_q221, bb_q221⟩⟩
        clear ra_q221 rb_q221 bb_q221 b_q221
        try dsimp only
        refine hK.out _ _ kvq221 ?_; clear hK K hHeld; intro hHeld; try simp only [Act.put, List.setIfInBounds_toArray, List.set_cons_zero, List.set_cons_succ]
        refine Tk.W 21 (some 28) (.pick (.tmp 21) (.tmp 27) (.const (.bool false))) 4 none ?_
        refine Tk.W 22 (some 29) (.move (.tmp 28)) 4 none ?_
        refine Tk.N 23 (some 30) (.build 67 #[(0, .const (.int .i64 2)), (1, .const (.int .i64 100000))]) 67 (some (22, true)) ?_
        refine Tk.N 24 (some 31) (.move (.tmp 1)) 2 (some (22, true)) ?_
        refine Tk.N 25 (some 32) (.call ⟨.value (.func 42), #[.tmp 30, .tmp 31], #[67, 2]⟩) 4 (some (22, true)) ?_
        refine Tk.W 26 (some 33) (.pick (.tmp 29) (.tmp 32) (.const (.bool false))) 4 none ?_
        refine Tk.W 27 (some 4) (.assign (.tmp 33)) 4 none ?_
        refine wpAnyH_done (by kernel_rfl) ?_ _
        refine NoPanic.normal ?_
        clear R1 R2 BB
        obtain ⟨R1, R2, BB⟩ := hHeld.2.2.2.2.2.out
        clear hHeld
        go_wp2_with fail
        go_ret
        exact ⟨rfl, BB⟩
    · rw [ck_no (fun q => h1 q.2.1)]
      have R1 := (R.alloc (.cells #[.int .i64 (-1000000000000000), .int .i64 1000000000000000] 67))
      have R2 := Room.new w [.int .i64 (-1000000000000000), .int .i64 1000000000000000] 67
      have BB := (Below.refl w.heap.size w).alloc (Nat.le_refl _) (.cells #[.int .i64 (-1000000000000000), .int .i64 1000000000000000] 67)
      replace R1 := R1.drew
      replace R2 := R2.drew
      replace BB := BB.drew
      go_enter Try.func32, Try.ntmps32
      go_wp2_with fail
      clear R
      refine wp_region_noPanic ?_
      refine wp_region_held_drew (S := (fun w' => w'.cell? ⟨p, 0, none⟩ = some (.int .i64 h) ∧ w'.cell? ⟨p, 1, none⟩ = some (.int .i64 v) ∧ w'.cell? ⟨p, 2, none⟩ = some (.int .i64 o) ∧ w'.cell? ⟨w.heap.size, 0, none⟩ = some (.int .i64 (-1000000000000000)) ∧ w'.cell? ⟨w.heap.size, 1, none⟩ = some (.int .i64 1000000000000000) ∧ Hid (Room w' p (c3 h v o) ∧ Room w' w.heap.size [.int .i64 (-1000000000000000), .int .i64 1000000000000000] ∧ Below w.heap.size w w'))) (by kernel_rfl) ⟨R1.cell 0 rfl, R1.cell 1 rfl, R1.cell 2 rfl, R2.cell 0 rfl, R2.cell 1 rfl, ⟨R1, R2, BB⟩⟩ (fun hHeld => ?_)
      refine Tk.W 0 (some 7) (.build 67 #[(0, .const (.int .i64 0)), (1, .const (.int .i64 1000000000000000))]) 67 none ?_
      refine Tk.W 1 (some 8) (.move (.tmp 0)) 49 none ?_
      refine Tk.W 2 (some 9) (.nilCheck (.tmp 8)) 0 none ?_
      refine Tk.W 3 (some 10) (.fieldAddr 29 (.tmp 9) 0) 0 none ?_
      refine Tk.W 4 (some 11) (.load 2 (.tmp 10)) 2 none ?_
      refine Tk.R 5 (some 12) (.call ⟨.value (.func 42), #[.tmp 7, .tmp 11], #[67, 2]⟩) 4 none (fun K hK => ?_)
      go_simp
      refine (Sp.i_InSpan 0 1000000000000000 h _).mono ?_
      rintro e vq16 ⟨rfl, b_q16⟩
      rw [in_yes (by omega) (by omega) h0]
      have ra_q16 := hHeld.2.2.2.2.2.out.1.below b_q16
      have rb_q16 := hHeld.2.2.2.2.2.out.2.1.below b_q16
      have bb_q16 := hHeld.2.2.2.2.2.out.2.2.trans (b_q16.mono hHeld.2.2.2.2.2.out.2.2.size)
      have kvq16 := Tk.kv hK (w := vq16) ⟨ra_q16.cell 0 rfl, ra_q16.cell 1 rfl, ra_q16.cell 2 rfl, rb_q16.cell 0 rfl, rb_q16.cell 1 rfl, ⟨ra_q16, rb_q16, bb_q16⟩⟩
      clear ra_q16 rb_q16 bb_q16 b_q16
      try dsimp only
      refine hK.out _ _ kvq16 ?_; clear hK K hHeld; intro hHeld; try simp only [Act.put, List.setIfInBounds_toArray, List.set_cons_zero, List.set_cons_succ]
      refine Tk.W 6 (some 13) (.move (.tmp 12)) 4 none ?_
      refine Tk.W 7 (some 14) (.load 67 (.tmp 5)) 67 (some (6, true)) ?_
      refine Tk.W 8 (some 15) (.move (.tmp 0)) 49 (some (6, true)) ?_
      refine Tk.W 9 (some 16) (.nilCheck (.tmp 15)) 0 (some (6, true)) ?_
      refine Tk.W 10 (some 17) (.fieldAddr 29 (.tmp 16) 1) 0 (some (6, true)) ?_
      refine Tk.W 11 (some 18) (.load 2 (.tmp 17)) 2 (some (6, true)) ?_
      refine Tk.R 12 (some 19) (.call ⟨.value (.func 42), #[.tmp 14, .tmp 18], #[67, 2]⟩) 4 (some (6, true)) (fun K hK => ?_)
      go_simp
      refine (Sp.i_InSpan (-1000000000000000) 1000000000000000 v _).mono ?_
      rintro e vq113 ⟨rfl, b_q113⟩
      rw [in_no h1]
      have ra_q113 := hHeld.2.2.2.2.2.out.1.below b_q113
      have rb_q113 := hHeld.2.2.2.2.2.out.2.1.below b_q113
      have bb_q113 := hHeld.2.2.2.2.2.out.2.2.trans (b_q113.mono hHeld.2.2.2.2.2.out.2.2.size)
      have kvq113 := Tk.kv hK (w := vq113) ⟨ra_q113.cell 0 rfl, ra_q113.cell 1 rfl, ra_q113.cell 2 rfl, rb_q113.cell 0 rfl, rb_q113.cell 1 rfl, ⟨ra_q113, rb_q113, bb_q113⟩⟩
      clear ra_q113 rb_q113 bb_q113 b_q113
      try dsimp only
      refine hK.out _ _ kvq113 ?_; clear hK K hHeld; intro hHeld; try simp only [Act.put, List.setIfInBounds_toArray, List.set_cons_zero, List.set_cons_succ]
      refine Tk.W 13 (some 20) (.pick (.tmp 13) (.tmp 19) (.const (.bool false))) 4 none ?_
      refine Tk.W 14 (some 21) (.move (.tmp 20)) 4 none ?_
      refine Tk.N 15 (some 22) (.load 67 (.tmp 5)) 67 (some (14, true)) ?_
      refine Tk.N 16 (some 23) (.move (.tmp 0)) 49 (some (14, true)) ?_
      refine Tk.N 17 (some 24) (.nilCheck (.tmp 23)) 0 (some (14, true)) ?_
      refine Tk.N 18 (some 25) (.fieldAddr 29 (.tmp 24) 2) 0 (some (14, true)) ?_
      refine Tk.N 19 (some 26) (.load 2 (.tmp 25)) 2 (some (14, true)) ?_
      refine Tk.N 20 (some 27) (.call ⟨.value (.func 42), #[.tmp 22, .tmp 26], #[67, 2]⟩) 4 (some (14, true)) ?_
      refine Tk.W 21 (some 28) (.pick (.tmp 21) (.tmp 27) (.const (.bool false))) 4 none ?_
      refine Tk.W 22 (some 29) (.move (.tmp 28)) 4 none ?_
      refine Tk.N 23 (some 30) (.build 67 #[(0, .const (.int .i64 2)), (1, .const (.int .i64 100000))]) 67 (some (22, true)) ?_
      refine Tk.N 24 (some 31) (.move (.tmp 1)) 2 (some (22, true)) ?_
      refine Tk.N 25 (some 32) (.call ⟨.value (.func 42), #[.tmp 30, .tmp 31], #[67, 2]⟩) 4 (some (22, true)) ?_
      refine Tk.W 26 (some 33) (.pick (.tmp 29) (.tmp 32) (.const (.bool false))) 4 none ?_
      refine Tk.W 27 (some 4) (.assign (.tmp 33)) 4 none ?_
      refine wpAnyH_done (by kernel_rfl) ?_ _
      refine NoPanic.normal ?_
      clear R1 R2 BB
      obtain ⟨R1, R2, BB⟩ := hHeld.2.2.2.2.2.out
      clear hHeld
      go_wp2_with fail
      go_ret
      exact ⟨rfl, BB⟩
  · rw [ck_no (fun q => h0 q.1)]
    have R1 := (R.alloc (.cells #[.int .i64 (-1000000000000000), .int .i64 1000000000000000] 67))
    have R2 := Room.new w [.int .i64 (-1000000000000000), .int .i64 1000000000000000] 67
    have BB := (Below.refl w.heap.size w).alloc (Nat.le_refl _) (.cells #[.int .i64 (-1000000000000000), .int .i64 1000000000000000] 67)
    replace R1 := R1.drew
    replace R2 := R2.drew
    replace BB := BB.drew
    go_enter Try.func32, Try.ntmps32
    go_wp2_with fail
    clear R
    refine wp_region_noPanic ?_
    refine wp_region_held_drew (S := (fun w' => w'.cell? ⟨p, 0, none⟩ = some (.int .i64 h) ∧ w'.cell? ⟨p, 1, none⟩ = some (.int .i64 v) ∧ w'.cell? ⟨p, 2, none⟩ = some (.int .i64 o) ∧ w'.cell? ⟨w.heap.size, 0, none⟩ = some (.int .i64 (-1000000000000000)) ∧ w'.cell? ⟨w.heap.size, 1, none⟩ = some (.int .i64 1000000000000000) ∧ Hid (Room w' p (c3 h v o) ∧ Room w' w.heap.size [.int .i64 (-1000000000000000), .int .i64 1000000000000000] ∧ Below w.heap.size w w'))) (by kernel_rfl) ⟨R1.cell 0 rfl, R1.cell 1 rfl, R1.cell 2 rfl, R2.cell 0 rfl, R2.cell 1 rfl, ⟨R1, R2, BB⟩⟩ (fun hHeld => ?_)
    refine Tk.W 0 (some 7) (.build 67 #[(0, .const (.int .i64 0)), (1, .const (.int .i64 1000000000000000))]) 67 none ?_
    refine Tk.W 1 (some 8) (.move (.tmp 0)) 49 none ?_
    refine Tk.W 2 (some 9) (.nilCheck (.tmp 8)) 0 none ?_
    refine Tk.W 3 (some 10) (.fieldAddr 29 (.tmp 9) 0) 0 none ?_
    refine Tk.W 4 (some 11) (.load 2 (.tmp 10)) 2 none ?_
    refine Tk.R 5 (some 12) (.call ⟨.value (.func 42), #[.tmp 7, .tmp 11], #[67, 2]⟩) 4 none (fun K hK => ?_)
    go_simp
    refine (Sp.i_InSpan 0 1000000000000000 h _).mono ?_
    rintro e vq06 ⟨rfl, b_q06⟩
    rw [in_no h0]
    have ra_q06 := hHeld.2.2.2.2.2.out.1.below b_q06
    have rb_q06 := hHeld.2.2.2.2.2.out.2.1.below b_q06
    have bb_q06 := hHeld.2.2.2.2.2.out.2.2.trans (b_q06.mono hHeld.2.2.2.2.2.out.2.2.size)
    have kvq06 := Tk.kv hK (w := vq06) ⟨ra_q06.cell 0 rfl, ra_q06.cell 1 rfl, ra_q06.cell 2 rfl, rb_q06.cell 0 rfl, rb_q06.cell 1 rfl, ⟨ra_q06, rb_q06, bb_q06⟩⟩
    clear ra_q06 rb_q06 bb_q06 b_q06
    try dsimp only
    refine hK.out _ _ kvq06 ?_; clear hK K hHeld; intro hHeld; try simp only [Act.put, List.setIfInBounds_toArray, List.set_cons_zero, List.set_cons_succ]
    refine Tk.W 6 (some 13) (.move (.tmp 12)) 4 none ?_
    refine Tk.N 7 (some 14) (.load 67 (.tmp 5)) 67 (some (6, true)) ?_
    refine Tk.N 8 (some 15) (.move (.tmp 0)) 49 (some (6, true)) ?_
    refine Tk.N 9 (some 16) (.nilCheck (.tmp 15)) 0 (some (6, true)) ?_
    refine Tk.N 10 (some 17) (.fieldAddr 29 (.tmp 16) 1) 0 (some (6, true)) ?_
    refine Tk.N 11 (some 18) (.load 2 (.tmp 17)) 2 (some (6, true)) ?_
    refine Tk.N 12 (some 19) (.call ⟨.value (.func 42), #[.tmp 14, .tmp 18], #[67, 2]⟩) 4 (some (6, true)) ?_
    refine Tk.W 13 (some 20) (.pick (.tmp 13) (.tmp 19) (.const (.bool false))) 4 none ?_
    refine Tk.W 14 (some 21) (.move (.tmp 20)) 4 none ?_
    refine Tk.N 15 (some 22) (.load 67 (.tmp 5)) 67 (some (14, true)) ?_
    refine Tk.N 16 (some 23) (.move (.tmp 0)) 49 (some (14, true)) ?_
    refine Tk.N 17 (some 24) (.nilCheck (.tmp 23)) 0 (some (14, true)) ?_
    refine Tk.N 18 (some 25) (.fieldAddr 29 (.tmp 24) 2) 0 (some (14, true)) ?_
    refine Tk.N 19 (some 26) (.load 2 (.tmp 25)) 2 (some (14, true)) ?_
    refine Tk.N 20 (some 27) (.call ⟨.value (.func 42), #[.tmp 22, .tmp 26], #[67, 2]⟩) 4 (some (14, true)) ?_
    refine Tk.W 21 (some 28) (.pick (.tmp 21) (.tmp 27) (.const (.bool false))) 4 none ?_
    refine Tk.W 22 (some 29) (.move (.tmp 28)) 4 none ?_
    refine Tk.N 23 (some 30) (.build 67 #[(0, .const (.int .i64 2)), (1, .const (.int .i64 100000))]) 67 (some (22, true)) ?_
    refine Tk.N 24 (some 31) (.move (.tmp 1)) 2 (some (22, true)) ?_
    refine Tk.N 25 (some 32) (.call ⟨.value (.func 42), #[.tmp 30, .tmp 31], #[67, 2]⟩) 4 (some (22, true)) ?_
    refine Tk.W 26 (some 33) (.pick (.tmp 29) (.tmp 32) (.const (.bool false))) 4 none ?_
    refine Tk.W 27 (some 4) (.assign (.tmp 33)) 4 none ?_
    refine wpAnyH_done (by kernel_rfl) ?_ _
    refine NoPanic.normal ?_
    clear R1 R2 BB
    obtain ⟨R1, R2, BB⟩ := hHeld.2.2.2.2.2.out
    clear hHeld
    go_wp2_with fail
    go_ret
    exact ⟨rfl, BB⟩

theorem i_ClockOk (h v o s : Int) (w : World) :
    Calls Try.prog 24 #[clk h v o, .int .i64 s] w fun e w' => e = .returned (.bool (CK h v o s)) ∧ Below w.heap.size w w' := by
  have R := Room.new w (c3 h v o) 29
  have B1 := (Below.refl w.heap.size w).alloc (Nat.le_refl _) (.cells #[.int .i64 h, .int .i64 v, .int .i64 o] 29)
  go_enter Try.func24, Try.ntmps24
  go_wp2_with fail
  refine (i_ck w.heap.size h v o s _ R).mono ?_
  rintro e w2 ⟨rfl, b2⟩
  go_wp2
  go_ret
  exact ⟨rfl, B1.trans (b2.mono B1.size)⟩

theorem s_off (n : Int) (w : World) :
    Calls Try.prog 43 #[.int .i64 n] w fun e w' => e = .returned (.bool (!LK (-1000000000000000) 1000000000000000 n)) ∧ w' = w := by
  go_enter Try.func43, Try.ntmps43
  go_wp2_with fail
  refine (Sp.s_l1In _ _ _ _).mono ?_
  rintro e w ⟨rfl, rfl⟩
  go_wp2
  go_ret
  exact ⟨rfl, rfl⟩

theorem s_ClockOk (h v o s : Int) (w : World) :
    Calls Try.prog 25 #[clk h v o, .int .i64 s] w fun e w' => e = .returned (.bool (CK h v o s)) ∧ Below w.heap.size w w' := by
  by_cases h3 : 2 ≤ s ∧ s ≤ 100000
  · by_cases h0 : 0 ≤ h ∧ h ≤ 1000000000000000
    · by_cases h1 : -1000000000000000 ≤ v ∧ v ≤ 1000000000000000
      · by_cases h2 : -1000000000000000 ≤ o ∧ o ≤ 1000000000000000
        · rw [ck_yes h0 h1 h2 h3]
          have B1 := (Below.refl w.heap.size w).alloc (Nat.le_refl _) (.cells #[.int .i64 h, .int .i64 v, .int .i64 o] 29)
          go_enter Try.func25, Try.ntmps25
          go_wp2_with fail
          refine (Sp.s_l1In 2 100000 s _).mono ?_
          rintro e wx ⟨rfl, rfl⟩
          rw [lk_yes h3]
          go_wp2_with fail
          refine (Sp.s_l1In 0 1000000000000000 h _).mono ?_
          rintro e wx ⟨rfl, rfl⟩
          rw [lk_yes h0]
          go_wp2_with fail
          refine (s_off v _).mono ?_
          rintro e wx ⟨rfl, rfl⟩
          rw [lk_yes h1]
          go_wp2_with fail
          refine (s_off o _).mono ?_
          rintro e wx ⟨rfl, rfl⟩
          rw [lk_yes h2]
          go_wp2
          go_ret
          exact ⟨rfl, B1⟩
        · rw [ck_no (fun q => h2 q.2.2.1)]
          have B1 := (Below.refl w.heap.size w).alloc (Nat.le_refl _) (.cells #[.int .i64 h, .int .i64 v, .int .i64 o] 29)
          go_enter Try.func25, Try.ntmps25
          go_wp2_with fail
          refine (Sp.s_l1In 2 100000 s _).mono ?_
          rintro e wx ⟨rfl, rfl⟩
          rw [lk_yes h3]
          go_wp2_with fail
          refine (Sp.s_l1In 0 1000000000000000 h _).mono ?_
          rintro e wx ⟨rfl, rfl⟩
          rw [lk_yes h0]
          go_wp2_with fail
          refine (s_off v _).mono ?_
          rintro e wx ⟨rfl, rfl⟩
          rw [lk_yes h1]
          go_wp2_with fail
          refine (s_off o _).mono ?_
          rintro e wx ⟨rfl, rfl⟩
          rw [lk_no h2]
          go_wp2
          go_ret
          exact ⟨rfl, B1⟩
      · rw [ck_no (fun q => h1 q.2.1)]
        have B1 := (Below.refl w.heap.size w).alloc (Nat.le_refl _) (.cells #[.int .i64 h, .int .i64 v, .int .i64 o] 29)
        go_enter Try.func25, Try.ntmps25
        go_wp2_with fail
        refine (Sp.s_l1In 2 100000 s _).mono ?_
        rintro e wx ⟨rfl, rfl⟩
        rw [lk_yes h3]
        go_wp2_with fail
        refine (Sp.s_l1In 0 1000000000000000 h _).mono ?_
        rintro e wx ⟨rfl, rfl⟩
        rw [lk_yes h0]
        go_wp2_with fail
        refine (s_off v _).mono ?_
        rintro e wx ⟨rfl, rfl⟩
        rw [lk_no h1]
        go_wp2
        go_ret
        exact ⟨rfl, B1⟩
    · rw [ck_no (fun q => h0 q.1)]
      have B1 := (Below.refl w.heap.size w).alloc (Nat.le_refl _) (.cells #[.int .i64 h, .int .i64 v, .int .i64 o] 29)
      go_enter Try.func25, Try.ntmps25
      go_wp2_with fail
      refine (Sp.s_l1In 2 100000 s _).mono ?_
      rintro e wx ⟨rfl, rfl⟩
      rw [lk_yes h3]
      go_wp2_with fail
      refine (Sp.s_l1In 0 1000000000000000 h _).mono ?_
      rintro e wx ⟨rfl, rfl⟩
      rw [lk_no h0]
      go_wp2
      go_ret
      exact ⟨rfl, B1⟩
  · rw [ck_no (fun q => h3 q.2.2.2)]
    have B1 := (Below.refl w.heap.size w).alloc (Nat.le_refl _) (.cells #[.int .i64 h, .int .i64 v, .int .i64 o] 29)
    go_enter Try.func25, Try.ntmps25
    go_wp2_with fail
    refine (Sp.s_l1In 2 100000 s _).mono ?_
    rintro e wx ⟨rfl, rfl⟩
    rw [lk_no h3]
    go_wp2
    go_ret
    exact ⟨rfl, B1⟩

end Go.Proofs.Ytcgcmceobmpdiaa.Ck
