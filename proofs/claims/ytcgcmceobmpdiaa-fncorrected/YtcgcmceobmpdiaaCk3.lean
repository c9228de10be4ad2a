/-
  impl's clock from a hard on; what it shows and owes, by both.
-/
import Derived.Test.YtcgcmceobmpdiaaCk2
import Derived.Test.YtcgcmceobmpdiaaTk
namespace Go.Proofs.Ytcgcmceobmpdiaa.Ck
open Go.ChangeShapes Go.WideShapes Go.ChangeAt Go.RowKit
open Sp (IN OK LK span retb reti)
open Ad (Tm)
open Rm (Room)
set_option linter.unusedVariables false
set_option linter.unusedSimpArgs false

/-- From a hard on it can be told. -/
def FR (h v o s a : Int) : Bool := CK h v o s && decide (h ≤ a ∧ a ≤ 1000000000000000)
theorem fr_no1 {h v o s a : Int} (q : CK h v o s = false) : FR h v o s a = false := by unfold FR; rw [q]; rfl
theorem fr_no2 {h v o s a : Int} (q : ¬ (h ≤ a ∧ a ≤ 1000000000000000)) : FR h v o s a = false := by unfold FR; rw [decide_eq_false q]; simp
theorem fr_yes {h v o s a : Int} (q : CK h v o s = true) (r : h ≤ a ∧ a ≤ 1000000000000000) : FR h v o s a = true := by unfold FR; rw [q, decide_eq_true r]; rfl
theorem fr_of {h v o s a : Int} (q : FR h v o s a = true) : CK h v o s = true ∧ h ≤ a ∧ a ≤ 1000000000000000 := by
  unfold FR at q
  rw [Bool.and_eq_true] at q
  exact ⟨q.1, of_decide_eq_true q.2⟩

theorem i_from_no (p : Nat) (h v o s a : Int) (w : World) (R : Room w p (c3 h v o)) (q : FR h v o s a = false) :
    Calls Try.prog 29 #[.pointer (some ⟨p, 0, none⟩), .int .i64 s, .int .i64 a] w fun e w' => e = .returned (.pointer none) ∧ Below w.heap.size w w' := by
  cases hq : CK h v o s with
  | false =>
    go_enter Try.func29, Try.ntmps29
    go_wp2_with fail
    refine (i_ck p h v o s _ R).mono ?_
    rintro e w2 ⟨rfl, b2⟩
    rw [hq]
    go_wp2
    go_ret
    exact ⟨rfl, b2⟩
  | true =>
    have hn : ¬ (h ≤ a ∧ a ≤ 1000000000000000) := fun r => by rw [fr_yes hq r] at q; cases q
    have HN : Hid (¬ (h ≤ a ∧ a ≤ 1000000000000000)) := hn
    clear hn
    go_enter Try.func29, Try.ntmps29
    go_wp2_with fail
    refine (i_ck p h v o s _ R).mono ?_
    rintro e w2 ⟨rfl, b2⟩
    rw [hq]
    have R2 := R.below b2
    have c0 := R2.cell 0 rfl
    go_wp2_with fail
    refine (Sp.i_InSpan h 1000000000000000 a _).mono ?_
    rintro e w3 ⟨rfl, b3⟩
    rw [in_no HN.out]
    have B3 := b2.trans (b3.mono b2.size)
    clear c0
    go_wp2
    go_ret
    exact ⟨rfl, B3⟩

set_option maxHeartbeats 4000000 in
theorem i_from_yes (p : Nat) (h v o s a : Int) (w : World) (R : Room w p (c3 h v o)) (q : FR h v o s a = true) :
    Calls Try.prog 29 #[.pointer (some ⟨p, 0, none⟩), .int .i64 s, .int .i64 a] w fun e w' => (∃ g, e = .returned (.pointer (some ⟨g, 0, none⟩)) ∧ Room w' g (c3 a (v + (a - h) + PD o s (a - h)) (o - PD o s (a - h))) ∧ w.heap.size ≤ g) ∧ Below w.heap.size w w' := by
  obtain ⟨hq, r1, r2⟩ := fr_of q
  obtain ⟨h1, h2, h3, h4⟩ := ck_of hq
  have hp := pd_bd (s := s) (e := a - h) h3 (by omega) h4.1
  have key : ∀ g1 g2 w R1 R2 R3, _ := fun g1 g2 w R1 R2 R3 => i_paid p g1 g2 h v o s (a - h) w R1 R2 R3 h3 h4.1 (by omega) (by omega)
  generalize PD o s (a - h) = P at hp key ⊢
  go_enter Try.func29, Try.ntmps29
  go_wp2_with fail
  refine (i_ck p h v o s _ R).mono ?_
  rintro e w2 ⟨rfl, b2⟩
  rw [hq]
  have R2 := R.below b2
  have c0 := R2.cell 0 rfl
  go_wp2_with fail
  refine (Sp.i_InSpan h 1000000000000000 a _).mono ?_
  rintro e w3 ⟨rfl, b3⟩
  rw [in_yes (by omega) (by omega) ⟨r1, r2⟩]
  have B3 := b2.trans (b3.mono b2.size)
  have R3 := R2.below b3
  clear c0
  have c0 := R3.cell 0 rfl
  go_wp2_with fail
  clear c0
  refine (i_payer p s _).mono ?_
  rintro e w4 ⟨⟨g1, g2, rfl, G1, G2⟩, b4⟩
  have R4 := R3.below b4
  have B4 := B3.trans (b4.mono B3.size)
  go_wp2_with fail
  refine (key g1 g2 _ G1 G2 R4).mono ?_
  rintro e w5 ⟨rfl, b5⟩
  have R5 := R4.below b5
  have B5 := B4.trans (b5.mono B4.size)
  have c1 := R5.cell 1 rfl
  have c2 := R5.cell 2 rfl
  go_wp2_with fail
  have v1 : IntKind.i64.wrap (v + (a - h)) = v + (a - h) := by rw [IntKind.wrap_i64]; omega
  have v2 : IntKind.i64.wrap (v + (a - h) + P) = v + (a - h) + P := by rw [IntKind.wrap_i64]; omega
  have v3 : IntKind.i64.wrap (o - P) = o - P := by rw [IntKind.wrap_i64]; omega
  have R5d := R5.drew
  have B5d := B5.drew
  refine wp_region_noPanic ?_
  refine wp_region_held_drew (S := (fun w' => w'.cell? ⟨p, 1, none⟩ = some (.int .i64 v) ∧ w'.cell? ⟨p, 2, none⟩ = some (.int .i64 o) ∧ Hid (Room w' p (c3 h v o) ∧ Below w.heap.size w w'))) (by kernel_rfl) ⟨R5d.cell 1 rfl, R5d.cell 2 rfl, ⟨R5d, B5d⟩⟩ (fun hHeld => ?_)
  refine Tk.W 0 (some 34) (.move (.tmp 2)) 2 none ?_
  refine Tk.W 1 (some 35) (.move (.tmp 0)) 49 none ?_
  refine Tk.W 2 (some 36) (.nilCheck (.tmp 35)) 0 none ?_
  refine Tk.W 3 (some 37) (.fieldAddr 29 (.tmp 36) 1) 0 none ?_
  refine Tk.W 4 (some 38) (.load 2 (.tmp 37)) 2 none ?_
  refine Tk.W 5 (some 39) (.move (.tmp 7)) 2 none ?_
  refine Tk.W 6 (some 40) (.binOp .add 2 (.tmp 38) (.tmp 39) 2) 2 none ?_
  refine Tk.W 7 (some 41) (.move (.tmp 8)) 2 none ?_
  refine Tk.W 8 (some 42) (.binOp .add 2 (.tmp 40) (.tmp 41) 2) 2 none ?_
  refine Tk.W 9 (some 43) (.move (.tmp 0)) 49 none ?_
  refine Tk.W 10 (some 44) (.nilCheck (.tmp 43)) 0 none ?_
  refine Tk.W 11 (some 45) (.fieldAddr 29 (.tmp 44) 2) 0 none ?_
  refine Tk.W 12 (some 46) (.load 2 (.tmp 45)) 2 none ?_
  refine Tk.W 13 (some 47) (.move (.tmp 8)) 2 none ?_
  refine Tk.W 14 (some 48) (.binOp .sub 2 (.tmp 46) (.tmp 47) 2) 2 none ?_
  refine Tk.W 15 (some 49) (.build 29 #[(0, .tmp 34), (1, .tmp 42), (2, .tmp 48)]) 29 none ?_
  refine Tk.R 16 (some 50) (.box 29 (.tmp 49)) 49 none (fun K hK => ?_)
  go_simp
  have b6 : Below w5.heap.size w5 ((w5.alloc (.cells #[.int .i64 a, .int .i64 (v + (a - h) + P), .int .i64 (o - P)] 29)).drew) := ((Below.refl w5.heap.size w5).alloc (Nat.le_refl _) (.cells #[.int .i64 a, .int .i64 (v + (a - h) + P), .int .i64 (o - P)] 29)).drew
  have RN : Room ((w5.alloc (.cells #[.int .i64 a, .int .i64 (v + (a - h) + P), .int .i64 (o - P)] 29)).drew) w5.heap.size [.int .i64 a, .int .i64 (v + (a - h) + P), .int .i64 (o - P)] := Room.new w5 [.int .i64 a, .int .i64 (v + (a - h) + P), .int .i64 (o - P)] 29
  have R6 := R5.below b6
  have B6 := B5.trans (b6.mono B5.size)
  have kvf17 := Tk.kv hK (w := ((w5.alloc (.cells #[.int .i64 a, .int .i64 (v + (a - h) + P), .int .i64 (o - P)] 29)).drew)) ⟨R6.cell 1 rfl, R6.cell 2 rfl, ⟨R6, B6⟩⟩
  clear R6 B6 b6
  try dsimp only
  refine hK.out _ _ kvf17 ?_; clear hK K hHeld; intro hHeld; try simp only [Act.put, List.setIfInBounds_toArray, List.set_cons_zero, List.set_cons_succ]
  refine Tk.W 17 (some 6) (.assign (.tmp 50)) 49 none ?_
  refine wpAnyH_done (by kernel_rfl) ?_ _
  refine NoPanic.normal ?_
  have BB := hHeld.2.2.out.2
  clear hHeld
  go_wp2
  go_ret
  exact ⟨⟨w5.heap.size, rfl, RN, B5.size⟩, BB⟩

end Go.Proofs.Ytcgcmceobmpdiaa.Ck
