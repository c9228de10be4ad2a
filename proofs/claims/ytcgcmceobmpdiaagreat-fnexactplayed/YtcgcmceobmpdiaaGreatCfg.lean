/-
  The Go functions of the fourth chapter, impl's and spec's, each by one answer, at every config; each writes nothing that was there ahead of it.
-/
import Derived.Test.YtcgcmceobmpdiaaGreatSpan
import Derived.Test.YtcgcmceobmpdiaaGreatTk
namespace Go.Proofs.YtcgcmceobmpdiaaGreat.Cf
open Go.ChangeShapes Go.WideShapes Go.ChangeAt Go.RowKit
open Ad (Tm)
open Sp (span OK LK IN bcell retb reti)
set_option linter.unusedVariables false
set_option linter.unusedSimpArgs false

abbrev cfg (n l d r p s : Int) : Value := .agg #[.int .i64 n, .int .i64 l, .int .i64 d, .int .i64 r, .int .i64 p, .int .i64 s]
/-- The nodes are right. -/
def N1 (n : Int) : Bool := IN 1 16 n
def L1 (n l : Int) : Bool := decide (0 ≤ l ∧ 3 * l + 1 ≤ n)
def R1 (d r s : Int) : Bool := (IN 0 1000000 d && IN 0 1000000 r) && IN 2 100000 s
def P1 (d r p s : Int) : Bool := IN 1 1000000000000000 p && decide ((4 * d + 5 * r + 2) * s ≤ p)
/-- The code, but for the period. -/
def CR (n l d r s : Int) : Int := if N1 n then if L1 n l then if R1 d r s then 0 else 3 else 2 else 1
def CP (n l d r p s : Int) : Int := if N1 n then if L1 n l then if R1 d r s then if P1 d r p s then 0 else 4 else 3 else 2 else 1
def GM (n l d r s : Int) : Int := if CR n l d r s = 0 then 2 * d + 4 * r + 2 else -1
def SM (n l d r s : Int) : Int := if CR n l d r s = 0 then 4 * d + 4 * r + 2 else -1
def AM (n l d r s : Int) : Int := if CR n l d r s = 0 then 4 * d + 5 * r + 2 else -1
def QM (n l d r s : Int) : Int := if CR n l d r s = 0 then (n + l) / 2 + 1 else -1

theorem in_iff (lo hi n : Int) : IN lo hi n = true ↔ (Tm lo ∧ Tm hi ∧ lo ≤ hi) ∧ lo ≤ n ∧ n ≤ hi := by
  unfold IN OK LK
  simp [Bool.and_eq_true]
theorem in_c {lo hi n : Int} (h : Tm lo ∧ Tm hi ∧ lo ≤ hi) : IN lo hi n = decide (lo ≤ n ∧ n ≤ hi) := by
  rw [Bool.eq_iff_iff, in_iff, decide_eq_true_iff]; exact ⟨fun k => k.2, fun k => ⟨h, k⟩⟩
/-- spec.l1In's answer is InSpan's. -/
theorem lk_in {lo hi n : Int} (h : Tm lo ∧ Tm hi ∧ lo ≤ hi) : (!LK lo hi n) = IN lo hi n := by
  unfold IN; rw [Sp.ok_yes h.1 h.2.1 h.2.2, Bool.true_and]
theorem n1_iff {n : Int} : N1 n = true ↔ 1 ≤ n ∧ n ≤ 16 := by unfold N1; rw [in_c (by decide), decide_eq_true_iff]
theorem l1_iff {n l : Int} : L1 n l = true ↔ 0 ≤ l ∧ 3 * l + 1 ≤ n := by unfold L1; rw [decide_eq_true_iff]
theorem dr_iff {d : Int} : IN 0 1000000 d = true ↔ 0 ≤ d ∧ d ≤ 1000000 := by rw [in_c (by decide), decide_eq_true_iff]
theorem sl_iff {s : Int} : IN 2 100000 s = true ↔ 2 ≤ s ∧ s ≤ 100000 := by rw [in_c (by decide), decide_eq_true_iff]
theorem pe_iff {p : Int} : IN 1 1000000000000000 p = true ↔ 1 ≤ p ∧ p ≤ 1000000000000000 := by rw [in_c (by decide), decide_eq_true_iff]
theorem r1_iff {d r s : Int} : R1 d r s = true ↔ (0 ≤ d ∧ d ≤ 1000000) ∧ (0 ≤ r ∧ r ≤ 1000000) ∧ 2 ≤ s ∧ s ≤ 100000 := by
  unfold R1; rw [Bool.and_eq_true, Bool.and_eq_true, dr_iff, dr_iff, sl_iff, and_assoc]
theorem cr_zero {n l d r s : Int} : CR n l d r s = 0 ↔ N1 n = true ∧ L1 n l = true ∧ R1 d r s = true := by
  unfold CR; cases N1 n <;> cases L1 n l <;> cases R1 d r s <;> simp
theorem cp_zero {n l d r p s : Int} : CP n l d r p s = 0 ↔ CR n l d r s = 0 ∧ P1 d r p s = true := by
  unfold CP CR; cases N1 n <;> cases L1 n l <;> cases R1 d r s <;> cases P1 d r p s <;> simp
abbrev Rg (d r : Int) : Prop := (0 ≤ d ∧ d ≤ 1000000) ∧ 0 ≤ r ∧ r ≤ 1000000
/-- A product of what is put right at most and the slew fits. -/
theorem prod {g s : Int} (h0 : 0 ≤ g) (h1 : g ≤ 9000002) (h2 : 2 ≤ s) (h3 : s ≤ 100000) : 0 ≤ g * s ∧ g * s ≤ 900000200000 := by
  refine ⟨Int.mul_nonneg h0 (by omega), ?_⟩
  calc g * s ≤ 9000002 * s := Int.mul_le_mul_of_nonneg_right h1 (by omega)
    _ ≤ 900000200000 := by omega
theorem wrapped {x : Int} (h0 : 0 ≤ x) (h1 : x ≤ 900000200000) : IntKind.i64.wrap x = x := by rw [IntKind.wrap_i64]; omega

theorem keep {W w1 : World} {g : Nat} {n l d r p s : Int} (hb : Below W.heap.size W w1) (h : W.cell? ⟨g, 0, none⟩ = some (.int .i64 n) ∧ W.cell? ⟨g, 1, none⟩ = some (.int .i64 l) ∧ W.cell? ⟨g, 2, none⟩ = some (.int .i64 d) ∧ W.cell? ⟨g, 3, none⟩ = some (.int .i64 r) ∧ W.cell? ⟨g, 4, none⟩ = some (.int .i64 p) ∧ W.cell? ⟨g, 5, none⟩ = some (.int .i64 s)) : w1.cell? ⟨g, 0, none⟩ = some (.int .i64 n) ∧ w1.cell? ⟨g, 1, none⟩ = some (.int .i64 l) ∧ w1.cell? ⟨g, 2, none⟩ = some (.int .i64 d) ∧ w1.cell? ⟨g, 3, none⟩ = some (.int .i64 r) ∧ w1.cell? ⟨g, 4, none⟩ = some (.int .i64 p) ∧ w1.cell? ⟨g, 5, none⟩ = some (.int .i64 s) := by
  obtain ⟨h0, h1, h2, h3, h4, h5⟩ := h
  refine ⟨?_, ?_, ?_, ?_, ?_, ?_⟩
  · rw [hb.cell (World.block_lt_of_cell? _ _ h0)]; exact h0
  · rw [hb.cell (World.block_lt_of_cell? _ _ h1)]; exact h1
  · rw [hb.cell (World.block_lt_of_cell? _ _ h2)]; exact h2
  · rw [hb.cell (World.block_lt_of_cell? _ _ h3)]; exact h3
  · rw [hb.cell (World.block_lt_of_cell? _ _ h4)]; exact h4
  · rw [hb.cell (World.block_lt_of_cell? _ _ h5)]; exact h5

theorem new (w : World) (n l d r p s : Int) (t : TypeId) : (w.alloc (.cells #[.int .i64 n, .int .i64 l, .int .i64 d, .int .i64 r, .int .i64 p, .int .i64 s] t)).cell? ⟨w.heap.size, 0, none⟩ = some (.int .i64 n) ∧ (w.alloc (.cells #[.int .i64 n, .int .i64 l, .int .i64 d, .int .i64 r, .int .i64 p, .int .i64 s] t)).cell? ⟨w.heap.size, 1, none⟩ = some (.int .i64 l) ∧ (w.alloc (.cells #[.int .i64 n, .int .i64 l, .int .i64 d, .int .i64 r, .int .i64 p, .int .i64 s] t)).cell? ⟨w.heap.size, 2, none⟩ = some (.int .i64 d) ∧ (w.alloc (.cells #[.int .i64 n, .int .i64 l, .int .i64 d, .int .i64 r, .int .i64 p, .int .i64 s] t)).cell? ⟨w.heap.size, 3, none⟩ = some (.int .i64 r) ∧ (w.alloc (.cells #[.int .i64 n, .int .i64 l, .int .i64 d, .int .i64 r, .int .i64 p, .int .i64 s] t)).cell? ⟨w.heap.size, 4, none⟩ = some (.int .i64 p) ∧ (w.alloc (.cells #[.int .i64 n, .int .i64 l, .int .i64 d, .int .i64 r, .int .i64 p, .int .i64 s] t)).cell? ⟨w.heap.size, 5, none⟩ = some (.int .i64 s) :=
  ⟨World.cell?_alloc_new _ _ _ _, World.cell?_alloc_new _ _ _ _, World.cell?_alloc_new _ _ _ _, World.cell?_alloc_new _ _ _ _, World.cell?_alloc_new _ _ _ _, World.cell?_alloc_new _ _ _ _⟩

theorem keepS {w W w1 : World} {g : Nat} {n l d r p s : Int} (hb : Below W.heap.size W w1) (h : W.cell? ⟨g, 0, none⟩ = some (.int .i64 n) ∧ W.cell? ⟨g, 1, none⟩ = some (.int .i64 l) ∧ W.cell? ⟨g, 2, none⟩ = some (.int .i64 d) ∧ W.cell? ⟨g, 3, none⟩ = some (.int .i64 r) ∧ W.cell? ⟨g, 4, none⟩ = some (.int .i64 p) ∧ W.cell? ⟨g, 5, none⟩ = some (.int .i64 s) ∧ Hid (Below w.heap.size w W)) : w1.cell? ⟨g, 0, none⟩ = some (.int .i64 n) ∧ w1.cell? ⟨g, 1, none⟩ = some (.int .i64 l) ∧ w1.cell? ⟨g, 2, none⟩ = some (.int .i64 d) ∧ w1.cell? ⟨g, 3, none⟩ = some (.int .i64 r) ∧ w1.cell? ⟨g, 4, none⟩ = some (.int .i64 p) ∧ w1.cell? ⟨g, 5, none⟩ = some (.int .i64 s) ∧ Hid (Below w.heap.size w w1) := by
  obtain ⟨h0, h1, h2, h3, h4, h5, h6⟩ := h
  obtain ⟨k0, k1, k2, k3, k4, k5⟩ := keep hb ⟨h0, h1, h2, h3, h4, h5⟩
  exact ⟨k0, k1, k2, k3, k4, k5, h6.out.trans (hb.mono h6.out.size)⟩

theorem newS (w : World) (n l d r p s : Int) (t : TypeId) : (w.alloc (.cells #[.int .i64 n, .int .i64 l, .int .i64 d, .int .i64 r, .int .i64 p, .int .i64 s] t)).cell? ⟨w.heap.size, 0, none⟩ = some (.int .i64 n) ∧ (w.alloc (.cells #[.int .i64 n, .int .i64 l, .int .i64 d, .int .i64 r, .int .i64 p, .int .i64 s] t)).cell? ⟨w.heap.size, 1, none⟩ = some (.int .i64 l) ∧ (w.alloc (.cells #[.int .i64 n, .int .i64 l, .int .i64 d, .int .i64 r, .int .i64 p, .int .i64 s] t)).cell? ⟨w.heap.size, 2, none⟩ = some (.int .i64 d) ∧ (w.alloc (.cells #[.int .i64 n, .int .i64 l, .int .i64 d, .int .i64 r, .int .i64 p, .int .i64 s] t)).cell? ⟨w.heap.size, 3, none⟩ = some (.int .i64 r) ∧ (w.alloc (.cells #[.int .i64 n, .int .i64 l, .int .i64 d, .int .i64 r, .int .i64 p, .int .i64 s] t)).cell? ⟨w.heap.size, 4, none⟩ = some (.int .i64 p) ∧ (w.alloc (.cells #[.int .i64 n, .int .i64 l, .int .i64 d, .int .i64 r, .int .i64 p, .int .i64 s] t)).cell? ⟨w.heap.size, 5, none⟩ = some (.int .i64 s) ∧ Hid (Below w.heap.size w (w.alloc (.cells #[.int .i64 n, .int .i64 l, .int .i64 d, .int .i64 r, .int .i64 p, .int .i64 s] t))) := by
  obtain ⟨k0, k1, k2, k3, k4, k5⟩ := new w n l d r p s t
  exact ⟨k0, k1, k2, k3, k4, k5, (Below.refl _ _).alloc (Nat.le_refl _) _⟩

theorem drewS {w W : World} {g : Nat} {n l d r p s : Int} (h : W.cell? ⟨g, 0, none⟩ = some (.int .i64 n) ∧ W.cell? ⟨g, 1, none⟩ = some (.int .i64 l) ∧ W.cell? ⟨g, 2, none⟩ = some (.int .i64 d) ∧ W.cell? ⟨g, 3, none⟩ = some (.int .i64 r) ∧ W.cell? ⟨g, 4, none⟩ = some (.int .i64 p) ∧ W.cell? ⟨g, 5, none⟩ = some (.int .i64 s) ∧ Hid (Below w.heap.size w W)) : W.drew.cell? ⟨g, 0, none⟩ = some (.int .i64 n) ∧ W.drew.cell? ⟨g, 1, none⟩ = some (.int .i64 l) ∧ W.drew.cell? ⟨g, 2, none⟩ = some (.int .i64 d) ∧ W.drew.cell? ⟨g, 3, none⟩ = some (.int .i64 r) ∧ W.drew.cell? ⟨g, 4, none⟩ = some (.int .i64 p) ∧ W.drew.cell? ⟨g, 5, none⟩ = some (.int .i64 s) ∧ Hid (Below w.heap.size w W.drew) := keepS (Below.refl _ _).drew h

theorem i_gap (n l d r p s : Int) (w : World) :
    Calls Tryz.prog 96 #[cfg n l d r p s] w fun e w' => (∃ g : Int, e = .returned (.int .i64 g) ∧ Hid (Rg d r → g = 2 * d + 4 * r + 2)) ∧ Below w.heap.size w w' := by
  by_cases h : Rg d r
  · obtain ⟨⟨h1, h2⟩, h3, h4⟩ := h
    go_enter Tryz.func96, Tryz.ntmps96
    go_wp2
    go_ret
    exact ⟨⟨_, rfl, fun _ => by omega⟩, (Below.refl _ _).alloc (Nat.le_refl _) _⟩
  · have H : Hid (¬ Rg d r) := h
    clear h
    go_enter Tryz.func96, Tryz.ntmps96
    go_wp2
    go_ret
    exact ⟨⟨_, rfl, fun h => absurd h H.out⟩, (Below.refl _ _).alloc (Nat.le_refl _) _⟩

set_option maxHeartbeats 2000000 in
theorem i_skew (n l d r p s : Int) (w : World) :
    Calls Tryz.prog 93 #[cfg n l d r p s] w fun e w' => (∃ g : Int, e = .returned (.int .i64 g) ∧ Hid (Rg d r → g = 4 * d + 4 * r + 2)) ∧ Below w.heap.size w w' := by
  by_cases h : Rg d r
  · obtain ⟨⟨h1, h2⟩, h3, h4⟩ := h
    go_enter Tryz.func93, Tryz.ntmps93
    go_wp2_with fail
    refine wp_region_noPanic ?_
    refine wp_region_held_drew (S := (fun w' => w'.cell? ⟨w.heap.size, 0, none⟩ = some (.int .i64 n) ∧ w'.cell? ⟨w.heap.size, 1, none⟩ = some (.int .i64 l) ∧ w'.cell? ⟨w.heap.size, 2, none⟩ = some (.int .i64 d) ∧ w'.cell? ⟨w.heap.size, 3, none⟩ = some (.int .i64 r) ∧ w'.cell? ⟨w.heap.size, 4, none⟩ = some (.int .i64 p) ∧ w'.cell? ⟨w.heap.size, 5, none⟩ = some (.int .i64 s) ∧ Hid (Below w.heap.size w w'))) (by kernel_rfl) (drewS (newS _ _ _ _ _ _ _ _)) (fun hHeld => ?_)
    refine Tk.W 0 (some 3) (.load 30 (.tmp 1)) 30 none ?_
    refine Tk.W 2 (some 5) (.fieldAddr 30 (.tmp 1) 2) 0 none ?_
    refine Tk.W 3 (some 6) (.load 2 (.tmp 5)) 2 none ?_
    refine Tk.W 4 (some 7) (.binOp .mul 2 (.const (.int .i64 2)) (.tmp 6) 2) 2 none ?_
    refine Tk.R 1 (some 4) (.call ⟨.value (.func 96), #[.tmp 3], #[30]⟩) 2 none (fun K hK => ?_)
    go_simp
    refine (i_gap _ _ _ _ _ _ _).mono ?_
    rintro e vr11 ⟨⟨gr11, rfl, hgr11⟩, hbr11⟩
    have kvr11 := keepS hbr11 hHeld
    obtain rfl := hgr11.out ⟨⟨h1, h2⟩, h3, h4⟩
    clear hgr11
    try dsimp only
    refine hK.out _ _ kvr11 ?_; clear hK K hHeld; intro hHeld; try simp only [Act.put, List.setIfInBounds_toArray, List.set_cons_zero, List.set_cons_succ]
    refine Tk.W 5 (some 8) (.binOp .add 2 (.tmp 4) (.tmp 7) 2) 2 none ?_
    refine Tk.W 6 (some 2) (.assign (.tmp 8)) 2 none ?_
    refine wpAnyH_done (by kernel_rfl) ?_ _
    refine NoPanic.normal ?_
    go_wp2_with fail
    go_ret
    exact ⟨⟨_, rfl, fun _ => by (try simp only [IntKind.wrap_i64]); omega⟩, hHeld.2.2.2.2.2.2.out⟩
  · have H : Hid (¬ Rg d r) := h
    clear h
    go_enter Tryz.func93, Tryz.ntmps93
    go_wp2_with fail
    refine wp_region_noPanic ?_
    refine wp_region_held_drew (S := (fun w' => w'.cell? ⟨w.heap.size, 0, none⟩ = some (.int .i64 n) ∧ w'.cell? ⟨w.heap.size, 1, none⟩ = some (.int .i64 l) ∧ w'.cell? ⟨w.heap.size, 2, none⟩ = some (.int .i64 d) ∧ w'.cell? ⟨w.heap.size, 3, none⟩ = some (.int .i64 r) ∧ w'.cell? ⟨w.heap.size, 4, none⟩ = some (.int .i64 p) ∧ w'.cell? ⟨w.heap.size, 5, none⟩ = some (.int .i64 s) ∧ Hid (Below w.heap.size w w'))) (by kernel_rfl) (drewS (newS _ _ _ _ _ _ _ _)) (fun hHeld => ?_)
    refine Tk.W 0 (some 3) (.load 30 (.tmp 1)) 30 none ?_
    refine Tk.W 2 (some 5) (.fieldAddr 30 (.tmp 1) 2) 0 none ?_
    refine Tk.W 3 (some 6) (.load 2 (.tmp 5)) 2 none ?_
    refine Tk.W 4 (some 7) (.binOp .mul 2 (.const (.int .i64 2)) (.tmp 6) 2) 2 none ?_
    refine Tk.R 1 (some 4) (.call ⟨.value (.func 96), #[.tmp 3], #[30]⟩) 2 none (fun K hK => ?_)
    go_simp
    refine (i_gap _ _ _ _ _ _ _).mono ?_
    rintro e vr21 ⟨⟨gr21, rfl, hgr21⟩, hbr21⟩
    have kvr21 := keepS hbr21 hHeld
    try dsimp only
    refine hK.out _ _ kvr21 ?_; clear hK K hHeld; intro hHeld; try simp only [Act.put, List.setIfInBounds_toArray, List.set_cons_zero, List.set_cons_succ]
    refine Tk.W 5 (some 8) (.binOp .add 2 (.tmp 4) (.tmp 7) 2) 2 none ?_
    refine Tk.W 6 (some 2) (.assign (.tmp 8)) 2 none ?_
    refine wpAnyH_done (by kernel_rfl) ?_ _
    refine NoPanic.normal ?_
    go_wp2_with fail
    go_ret
    exact ⟨⟨_, rfl, fun h => absurd h H.out⟩, hHeld.2.2.2.2.2.2.out⟩

set_option maxHeartbeats 2000000 in
theorem i_adj (n l d r p s : Int) (w : World) :
    Calls Tryz.prog 89 #[cfg n l d r p s] w fun e w' => (∃ g : Int, e = .returned (.int .i64 g) ∧ Hid (Rg d r → g = 4 * d + 5 * r + 2)) ∧ Below w.heap.size w w' := by
  by_cases h : Rg d r
  · obtain ⟨⟨h1, h2⟩, h3, h4⟩ := h
    go_enter Tryz.func89, Tryz.ntmps89
    go_wp2_with fail
    refine wp_region_noPanic ?_
    refine wp_region_held_drew (S := (fun w' => w'.cell? ⟨w.heap.size, 0, none⟩ = some (.int .i64 n) ∧ w'.cell? ⟨w.heap.size, 1, none⟩ = some (.int .i64 l) ∧ w'.cell? ⟨w.heap.size, 2, none⟩ = some (.int .i64 d) ∧ w'.cell? ⟨w.heap.size, 3, none⟩ = some (.int .i64 r) ∧ w'.cell? ⟨w.heap.size, 4, none⟩ = some (.int .i64 p) ∧ w'.cell? ⟨w.heap.size, 5, none⟩ = some (.int .i64 s) ∧ Hid (Below w.heap.size w w'))) (by kernel_rfl) (drewS (newS _ _ _ _ _ _ _ _)) (fun hHeld => ?_)
    refine Tk.W 0 (some 3) (.load 30 (.tmp 1)) 30 none ?_
    refine Tk.W 2 (some 5) (.fieldAddr 30 (.tmp 1) 3) 0 none ?_
    refine Tk.W 3 (some 6) (.load 2 (.tmp 5)) 2 none ?_
    refine Tk.R 1 (some 4) (.call ⟨.value (.func 93), #[.tmp 3], #[30]⟩) 2 none (fun K hK => ?_)
    go_simp
    refine (i_skew _ _ _ _ _ _ _).mono ?_
    rintro e vr31 ⟨⟨gr31, rfl, hgr31⟩, hbr31⟩
    have kvr31 := keepS hbr31 hHeld
    obtain rfl := hgr31.out ⟨⟨h1, h2⟩, h3, h4⟩
    clear hgr31
    try dsimp only
    refine hK.out _ _ kvr31 ?_; clear hK K hHeld; intro hHeld; try simp only [Act.put, List.setIfInBounds_toArray, List.set_cons_zero, List.set_cons_succ]
    refine Tk.W 4 (some 7) (.binOp .add 2 (.tmp 4) (.tmp 6) 2) 2 none ?_
    refine Tk.W 5 (some 2) (.assign (.tmp 7)) 2 none ?_
    refine wpAnyH_done (by kernel_rfl) ?_ _
    refine NoPanic.normal ?_
    go_wp2_with fail
    go_ret
    exact ⟨⟨_, rfl, fun _ => by (try simp only [IntKind.wrap_i64]); omega⟩, hHeld.2.2.2.2.2.2.out⟩
  · have H : Hid (¬ Rg d r) := h
    clear h
    go_enter Tryz.func89, Tryz.ntmps89
    go_wp2_with fail
    refine wp_region_noPanic ?_
    refine wp_region_held_drew (S := (fun w' => w'.cell? ⟨w.heap.size, 0, none⟩ = some (.int .i64 n) ∧ w'.cell? ⟨w.heap.size, 1, none⟩ = some (.int .i64 l) ∧ w'.cell? ⟨w.heap.size, 2, none⟩ = some (.int .i64 d) ∧ w'.cell? ⟨w.heap.size, 3, none⟩ = some (.int .i64 r) ∧ w'.cell? ⟨w.heap.size, 4, none⟩ = some (.int .i64 p) ∧ w'.cell? ⟨w.heap.size, 5, none⟩ = some (.int .i64 s) ∧ Hid (Below w.heap.size w w'))) (by kernel_rfl) (drewS (newS _ _ _ _ _ _ _ _)) (fun hHeld => ?_)
    refine Tk.W 0 (some 3) (.load 30 (.tmp 1)) 30 none ?_
    refine Tk.W 2 (some 5) (.fieldAddr 30 (.tmp 1) 3) 0 none ?_
    refine Tk.W 3 (some 6) (.load 2 (.tmp 5)) 2 none ?_
    refine Tk.R 1 (some 4) (.call ⟨.value (.func 93), #[.tmp 3], #[30]⟩) 2 none (fun K hK => ?_)
    go_simp
    refine (i_skew _ _ _ _ _ _ _).mono ?_
    rintro e vr41 ⟨⟨gr41, rfl, hgr41⟩, hbr41⟩
    have kvr41 := keepS hbr41 hHeld
    try dsimp only
    refine hK.out _ _ kvr41 ?_; clear hK K hHeld; intro hHeld; try simp only [Act.put, List.setIfInBounds_toArray, List.set_cons_zero, List.set_cons_succ]
    refine Tk.W 4 (some 7) (.binOp .add 2 (.tmp 4) (.tmp 6) 2) 2 none ?_
    refine Tk.W 5 (some 2) (.assign (.tmp 7)) 2 none ?_
    refine wpAnyH_done (by kernel_rfl) ?_ _
    refine NoPanic.normal ?_
    go_wp2_with fail
    go_ret
    exact ⟨⟨_, rfl, fun h => absurd h H.out⟩, hHeld.2.2.2.2.2.2.out⟩

set_option maxHeartbeats 2000000 in
theorem i_range (n l d r p s : Int) (w : World) :
    Calls Tryz.prog 82 #[cfg n l d r p s] w fun e w' => e = .returned (.bool (R1 d r s)) ∧ Below w.heap.size w w' := by
  unfold R1
  cases hd : IN 0 1000000 d with
  | false =>
    go_enter Tryz.func82, Tryz.ntmps82
    go_wp2_with fail
    refine (Sp.i_InSpan _ _ _ _).mono ?_
    rintro e w2 ⟨rfl, hb2⟩
    obtain ⟨hc2, hf2⟩ := bcell hb2
    have z2 := hb2.size
    (try simp at z2)
    have y2 : w.heap.size < w2.heap.size := by omega
    have x2 : w.heap.size + 1 < w2.heap.size := by omega
    go_wp2
    go_ret
    refine ⟨rfl, ?_⟩
    (repeat (first | exact Below.refl _ _ | assumption | refine Below.setCell ?_ (by first | omega | (simp <;> omega)) _ | refine Below.alloc ?_ (by first | omega | (simp <;> omega)) _ | refine Below.drew ?_ | refine below_drewN ?_ _ | refine Below.trans ?_ (Below.mono (by assumption) (by first | omega | (simp <;> omega)))))
  | true =>
    cases hr : IN 0 1000000 r with
    | false =>
      go_enter Tryz.func82, Tryz.ntmps82
      go_wp2_with fail
      refine (Sp.i_InSpan _ _ _ _).mono ?_
      rintro e w2 ⟨rfl, hb2⟩
      obtain ⟨hc2, hf2⟩ := bcell hb2
      have z2 := hb2.size
      (try simp at z2)
      have y2 : w.heap.size < w2.heap.size := by omega
      have x2 : w.heap.size + 1 < w2.heap.size := by omega
      go_wp2_with fail
      refine (Sp.i_InSpan _ _ _ _).mono ?_
      rintro e w3 ⟨rfl, hb3⟩
      obtain ⟨hc3, hf3⟩ := bcell hb3
      have z3 := hb3.size
      (try simp at z3)
      have y3 : w.heap.size < w3.heap.size := by omega
      have x3 : w.heap.size + 1 < w3.heap.size := by omega
      go_wp2
      go_ret
      refine ⟨rfl, ?_⟩
      (repeat (first | exact Below.refl _ _ | assumption | refine Below.setCell ?_ (by first | omega | (simp <;> omega)) _ | refine Below.alloc ?_ (by first | omega | (simp <;> omega)) _ | refine Below.drew ?_ | refine below_drewN ?_ _ | refine Below.trans ?_ (Below.mono (by assumption) (by first | omega | (simp <;> omega)))))
    | true =>
      go_enter Tryz.func82, Tryz.ntmps82
      go_wp2_with fail
      refine (Sp.i_InSpan _ _ _ _).mono ?_
      rintro e w2 ⟨rfl, hb2⟩
      obtain ⟨hc2, hf2⟩ := bcell hb2
      have z2 := hb2.size
      (try simp at z2)
      have y2 : w.heap.size < w2.heap.size := by omega
      have x2 : w.heap.size + 1 < w2.heap.size := by omega
      go_wp2_with fail
      refine (Sp.i_InSpan _ _ _ _).mono ?_
      rintro e w3 ⟨rfl, hb3⟩
      obtain ⟨hc3, hf3⟩ := bcell hb3
      have z3 := hb3.size
      (try simp at z3)
      have y3 : w.heap.size < w3.heap.size := by omega
      have x3 : w.heap.size + 1 < w3.heap.size := by omega
      go_wp2_with fail
      refine (Sp.i_InSpan _ _ _ _).mono ?_
      rintro e w4 ⟨rfl, hb4⟩
      obtain ⟨hc4, hf4⟩ := bcell hb4
      have z4 := hb4.size
      (try simp at z4)
      have y4 : w.heap.size < w4.heap.size := by omega
      have x4 : w.heap.size + 1 < w4.heap.size := by omega
      go_wp2
      go_ret
      refine ⟨retb (by simp), ?_⟩
      (repeat (first | exact Below.refl _ _ | assumption | refine Below.setCell ?_ (by first | omega | (simp <;> omega)) _ | refine Below.alloc ?_ (by first | omega | (simp <;> omega)) _ | refine Below.drew ?_ | refine below_drewN ?_ _ | refine Below.trans ?_ (Below.mono (by assumption) (by first | omega | (simp <;> omega)))))

theorem third {n l : Int} (h1 : 1 ≤ n) (h2 : n ≤ 16) : IN 0 ((n - 1) / 3) l = L1 n l := by
  rw [Bool.eq_iff_iff, in_iff, l1_iff]
  unfold Tm
  omega

set_option maxHeartbeats 2000000 in
theorem i_liars (n l d r p s : Int) (w : World) :
    Calls Tryz.prog 83 #[cfg n l d r p s] w fun e w' => (∃ b : Bool, e = .returned (.bool b) ∧ Hid (N1 n = true → b = L1 n l)) ∧ Below w.heap.size w w' := by
  by_cases h : N1 n = true
  · obtain ⟨h1, h2⟩ := n1_iff.1 h
    have H : Hid (N1 n = true) := h
    clear h
    go_enter Tryz.func83, Tryz.ntmps83
    go_wp2_with fail
    refine (Sp.i_InSpan _ _ _ _).mono ?_
    rintro e w2 ⟨rfl, hb2⟩
    obtain ⟨hc2, hf2⟩ := bcell hb2
    have z2 := hb2.size
    (try simp at z2)
    go_wp2
    go_ret
    refine ⟨⟨_, rfl, fun _ => third h1 h2⟩, ?_⟩
    (repeat (first | exact Below.refl _ _ | assumption | refine Below.setCell ?_ (by first | omega | (simp <;> omega)) _ | refine Below.alloc ?_ (by first | omega | (simp <;> omega)) _ | refine Below.drew ?_ | refine below_drewN ?_ _ | refine Below.trans ?_ (Below.mono (by assumption) (by first | omega | (simp <;> omega)))))
  · have H : Hid (¬ N1 n = true) := h
    clear h
    go_enter Tryz.func83, Tryz.ntmps83
    go_wp2_with fail
    refine (Sp.i_InSpan _ _ _ _).mono ?_
    rintro e w2 ⟨rfl, hb2⟩
    obtain ⟨hc2, hf2⟩ := bcell hb2
    have z2 := hb2.size
    (try simp at z2)
    go_wp2
    go_ret
    refine ⟨⟨_, rfl, fun h => absurd h H.out⟩, ?_⟩
    (repeat (first | exact Below.refl _ _ | assumption | refine Below.setCell ?_ (by first | omega | (simp <;> omega)) _ | refine Below.alloc ?_ (by first | omega | (simp <;> omega)) _ | refine Below.drew ?_ | refine below_drewN ?_ _ | refine Below.trans ?_ (Below.mono (by assumption) (by first | omega | (simp <;> omega)))))

set_option maxHeartbeats 2000000 in
theorem i_period (n l d r p s : Int) (w : World) :
    Calls Tryz.prog 81 #[cfg n l d r p s] w fun e w' => (∃ b : Bool, e = .returned (.bool b) ∧ Hid (R1 d r s = true → b = P1 d r p s)) ∧ Below w.heap.size w w' := by
  cases hp : IN 1 1000000000000000 p with
  | false =>
    go_enter Tryz.func81, Tryz.ntmps81
    go_wp2_with fail
    refine wp_region_noPanic ?_
    refine wp_region_held_drew (S := (fun w' => w'.cell? ⟨w.heap.size, 0, none⟩ = some (.int .i64 n) ∧ w'.cell? ⟨w.heap.size, 1, none⟩ = some (.int .i64 l) ∧ w'.cell? ⟨w.heap.size, 2, none⟩ = some (.int .i64 d) ∧ w'.cell? ⟨w.heap.size, 3, none⟩ = some (.int .i64 r) ∧ w'.cell? ⟨w.heap.size, 4, none⟩ = some (.int .i64 p) ∧ w'.cell? ⟨w.heap.size, 5, none⟩ = some (.int .i64 s) ∧ Hid (Below w.heap.size w w'))) (by kernel_rfl) (drewS (newS _ _ _ _ _ _ _ _)) (fun hHeld => ?_)
    refine Tk.W 0 (some 3) (.build 74 #[(0, .const (.int .i64 1)), (1, .const (.int .i64 1000000000000000))]) 74 none ?_
    refine Tk.W 1 (some 4) (.fieldAddr 30 (.tmp 1) 4) 0 none ?_
    refine Tk.W 2 (some 5) (.load 2 (.tmp 4)) 2 none ?_
    refine Tk.R 3 (some 6) (.call ⟨.value (.func 48), #[.tmp 3, .tmp 5], #[74, 2]⟩) 4 none (fun K hK => ?_)
    go_simp
    refine (Sp.i_InSpan _ _ _ _).mono ?_
    rintro e vr53 ⟨rfl, hbr53⟩
    have kvr53 := keepS hbr53 hHeld
    try rw [hp]
    try dsimp only
    refine hK.out _ _ kvr53 ?_; clear hK K hHeld; intro hHeld; try simp only [Act.put, List.setIfInBounds_toArray, List.set_cons_zero, List.set_cons_succ]
    refine Tk.W 4 (some 7) (.move (.tmp 6)) 4 none ?_
    refine Tk.N 5 (some 8) (.fieldAddr 30 (.tmp 1) 4) 0 (some (4, true)) ?_
    refine Tk.N 6 (some 9) (.load 2 (.tmp 8)) 2 (some (4, true)) ?_
    refine Tk.N 7 (some 10) (.load 30 (.tmp 1)) 30 (some (4, true)) ?_
    refine Tk.N 9 (some 12) (.fieldAddr 30 (.tmp 1) 5) 0 (some (4, true)) ?_
    refine Tk.N 10 (some 13) (.load 2 (.tmp 12)) 2 (some (4, true)) ?_
    first | refine wpAnyH_take (i := 8) (oi := { dst := some 11, op := Op.call { callee := Callee.value (Operand.func 89), args := #[Operand.tmp 10], argTypes := #[30] }, type := 2, pos := _, after := _, guard := some (4, true) }) (v := undef) rfl (by kernel_rfl) (by kernel_rfl) (by kernel_rfl) (fun _ _ _ h => h) (Or.inr ⟨by rfl, rfl⟩) (by assumption) ?_ | (refine wpAnyH_ready (rs := [8]) (by kernel_rfl) (by simp) ?_; refine AllReadyH.cons (o := ⟨some 11, .call ⟨.value (.func 89), #[.tmp 10], #[30]⟩, 2, _, _, some (4, true)⟩) rfl (fun K hK => ?_) AllReadyH.nil; go_simp; refine hK.out _ _ (by assumption) (fun hHeld => ?_); clear hK K)
    try simp only [Act.put, List.setIfInBounds_toArray, List.set_cons_zero, List.set_cons_succ]
    refine Tk.N 11 (some 14) (.binOp .mul 2 (.tmp 11) (.tmp 13) 2) 2 (some (4, true)) ?_
    refine Tk.N 12 (some 15) (.binOp .geq 2 (.tmp 9) (.tmp 14) 2) 4 (some (4, true)) ?_
    refine Tk.W 13 (some 16) (.pick (.tmp 7) (.tmp 15) (.const (.bool false))) 4 none ?_
    refine Tk.W 14 (some 2) (.assign (.tmp 16)) 4 none ?_
    refine wpAnyH_done (by kernel_rfl) ?_ _
    refine NoPanic.normal ?_
    go_wp2_with fail
    go_ret
    exact ⟨⟨_, rfl, fun _ => by unfold P1; rw [hp]; rfl⟩, hHeld.2.2.2.2.2.2.out⟩
  | true =>
    by_cases h : R1 d r s = true
    · obtain ⟨h1, h2, h3, h4⟩ := r1_iff.1 h
      have q1 := (prod (g := 4 * d + 5 * r + 2) (s := s) (by omega) (by omega) h3 h4)
      have q2 := wrapped q1.1 q1.2
      have H : Hid (R1 d r s = true) := h
      clear h
      go_enter Tryz.func81, Tryz.ntmps81
      go_wp2_with fail
      refine wp_region_noPanic ?_
      refine wp_region_held_drew (S := (fun w' => w'.cell? ⟨w.heap.size, 0, none⟩ = some (.int .i64 n) ∧ w'.cell? ⟨w.heap.size, 1, none⟩ = some (.int .i64 l) ∧ w'.cell? ⟨w.heap.size, 2, none⟩ = some (.int .i64 d) ∧ w'.cell? ⟨w.heap.size, 3, none⟩ = some (.int .i64 r) ∧ w'.cell? ⟨w.heap.size, 4, none⟩ = some (.int .i64 p) ∧ w'.cell? ⟨w.heap.size, 5, none⟩ = some (.int .i64 s) ∧ Hid (Below w.heap.size w w'))) (by kernel_rfl) (drewS (newS _ _ _ _ _ _ _ _)) (fun hHeld => ?_)
      refine Tk.W 0 (some 3) (.build 74 #[(0, .const (.int .i64 1)), (1, .const (.int .i64 1000000000000000))]) 74 none ?_
      refine Tk.W 1 (some 4) (.fieldAddr 30 (.tmp 1) 4) 0 none ?_
      refine Tk.W 2 (some 5) (.load 2 (.tmp 4)) 2 none ?_
      refine Tk.R 3 (some 6) (.call ⟨.value (.func 48), #[.tmp 3, .tmp 5], #[74, 2]⟩) 4 none (fun K hK => ?_)
      go_simp
      refine (Sp.i_InSpan _ _ _ _).mono ?_
      rintro e vr63 ⟨rfl, hbr63⟩
      have kvr63 := keepS hbr63 hHeld
      try rw [hp]
      try dsimp only
      refine hK.out _ _ kvr63 ?_; clear hK K hHeld; intro hHeld; try simp only [Act.put, List.setIfInBounds_toArray, List.set_cons_zero, List.set_cons_succ]
      refine Tk.W 4 (some 7) (.move (.tmp 6)) 4 none ?_
      refine Tk.W 5 (some 8) (.fieldAddr 30 (.tmp 1) 4) 0 (some (4, true)) ?_
      refine Tk.W 6 (some 9) (.load 2 (.tmp 8)) 2 (some (4, true)) ?_
      refine Tk.W 7 (some 10) (.load 30 (.tmp 1)) 30 (some (4, true)) ?_
      refine Tk.W 9 (some 12) (.fieldAddr 30 (.tmp 1) 5) 0 (some (4, true)) ?_
      refine Tk.W 10 (some 13) (.load 2 (.tmp 12)) 2 (some (4, true)) ?_
      refine Tk.R 8 (some 11) (.call ⟨.value (.func 89), #[.tmp 10], #[30]⟩) 2 (some (4, true)) (fun K hK => ?_)
      go_simp
      refine (i_adj _ _ _ _ _ _ _).mono ?_
      rintro e vr68 ⟨⟨gr68, rfl, hgr68⟩, hbr68⟩
      have kvr68 := keepS hbr68 hHeld
      obtain rfl := hgr68.out ⟨h1, h2⟩
      clear hgr68
      try dsimp only
      refine hK.out _ _ kvr68 ?_; clear hK K hHeld; intro hHeld; try simp only [Act.put, List.setIfInBounds_toArray, List.set_cons_zero, List.set_cons_succ]
      refine Tk.W 11 (some 14) (.binOp .mul 2 (.tmp 11) (.tmp 13) 2) 2 (some (4, true)) ?_
      refine Tk.W 12 (some 15) (.binOp .geq 2 (.tmp 9) (.tmp 14) 2) 4 (some (4, true)) ?_
      refine Tk.W 13 (some 16) (.pick (.tmp 7) (.tmp 15) (.const (.bool false))) 4 none ?_
      refine Tk.W 14 (some 2) (.assign (.tmp 16)) 4 none ?_
      refine wpAnyH_done (by kernel_rfl) ?_ _
      refine NoPanic.normal ?_
      go_wp2_with fail
      go_ret
      exact ⟨⟨_, rfl, fun _ => by unfold P1; rw [hp]; rfl⟩, hHeld.2.2.2.2.2.2.out⟩
    · have H : Hid (¬ R1 d r s = true) := h
      clear h
      go_enter Tryz.func81, Tryz.ntmps81
      go_wp2_with fail
      refine wp_region_noPanic ?_
      refine wp_region_held_drew (S := (fun w' => w'.cell? ⟨w.heap.size, 0, none⟩ = some (.int .i64 n) ∧ w'.cell? ⟨w.heap.size, 1, none⟩ = some (.int .i64 l) ∧ w'.cell? ⟨w.heap.size, 2, none⟩ = some (.int .i64 d) ∧ w'.cell? ⟨w.heap.size, 3, none⟩ = some (.int .i64 r) ∧ w'.cell? ⟨w.heap.size, 4, none⟩ = some (.int .i64 p) ∧ w'.cell? ⟨w.heap.size, 5, none⟩ = some (.int .i64 s) ∧ Hid (Below w.heap.size w w'))) (by kernel_rfl) (drewS (newS _ _ _ _ _ _ _ _)) (fun hHeld => ?_)
      refine Tk.W 0 (some 3) (.build 74 #[(0, .const (.int .i64 1)), (1, .const (.int .i64 1000000000000000))]) 74 none ?_
      refine Tk.W 1 (some 4) (.fieldAddr 30 (.tmp 1) 4) 0 none ?_
      refine Tk.W 2 (some 5) (.load 2 (.tmp 4)) 2 none ?_
      refine Tk.R 3 (some 6) (.call ⟨.value (.func 48), #[.tmp 3, .tmp 5], #[74, 2]⟩) 4 none (fun K hK => ?_)
      go_simp
      refine (Sp.i_InSpan _ _ _ _).mono ?_
      rintro e vr73 ⟨rfl, hbr73⟩
      have kvr73 := keepS hbr73 hHeld
      try rw [hp]
      try dsimp only
      refine hK.out _ _ kvr73 ?_; clear hK K hHeld; intro hHeld; try simp only [Act.put, List.setIfInBounds_toArray, List.set_cons_zero, List.set_cons_succ]
      refine Tk.W 4 (some 7) (.move (.tmp 6)) 4 none ?_
      refine Tk.W 5 (some 8) (.fieldAddr 30 (.tmp 1) 4) 0 (some (4, true)) ?_
      refine Tk.W 6 (some 9) (.load 2 (.tmp 8)) 2 (some (4, true)) ?_
      refine Tk.W 7 (some 10) (.load 30 (.tmp 1)) 30 (some (4, true)) ?_
      refine Tk.W 9 (some 12) (.fieldAddr 30 (.tmp 1) 5) 0 (some (4, true)) ?_
      refine Tk.W 10 (some 13) (.load 2 (.tmp 12)) 2 (some (4, true)) ?_
      refine Tk.R 8 (some 11) (.call ⟨.value (.func 89), #[.tmp 10], #[30]⟩) 2 (some (4, true)) (fun K hK => ?_)
      go_simp
      refine (i_adj _ _ _ _ _ _ _).mono ?_
      rintro e vr78 ⟨⟨gr78, rfl, hgr78⟩, hbr78⟩
      have kvr78 := keepS hbr78 hHeld
      clear hgr78
      try dsimp only
      refine hK.out _ _ kvr78 ?_; clear hK K hHeld; intro hHeld; try simp only [Act.put, List.setIfInBounds_toArray, List.set_cons_zero, List.set_cons_succ]
      refine Tk.W 11 (some 14) (.binOp .mul 2 (.tmp 11) (.tmp 13) 2) 2 (some (4, true)) ?_
      refine Tk.W 12 (some 15) (.binOp .geq 2 (.tmp 9) (.tmp 14) 2) 4 (some (4, true)) ?_
      refine Tk.W 13 (some 16) (.pick (.tmp 7) (.tmp 15) (.const (.bool false))) 4 none ?_
      refine Tk.W 14 (some 2) (.assign (.tmp 16)) 4 none ?_
      refine wpAnyH_done (by kernel_rfl) ?_ _
      refine NoPanic.normal ?_
      go_wp2_with fail
      go_ret
      exact ⟨⟨_, rfl, fun h => absurd h H.out⟩, hHeld.2.2.2.2.2.2.out⟩

set_option maxHeartbeats 2000000 in
theorem i_first3 (n l d r p s : Int) (w : World) :
    Calls Tryz.prog 73 #[cfg n l d r p s, .int .i64 3] w fun e w' => e = .returned (.int .i64 (CR n l d r s)) ∧ Below w.heap.size w w' := by
  have k1 := new w n l d r p s 30
  cases hR : R1 d r s with
  | false =>
    go_enter Tryz.func73, Tryz.ntmps73
    go_wp2_with fail
    refine (i_range _ _ _ _ _ _ _).mono ?_
    rintro e w2 ⟨rfl, hb2⟩
    have k2 := keep hb2 k1
    have ⟨c20, c21, c22, c23, c24, c25⟩ := k2
    have z2 := hb2.size
    (try simp at z2)
    go_wp2_with fail
    refine (i_liars _ _ _ _ _ _ _).mono ?_
    rintro e w3 ⟨⟨b3, rfl, g3⟩, hb3⟩
    have k3 := keep hb3 k2
    have ⟨c30, c31, c32, c33, c34, c35⟩ := k3
    have z3 := hb3.size
    (try simp at z3)
    cases b3 with
    | false =>
      go_wp2_with fail
      refine (Sp.i_InSpan _ _ _ _).mono ?_
      rintro e w4 ⟨rfl, hb4⟩
      have k4 := keep hb4 k3
      have ⟨c40, c41, c42, c43, c44, c45⟩ := k4
      have z4 := hb4.size
      (try simp at z4)
      cases hn : IN 1 16 n with
      | false =>
        go_wp2
        go_ret
        refine ⟨reti ?_, ?_⟩
        · unfold CR N1; simp [hn]
        · (repeat (first | exact Below.refl _ _ | assumption | refine Below.setCell ?_ (by first | omega | (simp <;> omega)) _ | refine Below.alloc ?_ (by first | omega | (simp <;> omega)) _ | refine Below.drew ?_ | refine below_drewN ?_ _ | refine Below.trans ?_ (Below.mono (by assumption) (by first | omega | (simp <;> omega)))))
      | true =>
        go_wp2
        go_ret
        refine ⟨reti ?_, ?_⟩
        · have g := g3.out hn; unfold CR N1; simp [hn, ← g, hR]
        · (repeat (first | exact Below.refl _ _ | assumption | refine Below.setCell ?_ (by first | omega | (simp <;> omega)) _ | refine Below.alloc ?_ (by first | omega | (simp <;> omega)) _ | refine Below.drew ?_ | refine below_drewN ?_ _ | refine Below.trans ?_ (Below.mono (by assumption) (by first | omega | (simp <;> omega)))))
    | true =>
      go_wp2_with fail
      refine (Sp.i_InSpan _ _ _ _).mono ?_
      rintro e w4 ⟨rfl, hb4⟩
      have k4 := keep hb4 k3
      have ⟨c40, c41, c42, c43, c44, c45⟩ := k4
      have z4 := hb4.size
      (try simp at z4)
      cases hn : IN 1 16 n with
      | false =>
        go_wp2
        go_ret
        refine ⟨reti ?_, ?_⟩
        · unfold CR N1; simp [hn]
        · (repeat (first | exact Below.refl _ _ | assumption | refine Below.setCell ?_ (by first | omega | (simp <;> omega)) _ | refine Below.alloc ?_ (by first | omega | (simp <;> omega)) _ | refine Below.drew ?_ | refine below_drewN ?_ _ | refine Below.trans ?_ (Below.mono (by assumption) (by first | omega | (simp <;> omega)))))
      | true =>
        go_wp2
        go_ret
        refine ⟨reti ?_, ?_⟩
        · have g := g3.out hn; unfold CR N1; simp [hn, ← g, hR]
        · (repeat (first | exact Below.refl _ _ | assumption | refine Below.setCell ?_ (by first | omega | (simp <;> omega)) _ | refine Below.alloc ?_ (by first | omega | (simp <;> omega)) _ | refine Below.drew ?_ | refine below_drewN ?_ _ | refine Below.trans ?_ (Below.mono (by assumption) (by first | omega | (simp <;> omega)))))
  | true =>
    go_enter Tryz.func73, Tryz.ntmps73
    go_wp2_with fail
    refine (i_range _ _ _ _ _ _ _).mono ?_
    rintro e w2 ⟨rfl, hb2⟩
    have k2 := keep hb2 k1
    have ⟨c20, c21, c22, c23, c24, c25⟩ := k2
    have z2 := hb2.size
    (try simp at z2)
    go_wp2_with fail
    refine (i_liars _ _ _ _ _ _ _).mono ?_
    rintro e w3 ⟨⟨b3, rfl, g3⟩, hb3⟩
    have k3 := keep hb3 k2
    have ⟨c30, c31, c32, c33, c34, c35⟩ := k3
    have z3 := hb3.size
    (try simp at z3)
    cases b3 with
    | false =>
      go_wp2_with fail
      refine (Sp.i_InSpan _ _ _ _).mono ?_
      rintro e w4 ⟨rfl, hb4⟩
      have k4 := keep hb4 k3
      have ⟨c40, c41, c42, c43, c44, c45⟩ := k4
      have z4 := hb4.size
      (try simp at z4)
      cases hn : IN 1 16 n with
      | false =>
        go_wp2
        go_ret
        refine ⟨reti ?_, ?_⟩
        · unfold CR N1; simp [hn]
        · (repeat (first | exact Below.refl _ _ | assumption | refine Below.setCell ?_ (by first | omega | (simp <;> omega)) _ | refine Below.alloc ?_ (by first | omega | (simp <;> omega)) _ | refine Below.drew ?_ | refine below_drewN ?_ _ | refine Below.trans ?_ (Below.mono (by assumption) (by first | omega | (simp <;> omega)))))
      | true =>
        go_wp2
        go_ret
        refine ⟨reti ?_, ?_⟩
        · have g := g3.out hn; unfold CR N1; simp [hn, ← g, hR]
        · (repeat (first | exact Below.refl _ _ | assumption | refine Below.setCell ?_ (by first | omega | (simp <;> omega)) _ | refine Below.alloc ?_ (by first | omega | (simp <;> omega)) _ | refine Below.drew ?_ | refine below_drewN ?_ _ | refine Below.trans ?_ (Below.mono (by assumption) (by first | omega | (simp <;> omega)))))
    | true =>
      go_wp2_with fail
      refine (Sp.i_InSpan _ _ _ _).mono ?_
      rintro e w4 ⟨rfl, hb4⟩
      have k4 := keep hb4 k3
      have ⟨c40, c41, c42, c43, c44, c45⟩ := k4
      have z4 := hb4.size
      (try simp at z4)
      cases hn : IN 1 16 n with
      | false =>
        go_wp2
        go_ret
        refine ⟨reti ?_, ?_⟩
        · unfold CR N1; simp [hn]
        · (repeat (first | exact Below.refl _ _ | assumption | refine Below.setCell ?_ (by first | omega | (simp <;> omega)) _ | refine Below.alloc ?_ (by first | omega | (simp <;> omega)) _ | refine Below.drew ?_ | refine below_drewN ?_ _ | refine Below.trans ?_ (Below.mono (by assumption) (by first | omega | (simp <;> omega)))))
      | true =>
        go_wp2
        go_ret
        refine ⟨reti ?_, ?_⟩
        · have g := g3.out hn; unfold CR N1; simp [hn, ← g, hR]
        · (repeat (first | exact Below.refl _ _ | assumption | refine Below.setCell ?_ (by first | omega | (simp <;> omega)) _ | refine Below.alloc ?_ (by first | omega | (simp <;> omega)) _ | refine Below.drew ?_ | refine below_drewN ?_ _ | refine Below.trans ?_ (Below.mono (by assumption) (by first | omega | (simp <;> omega)))))

set_option maxHeartbeats 2000000 in
theorem i_first4 (n l d r p s : Int) (w : World) :
    Calls Tryz.prog 73 #[cfg n l d r p s, .int .i64 4] w fun e w' => e = .returned (.int .i64 (CP n l d r p s)) ∧ Below w.heap.size w w' := by
  have k1 := new w n l d r p s 30
  cases hR : R1 d r s with
  | false =>
    go_enter Tryz.func73, Tryz.ntmps73
    go_wp2_with fail
    refine (i_period _ _ _ _ _ _ _).mono ?_
    rintro e w2 ⟨⟨b1, rfl, g1⟩, hb2⟩
    have k2 := keep hb2 k1
    have ⟨c20, c21, c22, c23, c24, c25⟩ := k2
    have z2 := hb2.size
    (try simp at z2)
    cases b1 with
    | false =>
      go_wp2_with fail
      refine (i_range _ _ _ _ _ _ _).mono ?_
      rintro e w3 ⟨rfl, hb3⟩
      have k3 := keep hb3 k2
      have ⟨c30, c31, c32, c33, c34, c35⟩ := k3
      have z3 := hb3.size
      (try simp at z3)
      go_wp2_with fail
      refine (i_liars _ _ _ _ _ _ _).mono ?_
      rintro e w4 ⟨⟨b3, rfl, g3⟩, hb4⟩
      have k4 := keep hb4 k3
      have ⟨c40, c41, c42, c43, c44, c45⟩ := k4
      have z4 := hb4.size
      (try simp at z4)
      cases b3 with
      | false =>
        go_wp2_with fail
        refine (Sp.i_InSpan _ _ _ _).mono ?_
        rintro e w5 ⟨rfl, hb5⟩
        have k5 := keep hb5 k4
        have ⟨c50, c51, c52, c53, c54, c55⟩ := k5
        have z5 := hb5.size
        (try simp at z5)
        cases hn : IN 1 16 n with
        | false =>
          go_wp2
          go_ret
          refine ⟨reti ?_, ?_⟩
          · unfold CP N1; simp [hn]
          · (repeat (first | exact Below.refl _ _ | assumption | refine Below.setCell ?_ (by first | omega | (simp <;> omega)) _ | refine Below.alloc ?_ (by first | omega | (simp <;> omega)) _ | refine Below.drew ?_ | refine below_drewN ?_ _ | refine Below.trans ?_ (Below.mono (by assumption) (by first | omega | (simp <;> omega)))))
        | true =>
          go_wp2
          go_ret
          refine ⟨reti ?_, ?_⟩
          · have g := g3.out hn; unfold CP N1; simp [hn, ← g, hR]
          · (repeat (first | exact Below.refl _ _ | assumption | refine Below.setCell ?_ (by first | omega | (simp <;> omega)) _ | refine Below.alloc ?_ (by first | omega | (simp <;> omega)) _ | refine Below.drew ?_ | refine below_drewN ?_ _ | refine Below.trans ?_ (Below.mono (by assumption) (by first | omega | (simp <;> omega)))))
      | true =>
        go_wp2_with fail
        refine (Sp.i_InSpan _ _ _ _).mono ?_
        rintro e w5 ⟨rfl, hb5⟩
        have k5 := keep hb5 k4
        have ⟨c50, c51, c52, c53, c54, c55⟩ := k5
        have z5 := hb5.size
        (try simp at z5)
        cases hn : IN 1 16 n with
        | false =>
          go_wp2
          go_ret
          refine ⟨reti ?_, ?_⟩
          · unfold CP N1; simp [hn]
          · (repeat (first | exact Below.refl _ _ | assumption | refine Below.setCell ?_ (by first | omega | (simp <;> omega)) _ | refine Below.alloc ?_ (by first | omega | (simp <;> omega)) _ | refine Below.drew ?_ | refine below_drewN ?_ _ | refine Below.trans ?_ (Below.mono (by assumption) (by first | omega | (simp <;> omega)))))
        | true =>
          go_wp2
          go_ret
          refine ⟨reti ?_, ?_⟩
          · have g := g3.out hn; unfold CP N1; simp [hn, ← g, hR]
          · (repeat (first | exact Below.refl _ _ | assumption | refine Below.setCell ?_ (by first | omega | (simp <;> omega)) _ | refine Below.alloc ?_ (by first | omega | (simp <;> omega)) _ | refine Below.drew ?_ | refine below_drewN ?_ _ | refine Below.trans ?_ (Below.mono (by assumption) (by first | omega | (simp <;> omega)))))
    | true =>
      go_wp2_with fail
      refine (i_range _ _ _ _ _ _ _).mono ?_
      rintro e w3 ⟨rfl, hb3⟩
      have k3 := keep hb3 k2
      have ⟨c30, c31, c32, c33, c34, c35⟩ := k3
      have z3 := hb3.size
      (try simp at z3)
      go_wp2_with fail
      refine (i_liars _ _ _ _ _ _ _).mono ?_
      rintro e w4 ⟨⟨b3, rfl, g3⟩, hb4⟩
      have k4 := keep hb4 k3
      have ⟨c40, c41, c42, c43, c44, c45⟩ := k4
      have z4 := hb4.size
      (try simp at z4)
      cases b3 with
      | false =>
        go_wp2_with fail
        refine (Sp.i_InSpan _ _ _ _).mono ?_
        rintro e w5 ⟨rfl, hb5⟩
        have k5 := keep hb5 k4
        have ⟨c50, c51, c52, c53, c54, c55⟩ := k5
        have z5 := hb5.size
        (try simp at z5)
        cases hn : IN 1 16 n with
        | false =>
          go_wp2
          go_ret
          refine ⟨reti ?_, ?_⟩
          · unfold CP N1; simp [hn]
          · (repeat (first | exact Below.refl _ _ | assumption | refine Below.setCell ?_ (by first | omega | (simp <;> omega)) _ | refine Below.alloc ?_ (by first | omega | (simp <;> omega)) _ | refine Below.drew ?_ | refine below_drewN ?_ _ | refine Below.trans ?_ (Below.mono (by assumption) (by first | omega | (simp <;> omega)))))
        | true =>
          go_wp2
          go_ret
          refine ⟨reti ?_, ?_⟩
          · have g := g3.out hn; unfold CP N1; simp [hn, ← g, hR]
          · (repeat (first | exact Below.refl _ _ | assumption | refine Below.setCell ?_ (by first | omega | (simp <;> omega)) _ | refine Below.alloc ?_ (by first | omega | (simp <;> omega)) _ | refine Below.drew ?_ | refine below_drewN ?_ _ | refine Below.trans ?_ (Below.mono (by assumption) (by first | omega | (simp <;> omega)))))
      | true =>
        go_wp2_with fail
        refine (Sp.i_InSpan _ _ _ _).mono ?_
        rintro e w5 ⟨rfl, hb5⟩
        have k5 := keep hb5 k4
        have ⟨c50, c51, c52, c53, c54, c55⟩ := k5
        have z5 := hb5.size
        (try simp at z5)
        cases hn : IN 1 16 n with
        | false =>
          go_wp2
          go_ret
          refine ⟨reti ?_, ?_⟩
          · unfold CP N1; simp [hn]
          · (repeat (first | exact Below.refl _ _ | assumption | refine Below.setCell ?_ (by first | omega | (simp <;> omega)) _ | refine Below.alloc ?_ (by first | omega | (simp <;> omega)) _ | refine Below.drew ?_ | refine below_drewN ?_ _ | refine Below.trans ?_ (Below.mono (by assumption) (by first | omega | (simp <;> omega)))))
        | true =>
          go_wp2
          go_ret
          refine ⟨reti ?_, ?_⟩
          · have g := g3.out hn; unfold CP N1; simp [hn, ← g, hR]
          · (repeat (first | exact Below.refl _ _ | assumption | refine Below.setCell ?_ (by first | omega | (simp <;> omega)) _ | refine Below.alloc ?_ (by first | omega | (simp <;> omega)) _ | refine Below.drew ?_ | refine below_drewN ?_ _ | refine Below.trans ?_ (Below.mono (by assumption) (by first | omega | (simp <;> omega)))))
  | true =>
    go_enter Tryz.func73, Tryz.ntmps73
    go_wp2_with fail
    refine (i_period _ _ _ _ _ _ _).mono ?_
    rintro e w2 ⟨⟨b1, rfl, g1⟩, hb2⟩
    have k2 := keep hb2 k1
    have ⟨c20, c21, c22, c23, c24, c25⟩ := k2
    have z2 := hb2.size
    (try simp at z2)
    obtain rfl := g1.out hR
    cases hP : P1 d r p s with
    | false =>
      go_wp2_with fail
      refine (i_range _ _ _ _ _ _ _).mono ?_
      rintro e w3 ⟨rfl, hb3⟩
      have k3 := keep hb3 k2
      have ⟨c30, c31, c32, c33, c34, c35⟩ := k3
      have z3 := hb3.size
      (try simp at z3)
      go_wp2_with fail
      refine (i_liars _ _ _ _ _ _ _).mono ?_
      rintro e w4 ⟨⟨b3, rfl, g3⟩, hb4⟩
      have k4 := keep hb4 k3
      have ⟨c40, c41, c42, c43, c44, c45⟩ := k4
      have z4 := hb4.size
      (try simp at z4)
      cases b3 with
      | false =>
        go_wp2_with fail
        refine (Sp.i_InSpan _ _ _ _).mono ?_
        rintro e w5 ⟨rfl, hb5⟩
        have k5 := keep hb5 k4
        have ⟨c50, c51, c52, c53, c54, c55⟩ := k5
        have z5 := hb5.size
        (try simp at z5)
        cases hn : IN 1 16 n with
        | false =>
          go_wp2
          go_ret
          refine ⟨reti ?_, ?_⟩
          · unfold CP N1; simp [hn]
          · (repeat (first | exact Below.refl _ _ | assumption | refine Below.setCell ?_ (by first | omega | (simp <;> omega)) _ | refine Below.alloc ?_ (by first | omega | (simp <;> omega)) _ | refine Below.drew ?_ | refine below_drewN ?_ _ | refine Below.trans ?_ (Below.mono (by assumption) (by first | omega | (simp <;> omega)))))
        | true =>
          go_wp2
          go_ret
          refine ⟨reti ?_, ?_⟩
          · have g := g3.out hn; unfold CP N1; simp [hn, ← g, hR, hP]
          · (repeat (first | exact Below.refl _ _ | assumption | refine Below.setCell ?_ (by first | omega | (simp <;> omega)) _ | refine Below.alloc ?_ (by first | omega | (simp <;> omega)) _ | refine Below.drew ?_ | refine below_drewN ?_ _ | refine Below.trans ?_ (Below.mono (by assumption) (by first | omega | (simp <;> omega)))))
      | true =>
        go_wp2_with fail
        refine (Sp.i_InSpan _ _ _ _).mono ?_
        rintro e w5 ⟨rfl, hb5⟩
        have k5 := keep hb5 k4
        have ⟨c50, c51, c52, c53, c54, c55⟩ := k5
        have z5 := hb5.size
        (try simp at z5)
        cases hn : IN 1 16 n with
        | false =>
          go_wp2
          go_ret
          refine ⟨reti ?_, ?_⟩
          · unfold CP N1; simp [hn]
          · (repeat (first | exact Below.refl _ _ | assumption | refine Below.setCell ?_ (by first | omega | (simp <;> omega)) _ | refine Below.alloc ?_ (by first | omega | (simp <;> omega)) _ | refine Below.drew ?_ | refine below_drewN ?_ _ | refine Below.trans ?_ (Below.mono (by assumption) (by first | omega | (simp <;> omega)))))
        | true =>
          go_wp2
          go_ret
          refine ⟨reti ?_, ?_⟩
          · have g := g3.out hn; unfold CP N1; simp [hn, ← g, hR, hP]
          · (repeat (first | exact Below.refl _ _ | assumption | refine Below.setCell ?_ (by first | omega | (simp <;> omega)) _ | refine Below.alloc ?_ (by first | omega | (simp <;> omega)) _ | refine Below.drew ?_ | refine below_drewN ?_ _ | refine Below.trans ?_ (Below.mono (by assumption) (by first | omega | (simp <;> omega)))))
    | true =>
      go_wp2_with fail
      refine (i_range _ _ _ _ _ _ _).mono ?_
      rintro e w3 ⟨rfl, hb3⟩
      have k3 := keep hb3 k2
      have ⟨c30, c31, c32, c33, c34, c35⟩ := k3
      have z3 := hb3.size
      (try simp at z3)
      go_wp2_with fail
      refine (i_liars _ _ _ _ _ _ _).mono ?_
      rintro e w4 ⟨⟨b3, rfl, g3⟩, hb4⟩
      have k4 := keep hb4 k3
      have ⟨c40, c41, c42, c43, c44, c45⟩ := k4
      have z4 := hb4.size
      (try simp at z4)
      cases b3 with
      | false =>
        go_wp2_with fail
        refine (Sp.i_InSpan _ _ _ _).mono ?_
        rintro e w5 ⟨rfl, hb5⟩
        have k5 := keep hb5 k4
        have ⟨c50, c51, c52, c53, c54, c55⟩ := k5
        have z5 := hb5.size
        (try simp at z5)
        cases hn : IN 1 16 n with
        | false =>
          go_wp2
          go_ret
          refine ⟨reti ?_, ?_⟩
          · unfold CP N1; simp [hn]
          · (repeat (first | exact Below.refl _ _ | assumption | refine Below.setCell ?_ (by first | omega | (simp <;> omega)) _ | refine Below.alloc ?_ (by first | omega | (simp <;> omega)) _ | refine Below.drew ?_ | refine below_drewN ?_ _ | refine Below.trans ?_ (Below.mono (by assumption) (by first | omega | (simp <;> omega)))))
        | true =>
          go_wp2
          go_ret
          refine ⟨reti ?_, ?_⟩
          · have g := g3.out hn; unfold CP N1; simp [hn, ← g, hR, hP]
          · (repeat (first | exact Below.refl _ _ | assumption | refine Below.setCell ?_ (by first | omega | (simp <;> omega)) _ | refine Below.alloc ?_ (by first | omega | (simp <;> omega)) _ | refine Below.drew ?_ | refine below_drewN ?_ _ | refine Below.trans ?_ (Below.mono (by assumption) (by first | omega | (simp <;> omega)))))
      | true =>
        go_wp2_with fail
        refine (Sp.i_InSpan _ _ _ _).mono ?_
        rintro e w5 ⟨rfl, hb5⟩
        have k5 := keep hb5 k4
        have ⟨c50, c51, c52, c53, c54, c55⟩ := k5
        have z5 := hb5.size
        (try simp at z5)
        cases hn : IN 1 16 n with
        | false =>
          go_wp2
          go_ret
          refine ⟨reti ?_, ?_⟩
          · unfold CP N1; simp [hn]
          · (repeat (first | exact Below.refl _ _ | assumption | refine Below.setCell ?_ (by first | omega | (simp <;> omega)) _ | refine Below.alloc ?_ (by first | omega | (simp <;> omega)) _ | refine Below.drew ?_ | refine below_drewN ?_ _ | refine Below.trans ?_ (Below.mono (by assumption) (by first | omega | (simp <;> omega)))))
        | true =>
          go_wp2
          go_ret
          refine ⟨reti ?_, ?_⟩
          · have g := g3.out hn; unfold CP N1; simp [hn, ← g, hR, hP]
          · (repeat (first | exact Below.refl _ _ | assumption | refine Below.setCell ?_ (by first | omega | (simp <;> omega)) _ | refine Below.alloc ?_ (by first | omega | (simp <;> omega)) _ | refine Below.drew ?_ | refine below_drewN ?_ _ | refine Below.trans ?_ (Below.mono (by assumption) (by first | omega | (simp <;> omega)))))

end Go.Proofs.YtcgcmceobmpdiaaGreat.Cf
