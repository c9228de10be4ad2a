/-
  The Go functions of the fourth chapter, impl's and spec's, each by one answer, at every config; each writes nothing that was there ahead of it.
-/
import Derived.Test.YtnocmfhlmpgbmaaGreatSpan
namespace Go.Proofs.YtnocmfhlmpgbmaaGreat.Cf
open Go.ChangeShapes Go.WideShapes Go.ChangeAt Go.RowKit
open Ad (Tm)
open Sp (span OK LK IN bcell retb reti)
set_option linter.unusedVariables false
set_option linter.unusedSimpArgs false

abbrev cfg (n l d r p s : Int) : Value := .agg #[.int .i64 n, .int .i64 l, .int .i64 d, .int .i64 r, .int .i64 p, .int .i64 s]
/-- The nodes are right. -/
def N1 (n : Int) : Bool := IN 1 16 n
def L1 (n l : Int) : Bool := decide (0 ≤ l ∧ 3 * l + 1 ≤ n)
def R1 (d r s : Int) : Bool := (IN 0 1000000 d && IN 0 1000000 r) && IN 2 100000 s
def P1 (d r p s : Int) : Bool := IN 1 1000000000000000 p && decide ((4 * d + 5 * r + 2) * s ≤ p)
/-- The code, but for the period. -/
def CR (n l d r s : Int) : Int := if N1 n then if L1 n l then if R1 d r s then 0 else 3 else 2 else 1
def CP (n l d r p s : Int) : Int := if N1 n then if L1 n l then if R1 d r s then if P1 d r p s then 0 else 4 else 3 else 2 else 1
def GM (n l d r s : Int) : Int := if CR n l d r s = 0 then 2 * d + 4 * r + 2 else -1
def SM (n l d r s : Int) : Int := if CR n l d r s = 0 then 4 * d + 4 * r + 2 else -1
def AM (n l d r s : Int) : Int := if CR n l d r s = 0 then 4 * d + 5 * r + 2 else -1
def QM (n l d r s : Int) : Int := if CR n l d r s = 0 then (n + l) / 2 + 1 else -1

theorem in_iff (lo hi n : Int) : IN lo hi n = true ↔ (Tm lo ∧ Tm hi ∧ lo ≤ hi) ∧ lo ≤ n ∧ n ≤ hi := by
  unfold IN OK LK
  simp [Bool.and_eq_true]
theorem in_c {lo hi n : Int} (h : Tm lo ∧ Tm hi ∧ lo ≤ hi) : IN lo hi n = decide (lo ≤ n ∧ n ≤ hi) := by
  rw [Bool.eq_iff_iff, in_iff, decide_eq_true_iff]; exact ⟨fun k => k.2, fun k => ⟨h, k⟩⟩
/-- spec.l1In's answer is InSpan's. -/
theorem lk_in {lo hi n : Int} (h : Tm lo ∧ Tm hi ∧ lo ≤ hi) : (!LK lo hi n) = IN lo hi n := by
  unfold IN; rw [Sp.ok_yes h.1 h.2.1 h.2.2, Bool.true_and]
theorem n1_iff {n : Int} : N1 n = true ↔ 1 ≤ n ∧ n ≤ 16 := by unfold N1; rw [in_c (by decide), decide_eq_true_iff]
theorem l1_iff {n l : Int} : L1 n l = true ↔ 0 ≤ l ∧ 3 * l + 1 ≤ n := by unfold L1; rw [decide_eq_true_iff]
theorem dr_iff {d : Int} : IN 0 1000000 d = true ↔ 0 ≤ d ∧ d ≤ 1000000 := by rw [in_c (by decide), decide_eq_true_iff]
theorem sl_iff {s : Int} : IN 2 100000 s = true ↔ 2 ≤ s ∧ s ≤ 100000 := by rw [in_c (by decide), decide_eq_true_iff]
theorem pe_iff {p : Int} : IN 1 1000000000000000 p = true ↔ 1 ≤ p ∧ p ≤ 1000000000000000 := by rw [in_c (by decide), decide_eq_true_iff]
theorem r1_iff {d r s : Int} : R1 d r s = true ↔ (0 ≤ d ∧ d ≤ 1000000) ∧ (0 ≤ r ∧ r ≤ 1000000) ∧ 2 ≤ s ∧ s ≤ 100000 := by
  unfold R1; rw [Bool.and_eq_true, Bool.and_eq_true, dr_iff, dr_iff, sl_iff, and_assoc]
theorem cr_zero {n l d r s : Int} : CR n l d r s = 0 ↔ N1 n = true ∧ L1 n l = true ∧ R1 d r s = true := by
  unfold CR; cases N1 n <;> cases L1 n l <;> cases R1 d r s <;> simp
theorem cp_zero {n l d r p s : Int} : CP n l d r p s = 0 ↔ CR n l d r s = 0 ∧ P1 d r p s = true := by
  unfold CP CR; cases N1 n <;> cases L1 n l <;> cases R1 d r s <;> cases P1 d r p s <;> simp
abbrev Rg (d r : Int) : Prop := (0 ≤ d ∧ d ≤ 1000000) ∧ 0 ≤ r ∧ r ≤ 1000000
/-- A product of what is put right at most and the slew fits. -/
theorem prod {g s : Int} (h0 : 0 ≤ g) (h1 : g ≤ 9000002) (h2 : 2 ≤ s) (h3 : s ≤ 100000) : 0 ≤ g * s ∧ g * s ≤ 900000200000 := by
  refine ⟨Int.mul_nonneg h0 (by omega), ?_⟩
  calc g * s ≤ 9000002 * s := Int.mul_le_mul_of_nonneg_right h1 (by omega)
    _ ≤ 900000200000 := by omega
theorem wrapped {x : Int} (h0 : 0 ≤ x) (h1 : x ≤ 900000200000) : IntKind.i64.wrap x = x := by rw [IntKind.wrap_i64]; omega

theorem keep {W w1 : World} {g : Nat} {n l d r p s : Int} (hb : Below W.heap.size W w1) (h : W.cell? ⟨g, 0, none⟩ = some (.int .i64 n) ∧ W.cell? ⟨g, 1, none⟩ = some (.int .i64 l) ∧ W.cell? ⟨g, 2, none⟩ = some (.int .i64 d) ∧ W.cell? ⟨g, 3, none⟩ = some (.int .i64 r) ∧ W.cell? ⟨g, 4, none⟩ = some (.int .i64 p) ∧ W.cell? ⟨g, 5, none⟩ = some (.int .i64 s)) : w1.cell? ⟨g, 0, none⟩ = some (.int .i64 n) ∧ w1.cell? ⟨g, 1, none⟩ = some (.int .i64 l) ∧ w1.cell? ⟨g, 2, none⟩ = some (.int .i64 d) ∧ w1.cell? ⟨g, 3, none⟩ = some (.int .i64 r) ∧ w1.cell? ⟨g, 4, none⟩ = some (.int .i64 p) ∧ w1.cell? ⟨g, 5, none⟩ = some (.int .i64 s) := by
  obtain ⟨h0, h1, h2, h3, h4, h5⟩ := h
  refine ⟨?_, ?_, ?_, ?_, ?_, ?_⟩
  · rw [hb.cell (World.block_lt_of_cell? _ _ h0)]; exact h0
  · rw [hb.cell (World.block_lt_of_cell? _ _ h1)]; exact h1
  · rw [hb.cell (World.block_lt_of_cell? _ _ h2)]; exact h2
  · rw [hb.cell (World.block_lt_of_cell? _ _ h3)]; exact h3
  · rw [hb.cell (World.block_lt_of_cell? _ _ h4)]; exact h4
  · rw [hb.cell (World.block_lt_of_cell? _ _ h5)]; exact h5

theorem new (w : World) (n l d r p s : Int) (t : TypeId) : (w.alloc (.cells #[.int .i64 n, .int .i64 l, .int .i64 d, .int .i64 r, .int .i64 p, .int .i64 s] t)).cell? ⟨w.heap.size, 0, none⟩ = some (.int .i64 n) ∧ (w.alloc (.cells #[.int .i64 n, .int .i64 l, .int .i64 d, .int .i64 r, .int .i64 p, .int .i64 s] t)).cell? ⟨w.heap.size, 1, none⟩ = some (.int .i64 l) ∧ (w.alloc (.cells #[.int .i64 n, .int .i64 l, .int .i64 d, .int .i64 r, .int .i64 p, .int .i64 s] t)).cell? ⟨w.heap.size, 2, none⟩ = some (.int .i64 d) ∧ (w.alloc (.cells #[.int .i64 n, .int .i64 l, .int .i64 d, .int .i64 r, .int .i64 p, .int .i64 s] t)).cell? ⟨w.heap.size, 3, none⟩ = some (.int .i64 r) ∧ (w.alloc (.cells #[.int .i64 n, .int .i64 l, .int .i64 d, .int .i64 r, .int .i64 p, .int .i64 s] t)).cell? ⟨w.heap.size, 4, none⟩ = some (.int .i64 p) ∧ (w.alloc (.cells #[.int .i64 n, .int .i64 l, .int .i64 d, .int .i64 r, .int .i64 p, .int .i64 s] t)).cell? ⟨w.heap.size, 5, none⟩ = some (.int .i64 s) :=
  ⟨World.cell?_alloc_new _ _ _ _, World.cell?_alloc_new _ _ _ _, World.cell?_alloc_new _ _ _ _, World.cell?_alloc_new _ _ _ _, World.cell?_alloc_new _ _ _ _, World.cell?_alloc_new _ _ _ _⟩

theorem keepS {w W w1 : World} {g : Nat} {n l d r p s : Int} (hb : Below W.heap.size W w1) (h : W.cell? ⟨g, 0, none⟩ = some (.int .i64 n) ∧ W.cell? ⟨g, 1, none⟩ = some (.int .i64 l) ∧ W.cell? ⟨g, 2, none⟩ = some (.int .i64 d) ∧ W.cell? ⟨g, 3, none⟩ = some (.int .i64 r) ∧ W.cell? ⟨g, 4, none⟩ = some (.int .i64 p) ∧ W.cell? ⟨g, 5, none⟩ = some (.int .i64 s) ∧ Hid (Below w.heap.size w W)) : w1.cell? ⟨g, 0, none⟩ = some (.int .i64 n) ∧ w1.cell? ⟨g, 1, none⟩ = some (.int .i64 l) ∧ w1.cell? ⟨g, 2, none⟩ = some (.int .i64 d) ∧ w1.cell? ⟨g, 3, none⟩ = some (.int .i64 r) ∧ w1.cell? ⟨g, 4, none⟩ = some (.int .i64 p) ∧ w1.cell? ⟨g, 5, none⟩ = some (.int .i64 s) ∧ Hid (Below w.heap.size w w1) := by
  obtain ⟨h0, h1, h2, h3, h4, h5, h6⟩ := h
  obtain ⟨k0, k1, k2, k3, k4, k5⟩ := keep hb ⟨h0, h1, h2, h3, h4, h5⟩
  exact ⟨k0, k1, k2, k3, k4, k5, h6.out.trans (hb.mono h6.out.size)⟩

theorem newS (w : World) (n l d r p s : Int) (t : TypeId) : (w.alloc (.cells #[.int .i64 n, .int .i64 l, .int .i64 d, .int .i64 r, .int .i64 p, .int .i64 s] t)).cell? ⟨w.heap.size, 0, none⟩ = some (.int .i64 n) ∧ (w.alloc (.cells #[.int .i64 n, .int .i64 l, .int .i64 d, .int .i64 r, .int .i64 p, .int .i64 s] t)).cell? ⟨w.heap.size, 1, none⟩ = some (.int .i64 l) ∧ (w.alloc (.cells #[.int .i64 n, .int .i64 l, .int .i64 d, .int .i64 r, .int .i64 p, .int .i64 s] t)).cell? ⟨w.heap.size, 2, none⟩ = some (.int .i64 d) ∧ (w.alloc (.cells #[.int .i64 n, .int .i64 l, .int .i64 d, .int .i64 r, .int .i64 p, .int .i64 s] t)).cell? ⟨w.heap.size, 3, none⟩ = some (.int .i64 r) ∧ (w.alloc (.cells #[.int .i64 n, .int .i64 l, .int .i64 d, .int .i64 r, .int .i64 p, .int .i64 s] t)).cell? ⟨w.heap.size, 4, none⟩ = some (.int .i64 p) ∧ (w.alloc (.cells #[.int .i64 n, .int .i64 l, .int .i64 d, .int .i64 r, .int .i64 p, .int .i64 s] t)).cell? ⟨w.heap.size, 5, none⟩ = some (.int .i64 s) ∧ Hid (Below w.heap.size w (w.alloc (.cells #[.int .i64 n, .int .i64 l, .int .i64 d, .int .i64 r, .int .i64 p, .int .i64 s] t))) := by
  obtain ⟨k0, k1, k2, k3, k4, k5⟩ := new w n l d r p s t
  exact ⟨k0, k1, k2, k3, k4, k5, (Below.refl _ _).alloc (Nat.le_refl _) _⟩

theorem drewS {w W : World} {g : Nat} {n l d r p s : Int} (h : W.cell? ⟨g, 0, none⟩ = some (.int .i64 n) ∧ W.cell? ⟨g, 1, none⟩ = some (.int .i64 l) ∧ W.cell? ⟨g, 2, none⟩ = some (.int .i64 d) ∧ W.cell? ⟨g, 3, none⟩ = some (.int .i64 r) ∧ W.cell? ⟨g, 4, none⟩ = some (.int .i64 p) ∧ W.cell? ⟨g, 5, none⟩ = some (.int .i64 s) ∧ Hid (Below w.heap.size w W)) : W.drew.cell? ⟨g, 0, none⟩ = some (.int .i64 n) ∧ W.drew.cell? ⟨g, 1, none⟩ = some (.int .i64 l) ∧ W.drew.cell? ⟨g, 2, none⟩ = some (.int .i64 d) ∧ W.drew.cell? ⟨g, 3, none⟩ = some (.int .i64 r) ∧ W.drew.cell? ⟨g, 4, none⟩ = some (.int .i64 p) ∧ W.drew.cell? ⟨g, 5, none⟩ = some (.int .i64 s) ∧ Hid (Below w.heap.size w W.drew) := keepS (Below.refl _ _).drew h

theorem i_gap (n l d r p s : Int) (w : World) :
    Calls Tryz.prog 130 #[cfg n l d r p s] w fun e w' => (∃ g : Int, e = .returned (.int .i64 g) ∧ Hid (Rg d r → g = 2 * d + 4 * r + 2)) ∧ Below w.heap.size w w' := by
  by_cases h : Rg d r
  · obtain ⟨⟨h1, h2⟩, h3, h4⟩ := h
    go_enter Tryz.func130, Tryz.ntmps130
    go_wp2
    go_ret
    exact ⟨⟨_, rfl, fun _ => by omega⟩, (Below.refl _ _).alloc (Nat.le_refl _) _⟩
  · have H : Hid (¬ Rg d r) := h
    clear h
    go_enter Tryz.func130, Tryz.ntmps130
    go_wp2
    go_ret
    exact ⟨⟨_, rfl, fun h => absurd h H.out⟩, (Below.refl _ _).alloc (Nat.le_refl _) _⟩

set_option maxHeartbeats 2000000 in
theorem i_skew (n l d r p s : Int) (w : World) :
    Calls Tryz.prog 118 #[cfg n l d r p s] w fun e w' => (∃ g : Int, e = .returned (.int .i64 g) ∧ Hid (Rg d r → g = 4 * d + 4 * r + 2)) ∧ Below w.heap.size w w' := by
  by_cases h : Rg d r
  · obtain ⟨⟨h1, h2⟩, h3, h4⟩ := h
    go_enter Tryz.func118, Tryz.ntmps118
    go_wp2_with fail
    refine wp_region_noPanic ?_
    refine wp_region_held_drew (S := (fun w' => w'.cell? ⟨w.heap.size, 0, none⟩ = some (.int .i64 n) ∧ w'.cell? ⟨w.heap.size, 1, none⟩ = some (.int .i64 l) ∧ w'.cell? ⟨w.heap.size, 2, none⟩ = some (.int .i64 d) ∧ w'.cell? ⟨w.heap.size, 3, none⟩ = some (.int .i64 r) ∧ w'.cell? ⟨w.heap.size, 4, none⟩ = some (.int .i64 p) ∧ w'.cell? ⟨w.heap.size, 5, none⟩ = some (.int .i64 s) ∧ Hid (Below w.heap.size w w'))) (by kernel_rfl) (drewS (newS _ _ _ _ _ _ _ _)) (fun hHeld => ?_)
    refine wpAnyH_take (i := 0) (oi := { dst := some 3, op := Op.load 25 (Operand.tmp 1), type := 25, pos := _, after := _, guard := none }) (v := ?vr10) rfl (by kernel_rfl) (by kernel_rfl) (by kernel_rfl) (fun _ _ _ h => h) (Or.inl ⟨by rfl, ?hyr10⟩) (by assumption) ?restr10
    case hyr10 => (intro w hSw; (try dsimp only at hSw); go_simp; first | done | with_reducible rfl)
    try simp only [Act.put, List.setIfInBounds_toArray, List.set_cons_zero, List.set_cons_succ]
    refine wpAnyH_take (i := 2) (oi := { dst := some 5, op := Op.fieldAddr 25 (Operand.tmp 1) 2, type := 0, pos := _, after := _, guard := none }) (v := ?vr12) rfl (by kernel_rfl) (by kernel_rfl) (by kernel_rfl) (fun _ _ _ h => h) (Or.inl ⟨by rfl, ?hyr12⟩) (by assumption) ?restr12
    case hyr12 => (intro w hSw; (try dsimp only at hSw); go_simp; first | done | with_reducible rfl)
    try simp only [Act.put, List.setIfInBounds_toArray, List.set_cons_zero, List.set_cons_succ]
    refine wpAnyH_take (i := 3) (oi := { dst := some 6, op := Op.load 2 (Operand.tmp 5), type := 2, pos := _, after := _, guard := none }) (v := ?vr13) rfl (by kernel_rfl) (by kernel_rfl) (by kernel_rfl) (fun _ _ _ h => h) (Or.inl ⟨by rfl, ?hyr13⟩) (by assumption) ?restr13
    case hyr13 => (intro w hSw; (try dsimp only at hSw); go_simp; first | done | with_reducible rfl)
    try simp only [Act.put, List.setIfInBounds_toArray, List.set_cons_zero, List.set_cons_succ]
    refine wpAnyH_take (i := 4) (oi := { dst := some 7, op := Op.binOp BinOp.mul 2 (Operand.const (Value.int IntKind.i64 2)) (Operand.tmp 6) 2, type := 2, pos := _, after := _, guard := none }) (v := ?vr14) rfl (by kernel_rfl) (by kernel_rfl) (by kernel_rfl) (fun _ _ _ h => h) (Or.inl ⟨by rfl, ?hyr14⟩) (by assumption) ?restr14
    case hyr14 => (intro w hSw; (try dsimp only at hSw); go_simp; first | done | with_reducible rfl)
    try simp only [Act.put, List.setIfInBounds_toArray, List.set_cons_zero, List.set_cons_succ]
    refine wpAnyH_ready (rs := [1]) (by kernel_rfl) (by simp) ?_
    refine AllReadyH.cons (o := { dst := some 4, op := Op.call { callee := Callee.value (Operand.func 130), args := #[Operand.tmp 3], argTypes := #[25] }, type := 2, pos := _, after := _, guard := none }) rfl (fun K hK => ?_) AllReadyH.nil
    go_simp
    refine (i_gap _ _ _ _ _ _ _).mono ?_
    rintro e vr11 ⟨⟨gr11, rfl, hgr11⟩, hbr11⟩
    have kvr11 := keepS hbr11 hHeld
    obtain rfl := hgr11.out ⟨⟨h1, h2⟩, h3, h4⟩
    clear hgr11
    try dsimp only
    refine hK.out _ _ kvr11 (fun hHeld' => ?_)
    clear hK K hHeld
    have hHeld := hHeld'
    clear hHeld'
    try simp only [Act.put, List.setIfInBounds_toArray, List.set_cons_zero, List.set_cons_succ]
    refine wpAnyH_take (i := 5) (oi := { dst := some 8, op := Op.binOp BinOp.add 2 (Operand.tmp 4) (Operand.tmp 7) 2, type := 2, pos := _, after := _, guard := none }) (v := ?vr15) rfl (by kernel_rfl) (by kernel_rfl) (by kernel_rfl) (fun _ _ _ h => h) (Or.inl ⟨by rfl, ?hyr15⟩) (by assumption) ?restr15
    case hyr15 => (intro w hSw; (try dsimp only at hSw); go_simp; first | done | with_reducible rfl)
    try simp only [Act.put, List.setIfInBounds_toArray, List.set_cons_zero, List.set_cons_succ]
    refine wpAnyH_take (i := 6) (oi := { dst := some 2, op := Op.assign (Operand.tmp 8), type := 2, pos := _, after := _, guard := none }) (v := ?vr16) rfl (by kernel_rfl) (by kernel_rfl) (by kernel_rfl) (fun _ _ _ h => h) (Or.inl ⟨by rfl, ?hyr16⟩) (by assumption) ?restr16
    case hyr16 => (intro w hSw; (try dsimp only at hSw); go_simp; first | done | with_reducible rfl)
    try simp only [Act.put, List.setIfInBounds_toArray, List.set_cons_zero, List.set_cons_succ]
    refine wpAnyH_done (by kernel_rfl) ?_ _
    refine NoPanic.normal ?_
    go_wp2_with fail
    go_ret
    exact ⟨⟨_, rfl, fun _ => by (try simp only [IntKind.wrap_i64]); omega⟩, hHeld.2.2.2.2.2.2.out⟩
  · have H : Hid (¬ Rg d r) := h
    clear h
    go_enter Tryz.func118, Tryz.ntmps118
    go_wp2_with fail
    refine wp_region_noPanic ?_
    refine wp_region_held_drew (S := (fun w' => w'.cell? ⟨w.heap.size, 0, none⟩ = some (.int .i64 n) ∧ w'.cell? ⟨w.heap.size, 1, none⟩ = some (.int .i64 l) ∧ w'.cell? ⟨w.heap.size, 2, none⟩ = some (.int .i64 d) ∧ w'.cell? ⟨w.heap.size, 3, none⟩ = some (.int .i64 r) ∧ w'.cell? ⟨w.heap.size, 4, none⟩ = some (.int .i64 p) ∧ w'.cell? ⟨w.heap.size, 5, none⟩ = some (.int .i64 s) ∧ Hid (Below w.heap.size w w'))) (by kernel_rfl) (drewS (newS _ _ _ _ _ _ _ _)) (fun hHeld => ?_)
    refine wpAnyH_take (i := 0) (oi := { dst := some 3, op := Op.load 25 (Operand.tmp 1), type := 25, pos := _, after := _, guard := none }) (v := ?vr20) rfl (by kernel_rfl) (by kernel_rfl) (by kernel_rfl) (fun _ _ _ h => h) (Or.inl ⟨by rfl, ?hyr20⟩) (by assumption) ?restr20
    case hyr20 => (intro w hSw; (try dsimp only at hSw); go_simp; first | done | with_reducible rfl)
    try simp only [Act.put, List.setIfInBounds_toArray, List.set_cons_zero, List.set_cons_succ]
    refine wpAnyH_take (i := 2) (oi := { dst := some 5, op := Op.fieldAddr 25 (Operand.tmp 1) 2, type := 0, pos := _, after := _, guard := none }) (v := ?vr22) rfl (by kernel_rfl) (by kernel_rfl) (by kernel_rfl) (fun _ _ _ h => h) (Or.inl ⟨by rfl, ?hyr22⟩) (by assumption) ?restr22
    case hyr22 => (intro w hSw; (try dsimp only at hSw); go_simp; first | done | with_reducible rfl)
    try simp only [Act.put, List.setIfInBounds_toArray, List.set_cons_zero, List.set_cons_succ]
    refine wpAnyH_take (i := 3) (oi := { dst := some 6, op := Op.load 2 (Operand.tmp 5), type := 2, pos := _, after := _, guard := none }) (v := ?vr23) rfl (by kernel_rfl) (by kernel_rfl) (by kernel_rfl) (fun _ _ _ h => h) (Or.inl ⟨by rfl, ?hyr23⟩) (by assumption) ?restr23
    case hyr23 => (intro w hSw; (try dsimp only at hSw); go_simp; first | done | with_reducible rfl)
    try simp only [Act.put, List.setIfInBounds_toArray, List.set_cons_zero, List.set_cons_succ]
    refine wpAnyH_take (i := 4) (oi := { dst := some 7, op := Op.binOp BinOp.mul 2 (Operand.const (Value.int IntKind.i64 2)) (Operand.tmp 6) 2, type := 2, pos := _, after := _, guard := none }) (v := ?vr24) rfl (by kernel_rfl) (by kernel_rfl) (by kernel_rfl) (fun _ _ _ h => h) (Or.inl ⟨by rfl, ?hyr24⟩) (by assumption) ?restr24
    case hyr24 => (intro w hSw; (try dsimp only at hSw); go_simp; first | done | with_reducible rfl)
    try simp only [Act.put, List.setIfInBounds_toArray, List.set_cons_zero, List.set_cons_succ]
    refine wpAnyH_ready (rs := [1]) (by kernel_rfl) (by simp) ?_
    refine AllReadyH.cons (o := { dst := some 4, op := Op.call { callee := Callee.value (Operand.func 130), args := #[Operand.tmp 3], argTypes := #[25] }, type := 2, pos := _, after := _, guard := none }) rfl (fun K hK => ?_) AllReadyH.nil
    go_simp
    refine (i_gap _ _ _ _ _ _ _).mono ?_
    rintro e vr21 ⟨⟨gr21, rfl, hgr21⟩, hbr21⟩
    have kvr21 := keepS hbr21 hHeld
    try dsimp only
    refine hK.out _ _ kvr21 (fun hHeld' => ?_)
    clear hK K hHeld
    have hHeld := hHeld'
    clear hHeld'
    try simp only [Act.put, List.setIfInBounds_toArray, List.set_cons_zero, List.set_cons_succ]
    refine wpAnyH_take (i := 5) (oi := { dst := some 8, op := Op.binOp BinOp.add 2 (Operand.tmp 4) (Operand.tmp 7) 2, type := 2, pos := _, after := _, guard := none }) (v := ?vr25) rfl (by kernel_rfl) (by kernel_rfl) (by kernel_rfl) (fun _ _ _ h => h) (Or.inl ⟨by rfl, ?hyr25⟩) (by assumption) ?restr25
    case hyr25 => (intro w hSw; (try dsimp only at hSw); go_simp; first | done | with_reducible rfl)
    try simp only [Act.put, List.setIfInBounds_toArray, List.set_cons_zero, List.set_cons_succ]
    refine wpAnyH_take (i := 6) (oi := { dst := some 2, op := Op.assign (Operand.tmp 8), type := 2, pos := _, after := _, guard := none }) (v := ?vr26) rfl (by kernel_rfl) (by kernel_rfl) (by kernel_rfl) (fun _ _ _ h => h) (Or.inl ⟨by rfl, ?hyr26⟩) (by assumption) ?restr26
    case hyr26 => (intro w hSw; (try dsimp only at hSw); go_simp; first | done | with_reducible rfl)
    try simp only [Act.put, List.setIfInBounds_toArray, List.set_cons_zero, List.set_cons_succ]
    refine wpAnyH_done (by kernel_rfl) ?_ _
    refine NoPanic.normal ?_
    go_wp2_with fail
    go_ret
    exact ⟨⟨_, rfl, fun h => absurd h H.out⟩, hHeld.2.2.2.2.2.2.out⟩

set_option maxHeartbeats 2000000 in
theorem i_adj (n l d r p s : Int) (w : World) :
    Calls Tryz.prog 115 #[cfg n l d r p s] w fun e w' => (∃ g : Int, e = .returned (.int .i64 g) ∧ Hid (Rg d r → g = 4 * d + 5 * r + 2)) ∧ Below w.heap.size w w' := by
  by_cases h : Rg d r
  · obtain ⟨⟨h1, h2⟩, h3, h4⟩ := h
    go_enter Tryz.func115, Tryz.ntmps115
    go_wp2_with fail
    refine wp_region_noPanic ?_
    refine wp_region_held_drew (S := (fun w' => w'.cell? ⟨w.heap.size, 0, none⟩ = some (.int .i64 n) ∧ w'.cell? ⟨w.heap.size, 1, none⟩ = some (.int .i64 l) ∧ w'.cell? ⟨w.heap.size, 2, none⟩ = some (.int .i64 d) ∧ w'.cell? ⟨w.heap.size, 3, none⟩ = some (.int .i64 r) ∧ w'.cell? ⟨w.heap.size, 4, none⟩ = some (.int .i64 p) ∧ w'.cell? ⟨w.heap.size, 5, none⟩ = some (.int .i64 s) ∧ Hid (Below w.heap.size w w'))) (by kernel_rfl) (drewS (newS _ _ _ _ _ _ _ _)) (fun hHeld => ?_)
    refine wpAnyH_take (i := 0) (oi := { dst := some 3, op := Op.load 25 (Operand.tmp 1), type := 25, pos := _, after := _, guard := none }) (v := ?vr30) rfl (by kernel_rfl) (by kernel_rfl) (by kernel_rfl) (fun _ _ _ h => h) (Or.inl ⟨by rfl, ?hyr30⟩) (by assumption) ?restr30
    case hyr30 => (intro w hSw; (try dsimp only at hSw); go_simp; first | done | with_reducible rfl)
    try simp only [Act.put, List.setIfInBounds_toArray, List.set_cons_zero, List.set_cons_succ]
    refine wpAnyH_take (i := 2) (oi := { dst := some 5, op := Op.fieldAddr 25 (Operand.tmp 1) 3, type := 0, pos := _, after := _, guard := none }) (v := ?vr32) rfl (by kernel_rfl) (by kernel_rfl) (by kernel_rfl) (fun _ _ _ h => h) (Or.inl ⟨by rfl, ?hyr32⟩) (by assumption) ?restr32
    case hyr32 => (intro w hSw; (try dsimp only at hSw); go_simp; first | done | with_reducible rfl)
    try simp only [Act.put, List.setIfInBounds_toArray, List.set_cons_zero, List.set_cons_succ]
    refine wpAnyH_take (i := 3) (oi := { dst := some 6, op := Op.load 2 (Operand.tmp 5), type := 2, pos := _, after := _, guard := none }) (v := ?vr33) rfl (by kernel_rfl) (by kernel_rfl) (by kernel_rfl) (fun _ _ _ h => h) (Or.inl ⟨by rfl, ?hyr33⟩) (by assumption) ?restr33
    case hyr33 => (intro w hSw; (try dsimp only at hSw); go_simp; first | done | with_reducible rfl)
    try simp only [Act.put, List.setIfInBounds_toArray, List.set_cons_zero, List.set_cons_succ]
    refine wpAnyH_ready (rs := [1]) (by kernel_rfl) (by simp) ?_
    refine AllReadyH.cons (o := { dst := some 4, op := Op.call { callee := Callee.value (Operand.func 118), args := #[Operand.tmp 3], argTypes := #[25] }, type := 2, pos := _, after := _, guard := none }) rfl (fun K hK => ?_) AllReadyH.nil
    go_simp
    refine (i_skew _ _ _ _ _ _ _).mono ?_
    rintro e vr31 ⟨⟨gr31, rfl, hgr31⟩, hbr31⟩
    have kvr31 := keepS hbr31 hHeld
    obtain rfl := hgr31.out ⟨⟨h1, h2⟩, h3, h4⟩
    clear hgr31
    try dsimp only
    refine hK.out _ _ kvr31 (fun hHeld' => ?_)
    clear hK K hHeld
    have hHeld := hHeld'
    clear hHeld'
    try simp only [Act.put, List.setIfInBounds_toArray, List.set_cons_zero, List.set_cons_succ]
    refine wpAnyH_take (i := 4) (oi := { dst := some 7, op := Op.binOp BinOp.add 2 (Operand.tmp 4) (Operand.tmp 6) 2, type := 2, pos := _, after := _, guard := none }) (v := ?vr34) rfl (by kernel_rfl) (by kernel_rfl) (by kernel_rfl) (fun _ _ _ h => h) (Or.inl ⟨by rfl, ?hyr34⟩) (by assumption) ?restr34
    case hyr34 => (intro w hSw; (try dsimp only at hSw); go_simp; first | done | with_reducible rfl)
    try simp only [Act.put, List.setIfInBounds_toArray, List.set_cons_zero, List.set_cons_succ]
    refine wpAnyH_take (i := 5) (oi := { dst := some 2, op := Op.assign (Operand.tmp 7), type := 2, pos := _, after := _, guard := none }) (v := ?vr35) rfl (by kernel_rfl) (by kernel_rfl) (by kernel_rfl) (fun _ _ _ h => h) (Or.inl ⟨by rfl, ?hyr35⟩) (by assumption) ?restr35
    case hyr35 => (intro w hSw; (try dsimp only at hSw); go_simp; first | done | with_reducible rfl)
    try simp only [Act.put, List.setIfInBounds_toArray, List.set_cons_zero, List.set_cons_succ]
    refine wpAnyH_done (by kernel_rfl) ?_ _
    refine NoPanic.normal ?_
    go_wp2_with fail
    go_ret
    exact ⟨⟨_, rfl, fun _ => by (try simp only [IntKind.wrap_i64]); omega⟩, hHeld.2.2.2.2.2.2.out⟩
  · have H : Hid (¬ Rg d r) := h
    clear h
    go_enter Tryz.func115, Tryz.ntmps115
    go_wp2_with fail
    refine wp_region_noPanic ?_
    refine wp_region_held_drew (S := (fun w' => w'.cell? ⟨w.heap.size, 0, none⟩ = some (.int .i64 n) ∧ w'.cell? ⟨w.heap.size, 1, none⟩ = some (.int .i64 l) ∧ w'.cell? ⟨w.heap.size, 2, none⟩ = some (.int .i64 d) ∧ w'.cell? ⟨w.heap.size, 3, none⟩ = some (.int .i64 r) ∧ w'.cell? ⟨w.heap.size, 4, none⟩ = some (.int .i64 p) ∧ w'.cell? ⟨w.heap.size, 5, none⟩ = some (.int .i64 s) ∧ Hid (Below w.heap.size w w'))) (by kernel_rfl) (drewS (newS _ _ _ _ _ _ _ _)) (fun hHeld => ?_)
    refine wpAnyH_take (i := 0) (oi := { dst := some 3, op := Op.load 25 (Operand.tmp 1), type := 25, pos := _, after := _, guard := none }) (v := ?vr40) rfl (by kernel_rfl) (by kernel_rfl) (by kernel_rfl) (fun _ _ _ h => h) (Or.inl ⟨by rfl, ?hyr40⟩) (by assumption) ?restr40
    case hyr40 => (intro w hSw; (try dsimp only at hSw); go_simp; first | done | with_reducible rfl)
    try simp only [Act.put, List.setIfInBounds_toArray, List.set_cons_zero, List.set_cons_succ]
    refine wpAnyH_take (i := 2) (oi := { dst := some 5, op := Op.fieldAddr 25 (Operand.tmp 1) 3, type := 0, pos := _, after := _, guard := none }) (v := ?vr42) rfl (by kernel_rfl) (by kernel_rfl) (by kernel_rfl) (fun _ _ _ h => h) (Or.inl ⟨by rfl, ?hyr42⟩) (by assumption) ?restr42
    case hyr42 => (intro w hSw; (try dsimp only at hSw); go_simp; first | done | with_reducible rfl)
    try simp only [Act.put, List.setIfInBounds_toArray, List.set_cons_zero, List.set_cons_succ]
    refine wpAnyH_take (i := 3) (oi := { dst := some 6, op := Op.load 2 (Operand.tmp 5), type := 2, pos := _, after := _, guard := none }) (v := ?vr43) rfl (by kernel_rfl) (by kernel_rfl) (by kernel_rfl) (fun _ _ _ h => h) (Or.inl ⟨by rfl, ?hyr43⟩) (by assumption) ?restr43
    case hyr43 => (intro w hSw; (try dsimp only at hSw); go_simp; first | done | with_reducible rfl)
    try simp only [Act.put, List.setIfInBounds_toArray, List.set_cons_zero, List.set_cons_succ]
    refine wpAnyH_ready (rs := [1]) (by kernel_rfl) (by simp) ?_
    refine AllReadyH.cons (o := { dst := some 4, op := Op.call { callee := Callee.value (Operand.func 118), args := #[Operand.tmp 3], argTypes := #[25] }, type := 2, pos := _, after := _, guard := none }) rfl (fun K hK => ?_) AllReadyH.nil
    go_simp
    refine (i_skew _ _ _ _ _ _ _).mono ?_
    rintro e vr41 ⟨⟨gr41, rfl, hgr41⟩, hbr41⟩
    have kvr41 := keepS hbr41 hHeld
    try dsimp only
    refine hK.out _ _ kvr41 (fun hHeld' => ?_)
    clear hK K hHeld
    have hHeld := hHeld'
    clear hHeld'
    try simp only [Act.put, List.setIfInBounds_toArray, List.set_cons_zero, List.set_cons_succ]
    refine wpAnyH_take (i := 4) (oi := { dst := some 7, op := Op.binOp BinOp.add 2 (Operand.tmp 4) (Operand.tmp 6) 2, type := 2, pos := _, after := _, guard := none }) (v := ?vr44) rfl (by kernel_rfl) (by kernel_rfl) (by kernel_rfl) (fun _ _ _ h => h) (Or.inl ⟨by rfl, ?hyr44⟩) (by assumption) ?restr44
    case hyr44 => (intro w hSw; (try dsimp only at hSw); go_simp; first | done | with_reducible rfl)
    try simp only [Act.put, List.setIfInBounds_toArray, List.set_cons_zero, List.set_cons_succ]
    refine wpAnyH_take (i := 5) (oi := { dst := some 2, op := Op.assign (Operand.tmp 7), type := 2, pos := _, after := _, guard := none }) (v := ?vr45) rfl (by kernel_rfl) (by kernel_rfl) (by kernel_rfl) (fun _ _ _ h => h) (Or.inl ⟨by rfl, ?hyr45⟩) (by assumption) ?restr45
    case hyr45 => (intro w hSw; (try dsimp only at hSw); go_simp; first | done | with_reducible rfl)
    try simp only [Act.put, List.setIfInBounds_toArray, List.set_cons_zero, List.set_cons_succ]
    refine wpAnyH_done (by kernel_rfl) ?_ _
    refine NoPanic.normal ?_
    go_wp2_with fail
    go_ret
    exact ⟨⟨_, rfl, fun h => absurd h H.out⟩, hHeld.2.2.2.2.2.2.out⟩

set_option maxHeartbeats 2000000 in
theorem i_range (n l d r p s : Int) (w : World) :
    Calls Tryz.prog 109 #[cfg n l d r p s] w fun e w' => e = .returned (.bool (R1 d r s)) ∧ Below w.heap.size w w' := by
  unfold R1
  cases hd : IN 0 1000000 d with
  | false =>
    go_enter Tryz.func109, Tryz.ntmps109
    go_wp2_with fail
    refine (Sp.i_InSpan _ _ _ _).mono ?_
    rintro e w2 ⟨rfl, hb2⟩
    obtain ⟨hc2, hf2⟩ := bcell hb2
    have z2 := hb2.size
    (try simp at z2)
    have y2 : w.heap.size < w2.heap.size := by omega
    have x2 : w.heap.size + 1 < w2.heap.size := by omega
    go_wp2
    go_ret
    refine ⟨rfl, ?_⟩
    (repeat (first | exact Below.refl _ _ | assumption | refine Below.setCell ?_ (by first | omega | (simp <;> omega)) _ | refine Below.alloc ?_ (by first | omega | (simp <;> omega)) _ | refine Below.drew ?_ | refine below_drewN ?_ _ | refine Below.trans ?_ (Below.mono (by assumption) (by first | omega | (simp <;> omega)))))
  | true =>
    cases hr : IN 0 1000000 r with
    | false =>
      go_enter Tryz.func109, Tryz.ntmps109
      go_wp2_with fail
      refine (Sp.i_InSpan _ _ _ _).mono ?_
      rintro e w2 ⟨rfl, hb2⟩
      obtain ⟨hc2, hf2⟩ := bcell hb2
      have z2 := hb2.size
      (try simp at z2)
      have y2 : w.heap.size < w2.heap.size := by omega
      have x2 : w.heap.size + 1 < w2.heap.size := by omega
      go_wp2_with fail
      refine (Sp.i_InSpan _ _ _ _).mono ?_
      rintro e w3 ⟨rfl, hb3⟩
      obtain ⟨hc3, hf3⟩ := bcell hb3
      have z3 := hb3.size
      (try simp at z3)
      have y3 : w.heap.size < w3.heap.size := by omega
      have x3 : w.heap.size + 1 < w3.heap.size := by omega
      go_wp2
      go_ret
      refine ⟨rfl, ?_⟩
      (repeat (first | exact Below.refl _ _ | assumption | refine Below.setCell ?_ (by first | omega | (simp <;> omega)) _ | refine Below.alloc ?_ (by first | omega | (simp <;> omega)) _ | refine Below.drew ?_ | refine below_drewN ?_ _ | refine Below.trans ?_ (Below.mono (by assumption) (by first | omega | (simp <;> omega)))))
    | true =>
      go_enter Tryz.func109, Tryz.ntmps109
      go_wp2_with fail
      refine (Sp.i_InSpan _ _ _ _).mono ?_
      rintro e w2 ⟨rfl, hb2⟩
      obtain ⟨hc2, hf2⟩ := bcell hb2
      have z2 := hb2.size
      (try simp at z2)
      have y2 : w.heap.size < w2.heap.size := by omega
      have x2 : w.heap.size + 1 < w2.heap.size := by omega
      go_wp2_with fail
      refine (Sp.i_InSpan _ _ _ _).mono ?_
      rintro e w3 ⟨rfl, hb3⟩
      obtain ⟨hc3, hf3⟩ := bcell hb3
      have z3 := hb3.size
      (try simp at z3)
      have y3 : w.heap.size < w3.heap.size := by omega
      have x3 : w.heap.size + 1 < w3.heap.size := by omega
      go_wp2_with fail
      refine (Sp.i_InSpan _ _ _ _).mono ?_
      rintro e w4 ⟨rfl, hb4⟩
      obtain ⟨hc4, hf4⟩ := bcell hb4
      have z4 := hb4.size
      (try simp at z4)
      have y4 : w.heap.size < w4.heap.size := by omega
      have x4 : w.heap.size + 1 < w4.heap.size := by omega
      go_wp2
      go_ret
      refine ⟨retb (by simp), ?_⟩
      (repeat (first | exact Below.refl _ _ | assumption | refine Below.setCell ?_ (by first | omega | (simp <;> omega)) _ | refine Below.alloc ?_ (by first | omega | (simp <;> omega)) _ | refine Below.drew ?_ | refine below_drewN ?_ _ | refine Below.trans ?_ (Below.mono (by assumption) (by first | omega | (simp <;> omega)))))

theorem third {n l : Int} (h1 : 1 ≤ n) (h2 : n ≤ 16) : IN 0 ((n - 1) / 3) l = L1 n l := by
  rw [Bool.eq_iff_iff, in_iff, l1_iff]
  unfold Tm
  omega

set_option maxHeartbeats 2000000 in
theorem i_liars (n l d r p s : Int) (w : World) :
    Calls Tryz.prog 110 #[cfg n l d r p s] w fun e w' => (∃ b : Bool, e = .returned (.bool b) ∧ Hid (N1 n = true → b = L1 n l)) ∧ Below w.heap.size w w' := by
  by_cases h : N1 n = true
  · obtain ⟨h1, h2⟩ := n1_iff.1 h
    have H : Hid (N1 n = true) := h
    clear h
    go_enter Tryz.func110, Tryz.ntmps110
    go_wp2_with fail
    refine (Sp.i_InSpan _ _ _ _).mono ?_
    rintro e w2 ⟨rfl, hb2⟩
    obtain ⟨hc2, hf2⟩ := bcell hb2
    have z2 := hb2.size
    (try simp at z2)
    go_wp2
    go_ret
    refine ⟨⟨_, rfl, fun _ => third h1 h2⟩, ?_⟩
    (repeat (first | exact Below.refl _ _ | assumption | refine Below.setCell ?_ (by first | omega | (simp <;> omega)) _ | refine Below.alloc ?_ (by first | omega | (simp <;> omega)) _ | refine Below.drew ?_ | refine below_drewN ?_ _ | refine Below.trans ?_ (Below.mono (by assumption) (by first | omega | (simp <;> omega)))))
  · have H : Hid (¬ N1 n = true) := h
    clear h
    go_enter Tryz.func110, Tryz.ntmps110
    go_wp2_with fail
    refine (Sp.i_InSpan _ _ _ _).mono ?_
    rintro e w2 ⟨rfl, hb2⟩
    obtain ⟨hc2, hf2⟩ := bcell hb2
    have z2 := hb2.size
    (try simp at z2)
    go_wp2
    go_ret
    refine ⟨⟨_, rfl, fun h => absurd h H.out⟩, ?_⟩
    (repeat (first | exact Below.refl _ _ | assumption | refine Below.setCell ?_ (by first | omega | (simp <;> omega)) _ | refine Below.alloc ?_ (by first | omega | (simp <;> omega)) _ | refine Below.drew ?_ | refine below_drewN ?_ _ | refine Below.trans ?_ (Below.mono (by assumption) (by first | omega | (simp <;> omega)))))

set_option maxHeartbeats 2000000 in
theorem i_period (n l d r p s : Int) (w : World) :
    Calls Tryz.prog 108 #[cfg n l d r p s] w fun e w' => (∃ b : Bool, e = .returned (.bool b) ∧ Hid (R1 d r s = true → b = P1 d r p s)) ∧ Below w.heap.size w w' := by
  cases hp : IN 1 1000000000000000 p with
  | false =>
    go_enter Tryz.func108, Tryz.ntmps108
    go_wp2_with fail
    refine wp_region_noPanic ?_
    refine wp_region_held_drew (S := (fun w' => w'.cell? ⟨w.heap.size, 0, none⟩ = some (.int .i64 n) ∧ w'.cell? ⟨w.heap.size, 1, none⟩ = some (.int .i64 l) ∧ w'.cell? ⟨w.heap.size, 2, none⟩ = some (.int .i64 d) ∧ w'.cell? ⟨w.heap.size, 3, none⟩ = some (.int .i64 r) ∧ w'.cell? ⟨w.heap.size, 4, none⟩ = some (.int .i64 p) ∧ w'.cell? ⟨w.heap.size, 5, none⟩ = some (.int .i64 s) ∧ Hid (Below w.heap.size w w'))) (by kernel_rfl) (drewS (newS _ _ _ _ _ _ _ _)) (fun hHeld => ?_)
    refine wpAnyH_take (i := 0) (oi := { dst := some 3, op := Op.build 41 #[(0, Operand.const (Value.int IntKind.i64 1)), (1, Operand.const (Value.int IntKind.i64 1000000000000000))], type := 41, pos := _, after := _, guard := none }) (v := ?vr50) rfl (by kernel_rfl) (by kernel_rfl) (by kernel_rfl) (fun _ _ _ h => h) (Or.inl ⟨by rfl, ?hyr50⟩) (by assumption) ?restr50
    case hyr50 => (intro w hSw; (try dsimp only at hSw); go_simp; first | done | with_reducible rfl)
    try simp only [Act.put, List.setIfInBounds_toArray, List.set_cons_zero, List.set_cons_succ]
    refine wpAnyH_take (i := 1) (oi := { dst := some 4, op := Op.fieldAddr 25 (Operand.tmp 1) 4, type := 0, pos := _, after := _, guard := none }) (v := ?vr51) rfl (by kernel_rfl) (by kernel_rfl) (by kernel_rfl) (fun _ _ _ h => h) (Or.inl ⟨by rfl, ?hyr51⟩) (by assumption) ?restr51
    case hyr51 => (intro w hSw; (try dsimp only at hSw); go_simp; first | done | with_reducible rfl)
    try simp only [Act.put, List.setIfInBounds_toArray, List.set_cons_zero, List.set_cons_succ]
    refine wpAnyH_take (i := 2) (oi := { dst := some 5, op := Op.load 2 (Operand.tmp 4), type := 2, pos := _, after := _, guard := none }) (v := ?vr52) rfl (by kernel_rfl) (by kernel_rfl) (by kernel_rfl) (fun _ _ _ h => h) (Or.inl ⟨by rfl, ?hyr52⟩) (by assumption) ?restr52
    case hyr52 => (intro w hSw; (try dsimp only at hSw); go_simp; first | done | with_reducible rfl)
    try simp only [Act.put, List.setIfInBounds_toArray, List.set_cons_zero, List.set_cons_succ]
    refine wpAnyH_ready (rs := [3]) (by kernel_rfl) (by simp) ?_
    refine AllReadyH.cons (o := { dst := some 6, op := Op.call { callee := Callee.value (Operand.func 70), args := #[Operand.tmp 3, Operand.tmp 5], argTypes := #[41, 2] }, type := 4, pos := _, after := _, guard := none }) rfl (fun K hK => ?_) AllReadyH.nil
    go_simp
    refine (Sp.i_InSpan _ _ _ _).mono ?_
    rintro e vr53 ⟨rfl, hbr53⟩
    have kvr53 := keepS hbr53 hHeld
    try rw [hp]
    try dsimp only
    refine hK.out _ _ kvr53 (fun hHeld' => ?_)
    clear hK K hHeld
    have hHeld := hHeld'
    clear hHeld'
    try simp only [Act.put, List.setIfInBounds_toArray, List.set_cons_zero, List.set_cons_succ]
    refine wpAnyH_take (i := 4) (oi := { dst := some 7, op := Op.move (Operand.tmp 6), type := 4, pos := _, after := _, guard := none }) (v := ?vr54) rfl (by kernel_rfl) (by kernel_rfl) (by kernel_rfl) (fun _ _ _ h => h) (Or.inl ⟨by rfl, ?hyr54⟩) (by assumption) ?restr54
    case hyr54 => (intro w hSw; (try dsimp only at hSw); go_simp; first | done | with_reducible rfl)
    try simp only [Act.put, List.setIfInBounds_toArray, List.set_cons_zero, List.set_cons_succ]
    refine wpAnyH_take (i := 5) (oi := { dst := some 8, op := Op.fieldAddr 25 (Operand.tmp 1) 4, type := 0, pos := _, after := _, guard := some (4, true) }) (v := undef) rfl (by kernel_rfl) (by kernel_rfl) (by kernel_rfl) (fun _ _ _ h => h) (Or.inr ⟨by rfl, rfl⟩) (by assumption) ?_
    try simp only [Act.put, List.setIfInBounds_toArray, List.set_cons_zero, List.set_cons_succ]
    refine wpAnyH_take (i := 6) (oi := { dst := some 9, op := Op.load 2 (Operand.tmp 8), type := 2, pos := _, after := _, guard := some (4, true) }) (v := undef) rfl (by kernel_rfl) (by kernel_rfl) (by kernel_rfl) (fun _ _ _ h => h) (Or.inr ⟨by rfl, rfl⟩) (by assumption) ?_
    try simp only [Act.put, List.setIfInBounds_toArray, List.set_cons_zero, List.set_cons_succ]
    refine wpAnyH_take (i := 7) (oi := { dst := some 10, op := Op.load 25 (Operand.tmp 1), type := 25, pos := _, after := _, guard := some (4, true) }) (v := undef) rfl (by kernel_rfl) (by kernel_rfl) (by kernel_rfl) (fun _ _ _ h => h) (Or.inr ⟨by rfl, rfl⟩) (by assumption) ?_
    try simp only [Act.put, List.setIfInBounds_toArray, List.set_cons_zero, List.set_cons_succ]
    refine wpAnyH_take (i := 9) (oi := { dst := some 12, op := Op.fieldAddr 25 (Operand.tmp 1) 5, type := 0, pos := _, after := _, guard := some (4, true) }) (v := undef) rfl (by kernel_rfl) (by kernel_rfl) (by kernel_rfl) (fun _ _ _ h => h) (Or.inr ⟨by rfl, rfl⟩) (by assumption) ?_
    try simp only [Act.put, List.setIfInBounds_toArray, List.set_cons_zero, List.set_cons_succ]
    refine wpAnyH_take (i := 10) (oi := { dst := some 13, op := Op.load 2 (Operand.tmp 12), type := 2, pos := _, after := _, guard := some (4, true) }) (v := undef) rfl (by kernel_rfl) (by kernel_rfl) (by kernel_rfl) (fun _ _ _ h => h) (Or.inr ⟨by rfl, rfl⟩) (by assumption) ?_
    try simp only [Act.put, List.setIfInBounds_toArray, List.set_cons_zero, List.set_cons_succ]
    first | refine wpAnyH_take (i := 8) (oi := { dst := some 11, op := Op.call { callee := Callee.value (Operand.func 115), args := #[Operand.tmp 10], argTypes := #[25] }, type := 2, pos := _, after := _, guard := some (4, true) }) (v := undef) rfl (by kernel_rfl) (by kernel_rfl) (by kernel_rfl) (fun _ _ _ h => h) (Or.inr ⟨by rfl, rfl⟩) (by assumption) ?_ | (refine wpAnyH_ready (rs := [8]) (by kernel_rfl) (by simp) ?_; refine AllReadyH.cons (o := { dst := some 11, op := Op.call { callee := Callee.value (Operand.func 115), args := #[Operand.tmp 10], argTypes := #[25] }, type := 2, pos := _, after := _, guard := some (4, true) }) rfl (fun K hK => ?_) AllReadyH.nil; go_simp; refine hK.out _ _ (by assumption) (fun hHeld => ?_); clear hK K)
    try simp only [Act.put, List.setIfInBounds_toArray, List.set_cons_zero, List.set_cons_succ]
    refine wpAnyH_take (i := 11) (oi := { dst := some 14, op := Op.binOp BinOp.mul 2 (Operand.tmp 11) (Operand.tmp 13) 2, type := 2, pos := _, after := _, guard := some (4, true) }) (v := undef) rfl (by kernel_rfl) (by kernel_rfl) (by kernel_rfl) (fun _ _ _ h => h) (Or.inr ⟨by rfl, rfl⟩) (by assumption) ?_
    try simp only [Act.put, List.setIfInBounds_toArray, List.set_cons_zero, List.set_cons_succ]
    refine wpAnyH_take (i := 12) (oi := { dst := some 15, op := Op.binOp BinOp.geq 2 (Operand.tmp 9) (Operand.tmp 14) 2, type := 4, pos := _, after := _, guard := some (4, true) }) (v := undef) rfl (by kernel_rfl) (by kernel_rfl) (by kernel_rfl) (fun _ _ _ h => h) (Or.inr ⟨by rfl, rfl⟩) (by assumption) ?_
    try simp only [Act.put, List.setIfInBounds_toArray, List.set_cons_zero, List.set_cons_succ]
    refine wpAnyH_take (i := 13) (oi := { dst := some 16, op := Op.pick (Operand.tmp 7) (Operand.tmp 15) (Operand.const (Value.bool false)), type := 4, pos := _, after := _, guard := none }) (v := ?vr513) rfl (by kernel_rfl) (by kernel_rfl) (by kernel_rfl) (fun _ _ _ h => h) (Or.inl ⟨by rfl, ?hyr513⟩) (by assumption) ?restr513
    case hyr513 => (intro w hSw; (try dsimp only at hSw); go_simp; first | done | with_reducible rfl)
    try simp only [Act.put, List.setIfInBounds_toArray, List.set_cons_zero, List.set_cons_succ]
    refine wpAnyH_take (i := 14) (oi := { dst := some 2, op := Op.assign (Operand.tmp 16), type := 4, pos := _, after := _, guard := none }) (v := ?vr514) rfl (by kernel_rfl) (by kernel_rfl) (by kernel_rfl) (fun _ _ _ h => h) (Or.inl ⟨by rfl, ?hyr514⟩) (by assumption) ?restr514
    case hyr514 => (intro w hSw; (try dsimp only at hSw); go_simp; first | done | with_reducible rfl)
    try simp only [Act.put, List.setIfInBounds_toArray, List.set_cons_zero, List.set_cons_succ]
    refine wpAnyH_done (by kernel_rfl) ?_ _
    refine NoPanic.normal ?_
    go_wp2_with fail
    go_ret
    exact ⟨⟨_, rfl, fun _ => by unfold P1; rw [hp]; rfl⟩, hHeld.2.2.2.2.2.2.out⟩
  | true =>
    by_cases h : R1 d r s = true
    · obtain ⟨h1, h2, h3, h4⟩ := r1_iff.1 h
      have q1 := (prod (g := 4 * d + 5 * r + 2) (s := s) (by omega) (by omega) h3 h4)
      have q2 := wrapped q1.1 q1.2
      have H : Hid (R1 d r s = true) := h
      clear h
      go_enter Tryz.func108, Tryz.ntmps108
      go_wp2_with fail
      refine wp_region_noPanic ?_
      refine wp_region_held_drew (S := (fun w' => w'.cell? ⟨w.heap.size, 0, none⟩ = some (.int .i64 n) ∧ w'.cell? ⟨w.heap.size, 1, none⟩ = some (.int .i64 l) ∧ w'.cell? ⟨w.heap.size, 2, none⟩ = some (.int .i64 d) ∧ w'.cell? ⟨w.heap.size, 3, none⟩ = some (.int .i64 r) ∧ w'.cell? ⟨w.heap.size, 4, none⟩ = some (.int .i64 p) ∧ w'.cell? ⟨w.heap.size, 5, none⟩ = some (.int .i64 s) ∧ Hid (Below w.heap.size w w'))) (by kernel_rfl) (drewS (newS _ _ _ _ _ _ _ _)) (fun hHeld => ?_)
      refine wpAnyH_take (i := 0) (oi := { dst := some 3, op := Op.build 41 #[(0, Operand.const (Value.int IntKind.i64 1)), (1, Operand.const (Value.int IntKind.i64 1000000000000000))], type := 41, pos := _, after := _, guard := none }) (v := ?vr60) rfl (by kernel_rfl) (by kernel_rfl) (by kernel_rfl) (fun _ _ _ h => h) (Or.inl ⟨by rfl, ?hyr60⟩) (by assumption) ?restr60
      case hyr60 => (intro w hSw; (try dsimp only at hSw); go_simp; first | done | with_reducible rfl)
      try simp only [Act.put, List.setIfInBounds_toArray, List.set_cons_zero, List.set_cons_succ]
      refine wpAnyH_take (i := 1) (oi := { dst := some 4, op := Op.fieldAddr 25 (Operand.tmp 1) 4, type := 0, pos := _, after := _, guard := none }) (v := ?vr61) rfl (by kernel_rfl) (by kernel_rfl) (by kernel_rfl) (fun _ _ _ h => h) (Or.inl ⟨by rfl, ?hyr61⟩) (by assumption) ?restr61
      case hyr61 => (intro w hSw; (try dsimp only at hSw); go_simp; first | done | with_reducible rfl)
      try simp only [Act.put, List.setIfInBounds_toArray, List.set_cons_zero, List.set_cons_succ]
      refine wpAnyH_take (i := 2) (oi := { dst := some 5, op := Op.load 2 (Operand.tmp 4), type := 2, pos := _, after := _, guard := none }) (v := ?vr62) rfl (by kernel_rfl) (by kernel_rfl) (by kernel_rfl) (fun _ _ _ h => h) (Or.inl ⟨by rfl, ?hyr62⟩) (by assumption) ?restr62
      case hyr62 => (intro w hSw; (try dsimp only at hSw); go_simp; first | done | with_reducible rfl)
      try simp only [Act.put, List.setIfInBounds_toArray, List.set_cons_zero, List.set_cons_succ]
      refine wpAnyH_ready (rs := [3]) (by kernel_rfl) (by simp) ?_
      refine AllReadyH.cons (o := { dst := some 6, op := Op.call { callee := Callee.value (Operand.func 70), args := #[Operand.tmp 3, Operand.tmp 5], argTypes := #[41, 2] }, type := 4, pos := _, after := _, guard := none }) rfl (fun K hK => ?_) AllReadyH.nil
      go_simp
      refine (Sp.i_InSpan _ _ _ _).mono ?_
      rintro e vr63 ⟨rfl, hbr63⟩
      have kvr63 := keepS hbr63 hHeld
      try rw [hp]
      try dsimp only
      refine hK.out _ _ kvr63 (fun hHeld' => ?_)
      clear hK K hHeld
      have hHeld := hHeld'
      clear hHeld'
      try simp only [Act.put, List.setIfInBounds_toArray, List.set_cons_zero, List.set_cons_succ]
      refine wpAnyH_take (i := 4) (oi := { dst := some 7, op := Op.move (Operand.tmp 6), type := 4, pos := _, after := _, guard := none }) (v := ?vr64) rfl (by kernel_rfl) (by kernel_rfl) (by kernel_rfl) (fun _ _ _ h => h) (Or.inl ⟨by rfl, ?hyr64⟩) (by assumption) ?restr64
      case hyr64 => (intro w hSw; (try dsimp only at hSw); go_simp; first | done | with_reducible rfl)
      try simp only [Act.put, List.setIfInBounds_toArray, List.set_cons_zero, List.set_cons_succ]
      refine wpAnyH_take (i := 5) (oi := { dst := some 8, op := Op.fieldAddr 25 (Operand.tmp 1) 4, type := 0, pos := _, after := _, guard := some (4, true) }) (v := ?vr65) rfl (by kernel_rfl) (by kernel_rfl) (by kernel_rfl) (fun _ _ _ h => h) (Or.inl ⟨by rfl, ?hyr65⟩) (by assumption) ?restr65
      case hyr65 => (intro w hSw; (try dsimp only at hSw); go_simp; first | done | with_reducible rfl)
      try simp only [Act.put, List.setIfInBounds_toArray, List.set_cons_zero, List.set_cons_succ]
      refine wpAnyH_take (i := 6) (oi := { dst := some 9, op := Op.load 2 (Operand.tmp 8), type := 2, pos := _, after := _, guard := some (4, true) }) (v := ?vr66) rfl (by kernel_rfl) (by kernel_rfl) (by kernel_rfl) (fun _ _ _ h => h) (Or.inl ⟨by rfl, ?hyr66⟩) (by assumption) ?restr66
      case hyr66 => (intro w hSw; (try dsimp only at hSw); go_simp; first | done | with_reducible rfl)
      try simp only [Act.put, List.setIfInBounds_toArray, List.set_cons_zero, List.set_cons_succ]
      refine wpAnyH_take (i := 7) (oi := { dst := some 10, op := Op.load 25 (Operand.tmp 1), type := 25, pos := _, after := _, guard := some (4, true) }) (v := ?vr67) rfl (by kernel_rfl) (by kernel_rfl) (by kernel_rfl) (fun _ _ _ h => h) (Or.inl ⟨by rfl, ?hyr67⟩) (by assumption) ?restr67
      case hyr67 => (intro w hSw; (try dsimp only at hSw); go_simp; first | done | with_reducible rfl)
      try simp only [Act.put, List.setIfInBounds_toArray, List.set_cons_zero, List.set_cons_succ]
      refine wpAnyH_take (i := 9) (oi := { dst := some 12, op := Op.fieldAddr 25 (Operand.tmp 1) 5, type := 0, pos := _, after := _, guard := some (4, true) }) (v := ?vr69) rfl (by kernel_rfl) (by kernel_rfl) (by kernel_rfl) (fun _ _ _ h => h) (Or.inl ⟨by rfl, ?hyr69⟩) (by assumption) ?restr69
      case hyr69 => (intro w hSw; (try dsimp only at hSw); go_simp; first | done | with_reducible rfl)
      try simp only [Act.put, List.setIfInBounds_toArray, List.set_cons_zero, List.set_cons_succ]
      refine wpAnyH_take (i := 10) (oi := { dst := some 13, op := Op.load 2 (Operand.tmp 12), type := 2, pos := _, after := _, guard := some (4, true) }) (v := ?vr610) rfl (by kernel_rfl) (by kernel_rfl) (by kernel_rfl) (fun _ _ _ h => h) (Or.inl ⟨by rfl, ?hyr610⟩) (by assumption) ?restr610
      case hyr610 => (intro w hSw; (try dsimp only at hSw); go_simp; first | done | with_reducible rfl)
      try simp only [Act.put, List.setIfInBounds_toArray, List.set_cons_zero, List.set_cons_succ]
      refine wpAnyH_ready (rs := [8]) (by kernel_rfl) (by simp) ?_
      refine AllReadyH.cons (o := { dst := some 11, op := Op.call { callee := Callee.value (Operand.func 115), args := #[Operand.tmp 10], argTypes := #[25] }, type := 2, pos := _, after := _, guard := some (4, true) }) rfl (fun K hK => ?_) AllReadyH.nil
      go_simp
      refine (i_adj _ _ _ _ _ _ _).mono ?_
      rintro e vr68 ⟨⟨gr68, rfl, hgr68⟩, hbr68⟩
      have kvr68 := keepS hbr68 hHeld
      obtain rfl := hgr68.out ⟨h1, h2⟩
      clear hgr68
      try dsimp only
      refine hK.out _ _ kvr68 (fun hHeld' => ?_)
      clear hK K hHeld
      have hHeld := hHeld'
      clear hHeld'
      try simp only [Act.put, List.setIfInBounds_toArray, List.set_cons_zero, List.set_cons_succ]
      refine wpAnyH_take (i := 11) (oi := { dst := some 14, op := Op.binOp BinOp.mul 2 (Operand.tmp 11) (Operand.tmp 13) 2, type := 2, pos := _, after := _, guard := some (4, true) }) (v := ?vr611) rfl (by kernel_rfl) (by kernel_rfl) (by kernel_rfl) (fun _ _ _ h => h) (Or.inl ⟨by rfl, ?hyr611⟩) (by assumption) ?restr611
      case hyr611 => (intro w hSw; (try dsimp only at hSw); go_simp; first | done | with_reducible rfl)
      try simp only [Act.put, List.setIfInBounds_toArray, List.set_cons_zero, List.set_cons_succ]
      refine wpAnyH_take (i := 12) (oi := { dst := some 15, op := Op.binOp BinOp.geq 2 (Operand.tmp 9) (Operand.tmp 14) 2, type := 4, pos := _, after := _, guard := some (4, true) }) (v := ?vr612) rfl (by kernel_rfl) (by kernel_rfl) (by kernel_rfl) (fun _ _ _ h => h) (Or.inl ⟨by rfl, ?hyr612⟩) (by assumption) ?restr612
      case hyr612 => (intro w hSw; (try dsimp only at hSw); go_simp; first | done | with_reducible rfl)
      try simp only [Act.put, List.setIfInBounds_toArray, List.set_cons_zero, List.set_cons_succ]
      refine wpAnyH_take (i := 13) (oi := { dst := some 16, op := Op.pick (Operand.tmp 7) (Operand.tmp 15) (Operand.const (Value.bool false)), type := 4, pos := _, after := _, guard := none }) (v := ?vr613) rfl (by kernel_rfl) (by kernel_rfl) (by kernel_rfl) (fun _ _ _ h => h) (Or.inl ⟨by rfl, ?hyr613⟩) (by assumption) ?restr613
      case hyr613 => (intro w hSw; (try dsimp only at hSw); go_simp; first | done | with_reducible rfl)
      try simp only [Act.put, List.setIfInBounds_toArray, List.set_cons_zero, List.set_cons_succ]
      refine wpAnyH_take (i := 14) (oi := { dst := some 2, op := Op.assign (Operand.tmp 16), type := 4, pos := _, after := _, guard := none }) (v := ?vr614) rfl (by kernel_rfl) (by kernel_rfl) (by kernel_rfl) (fun _ _ _ h => h) (Or.inl ⟨by rfl, ?hyr614⟩) (by assumption) ?restr614
      case hyr614 => (intro w hSw; (try dsimp only at hSw); go_simp; first | done | with_reducible rfl)
      try simp only [Act.put, List.setIfInBounds_toArray, List.set_cons_zero, List.set_cons_succ]
      refine wpAnyH_done (by kernel_rfl) ?_ _
      refine NoPanic.normal ?_
      go_wp2_with fail
      go_ret
      exact ⟨⟨_, rfl, fun _ => by unfold P1; rw [hp]; rfl⟩, hHeld.2.2.2.2.2.2.out⟩
    · have H : Hid (¬ R1 d r s = true) := h
      clear h
      go_enter Tryz.func108, Tryz.ntmps108
      go_wp2_with fail
      refine wp_region_noPanic ?_
      refine wp_region_held_drew (S := (fun w' => w'.cell? ⟨w.heap.size, 0, none⟩ = some (.int .i64 n) ∧ w'.cell? ⟨w.heap.size, 1, none⟩ = some (.int .i64 l) ∧ w'.cell? ⟨w.heap.size, 2, none⟩ = some (.int .i64 d) ∧ w'.cell? ⟨w.heap.size, 3, none⟩ = some (.int .i64 r) ∧ w'.cell? ⟨w.heap.size, 4, none⟩ = some (.int .i64 p) ∧ w'.cell? ⟨w.heap.size, 5, none⟩ = some (.int .i64 s) ∧ Hid (Below w.heap.size w w'))) (by kernel_rfl) (drewS (newS _ _ _ _ _ _ _ _)) (fun hHeld => ?_)
      refine wpAnyH_take (i := 0) (oi := { dst := some 3, op := Op.build 41 #[(0, Operand.const (Value.int IntKind.i64 1)), (1, Operand.const (Value.int IntKind.i64 1000000000000000))], type := 41, pos := _, after := _, guard := none }) (v := ?vr70) rfl (by kernel_rfl) (by kernel_rfl) (by kernel_rfl) (fun _ _ _ h => h) (Or.inl ⟨by rfl, ?hyr70⟩) (by assumption) ?restr70
      case hyr70 => (intro w hSw; (try dsimp only at hSw); go_simp; first | done | with_reducible rfl)
      try simp only [Act.put, List.setIfInBounds_toArray, List.set_cons_zero, List.set_cons_succ]
      refine wpAnyH_take (i := 1) (oi := { dst := some 4, op := Op.fieldAddr 25 (Operand.tmp 1) 4, type := 0, pos := _, after := _, guard := none }) (v := ?vr71) rfl (by kernel_rfl) (by kernel_rfl) (by kernel_rfl) (fun _ _ _ h => h) (Or.inl ⟨by rfl, ?hyr71⟩) (by assumption) ?restr71
      case hyr71 => (intro w hSw; (try dsimp only at hSw); go_simp; first | done | with_reducible rfl)
      try simp only [Act.put, List.setIfInBounds_toArray, List.set_cons_zero, List.set_cons_succ]
      refine wpAnyH_take (i := 2) (oi := { dst := some 5, op := Op.load 2 (Operand.tmp 4), type := 2, pos := _, after := _, guard := none }) (v := ?vr72) rfl (by kernel_rfl) (by kernel_rfl) (by kernel_rfl) (fun _ _ _ h => h) (Or.inl ⟨by rfl, ?hyr72⟩) (by assumption) ?restr72
      case hyr72 => (intro w hSw; (try dsimp only at hSw); go_simp; first | done | with_reducible rfl)
      try simp only [Act.put, List.setIfInBounds_toArray, List.set_cons_zero, List.set_cons_succ]
      refine wpAnyH_ready (rs := [3]) (by kernel_rfl) (by simp) ?_
      refine AllReadyH.cons (o := { dst := some 6, op := Op.call { callee := Callee.value (Operand.func 70), args := #[Operand.tmp 3, Operand.tmp 5], argTypes := #[41, 2] }, type := 4, pos := _, after := _, guard := none }) rfl (fun K hK => ?_) AllReadyH.nil
      go_simp
      refine (Sp.i_InSpan _ _ _ _).mono ?_
      rintro e vr73 ⟨rfl, hbr73⟩
      have kvr73 := keepS hbr73 hHeld
      try rw [hp]
      try dsimp only
      refine hK.out _ _ kvr73 (fun hHeld' => ?_)
      clear hK K hHeld
      have hHeld := hHeld'
      clear hHeld'
      try simp only [Act.put, List.setIfInBounds_toArray, List.set_cons_zero, List.set_cons_succ]
      refine wpAnyH_take (i := 4) (oi := { dst := some 7, op := Op.move (Operand.tmp 6), type := 4, pos := _, after := _, guard := none }) (v := ?vr74) rfl (by kernel_rfl) (by kernel_rfl) (by kernel_rfl) (fun _ _ _ h => h) (Or.inl ⟨by rfl, ?hyr74⟩) (by assumption) ?restr74
      case hyr74 => (intro w hSw; (try dsimp only at hSw); go_simp; first | done | with_reducible rfl)
      try simp only [Act.put, List.setIfInBounds_toArray, List.set_cons_zero, List.set_cons_succ]
      refine wpAnyH_take (i := 5) (oi := { dst := some 8, op := Op.fieldAddr 25 (Operand.tmp 1) 4, type := 0, pos := _, after := _, guard := some (4, true) }) (v := ?vr75) rfl (by kernel_rfl) (by kernel_rfl) (by kernel_rfl) (fun _ _ _ h => h) (Or.inl ⟨by rfl, ?hyr75⟩) (by assumption) ?restr75
      case hyr75 => (intro w hSw; (try dsimp only at hSw); go_simp; first | done | with_reducible rfl)
      try simp only [Act.put, List.setIfInBounds_toArray, List.set_cons_zero, List.set_cons_succ]
      refine wpAnyH_take (i := 6) (oi := { dst := some 9, op := Op.load 2 (Operand.tmp 8), type := 2, pos := _, after := _, guard := some (4, true) }) (v := ?vr76) rfl (by kernel_rfl) (by kernel_rfl) (by kernel_rfl) (fun _ _ _ h => h) (Or.inl ⟨by rfl, ?hyr76⟩) (by assumption) ?restr76
      case hyr76 => (intro w hSw; (try dsimp only at hSw); go_simp; first | done | with_reducible rfl)
      try simp only [Act.put, List.setIfInBounds_toArray, List.set_cons_zero, List.set_cons_succ]
      refine wpAnyH_take (i := 7) (oi := { dst := some 10, op := Op.load 25 (Operand.tmp 1), type := 25, pos := _, after := _, guard := some (4, true) }) (v := ?vr77) rfl (by kernel_rfl) (by kernel_rfl) (by kernel_rfl) (fun _ _ _ h => h) (Or.inl ⟨by rfl, ?hyr77⟩) (by assumption) ?restr77
      case hyr77 => (intro w hSw; (try dsimp only at hSw); go_simp; first | done | with_reducible rfl)
      try simp only [Act.put, List.setIfInBounds_toArray, List.set_cons_zero, List.set_cons_succ]
      refine wpAnyH_take (i := 9) (oi := { dst := some 12, op := Op.fieldAddr 25 (Operand.tmp 1) 5, type := 0, pos := _, after := _, guard := some (4, true) }) (v := ?vr79) rfl (by kernel_rfl) (by kernel_rfl) (by kernel_rfl) (fun _ _ _ h => h) (Or.inl ⟨by rfl, ?hyr79⟩) (by assumption) ?restr79
      case hyr79 => (intro w hSw; (try dsimp only at hSw); go_simp; first | done | with_reducible rfl)
      try simp only [Act.put, List.setIfInBounds_toArray, List.set_cons_zero, List.set_cons_succ]
      refine wpAnyH_take (i := 10) (oi := { dst := some 13, op := Op.load 2 (Operand.tmp 12), type := 2, pos := _, after := _, guard := some (4, true) }) (v := ?vr710) rfl (by kernel_rfl) (by kernel_rfl) (by kernel_rfl) (fun _ _ _ h => h) (Or.inl ⟨by rfl, ?hyr710⟩) (by assumption) ?restr710
      case hyr710 => (intro w hSw; (try dsimp only at hSw); go_simp; first | done | with_reducible rfl)
      try simp only [Act.put, List.setIfInBounds_toArray, List.set_cons_zero, List.set_cons_succ]
      refine wpAnyH_ready (rs := [8]) (by kernel_rfl) (by simp) ?_
      refine AllReadyH.cons (o := { dst := some 11, op := Op.call { callee := Callee.value (Operand.func 115), args := #[Operand.tmp 10], argTypes := #[25] }, type := 2, pos := _, after := _, guard := some (4, true) }) rfl (fun K hK => ?_) AllReadyH.nil
      go_simp
      refine (i_adj _ _ _ _ _ _ _).mono ?_
      rintro e vr78 ⟨⟨gr78, rfl, hgr78⟩, hbr78⟩
      have kvr78 := keepS hbr78 hHeld
      clear hgr78
      try dsimp only
      refine hK.out _ _ kvr78 (fun hHeld' => ?_)
      clear hK K hHeld
      have hHeld := hHeld'
      clear hHeld'
      try simp only [Act.put, List.setIfInBounds_toArray, List.set_cons_zero, List.set_cons_succ]
      refine wpAnyH_take (i := 11) (oi := { dst := some 14, op := Op.binOp BinOp.mul 2 (Operand.tmp 11) (Operand.tmp 13) 2, type := 2, pos := _, after := _, guard := some (4, true) }) (v := ?vr711) rfl (by kernel_rfl) (by kernel_rfl) (by kernel_rfl) (fun _ _ _ h => h) (Or.inl ⟨by rfl, ?hyr711⟩) (by assumption) ?restr711
      case hyr711 => (intro w hSw; (try dsimp only at hSw); go_simp; first | done | with_reducible rfl)
      try simp only [Act.put, List.setIfInBounds_toArray, List.set_cons_zero, List.set_cons_succ]
      refine wpAnyH_take (i := 12) (oi := { dst := some 15, op := Op.binOp BinOp.geq 2 (Operand.tmp 9) (Operand.tmp 14) 2, type := 4, pos := _, after := _, guard := some (4, true) }) (v := ?vr712) rfl (by kernel_rfl) (by kernel_rfl) (by kernel_rfl) (fun _ _ _ h => h) (Or.inl ⟨by rfl, ?hyr712⟩) (by assumption) ?restr712
      case hyr712 => (intro w hSw; (try dsimp only at hSw); go_simp; first | done | with_reducible rfl)
      try simp only [Act.put, List.setIfInBounds_toArray, List.set_cons_zero, List.set_cons_succ]
      refine wpAnyH_take (i := 13) (oi := { dst := some 16, op := Op.pick (Operand.tmp 7) (Operand.tmp 15) (Operand.const (Value.bool false)), type := 4, pos := _, after := _, guard := none }) (v := ?vr713) rfl (by kernel_rfl) (by kernel_rfl) (by kernel_rfl) (fun _ _ _ h => h) (Or.inl ⟨by rfl, ?hyr713⟩) (by assumption) ?restr713
      case hyr713 => (intro w hSw; (try dsimp only at hSw); go_simp; first | done | with_reducible rfl)
      try simp only [Act.put, List.setIfInBounds_toArray, List.set_cons_zero, List.set_cons_succ]
      refine wpAnyH_take (i := 14) (oi := { dst := some 2, op := Op.assign (Operand.tmp 16), type := 4, pos := _, after := _, guard := none }) (v := ?vr714) rfl (by kernel_rfl) (by kernel_rfl) (by kernel_rfl) (fun _ _ _ h => h) (Or.inl ⟨by rfl, ?hyr714⟩) (by assumption) ?restr714
      case hyr714 => (intro w hSw; (try dsimp only at hSw); go_simp; first | done | with_reducible rfl)
      try simp only [Act.put, List.setIfInBounds_toArray, List.set_cons_zero, List.set_cons_succ]
      refine wpAnyH_done (by kernel_rfl) ?_ _
      refine NoPanic.normal ?_
      go_wp2_with fail
      go_ret
      exact ⟨⟨_, rfl, fun h => absurd h H.out⟩, hHeld.2.2.2.2.2.2.out⟩

set_option maxHeartbeats 2000000 in
theorem i_first3 (n l d r p s : Int) (w : World) :
    Calls Tryz.prog 100 #[cfg n l d r p s, .int .i64 3] w fun e w' => e = .returned (.int .i64 (CR n l d r s)) ∧ Below w.heap.size w w' := by
  have k1 := new w n l d r p s 25
  cases hR : R1 d r s with
  | false =>
    go_enter Tryz.func100, Tryz.ntmps100
    go_wp2_with fail
    refine (i_range _ _ _ _ _ _ _).mono ?_
    rintro e w2 ⟨rfl, hb2⟩
    have k2 := keep hb2 k1
    have ⟨c20, c21, c22, c23, c24, c25⟩ := k2
    have z2 := hb2.size
    (try simp at z2)
    go_wp2_with fail
    refine (i_liars _ _ _ _ _ _ _).mono ?_
    rintro e w3 ⟨⟨b3, rfl, g3⟩, hb3⟩
    have k3 := keep hb3 k2
    have ⟨c30, c31, c32, c33, c34, c35⟩ := k3
    have z3 := hb3.size
    (try simp at z3)
    cases b3 with
    | false =>
      go_wp2_with fail
      refine (Sp.i_InSpan _ _ _ _).mono ?_
      rintro e w4 ⟨rfl, hb4⟩
      have k4 := keep hb4 k3
      have ⟨c40, c41, c42, c43, c44, c45⟩ := k4
      have z4 := hb4.size
      (try simp at z4)
      cases hn : IN 1 16 n with
      | false =>
        go_wp2
        go_ret
        refine ⟨reti ?_, ?_⟩
        · unfold CR N1; simp [hn]
        · (repeat (first | exact Below.refl _ _ | assumption | refine Below.setCell ?_ (by first | omega | (simp <;> omega)) _ | refine Below.alloc ?_ (by first | omega | (simp <;> omega)) _ | refine Below.drew ?_ | refine below_drewN ?_ _ | refine Below.trans ?_ (Below.mono (by assumption) (by first | omega | (simp <;> omega)))))
      | true =>
        go_wp2
        go_ret
        refine ⟨reti ?_, ?_⟩
        · have g := g3.out hn; unfold CR N1; simp [hn, ← g, hR]
        · (repeat (first | exact Below.refl _ _ | assumption | refine Below.setCell ?_ (by first | omega | (simp <;> omega)) _ | refine Below.alloc ?_ (by first | omega | (simp <;> omega)) _ | refine Below.drew ?_ | refine below_drewN ?_ _ | refine Below.trans ?_ (Below.mono (by assumption) (by first | omega | (simp <;> omega)))))
    | true =>
      go_wp2_with fail
      refine (Sp.i_InSpan _ _ _ _).mono ?_
      rintro e w4 ⟨rfl, hb4⟩
      have k4 := keep hb4 k3
      have ⟨c40, c41, c42, c43, c44, c45⟩ := k4
      have z4 := hb4.size
      (try simp at z4)
      cases hn : IN 1 16 n with
      | false =>
        go_wp2
        go_ret
        refine ⟨reti ?_, ?_⟩
        · unfold CR N1; simp [hn]
        · (repeat (first | exact Below.refl _ _ | assumption | refine Below.setCell ?_ (by first | omega | (simp <;> omega)) _ | refine Below.alloc ?_ (by first | omega | (simp <;> omega)) _ | refine Below.drew ?_ | refine below_drewN ?_ _ | refine Below.trans ?_ (Below.mono (by assumption) (by first | omega | (simp <;> omega)))))
      | true =>
        go_wp2
        go_ret
        refine ⟨reti ?_, ?_⟩
        · have g := g3.out hn; unfold CR N1; simp [hn, ← g, hR]
        · (repeat (first | exact Below.refl _ _ | assumption | refine Below.setCell ?_ (by first | omega | (simp <;> omega)) _ | refine Below.alloc ?_ (by first | omega | (simp <;> omega)) _ | refine Below.drew ?_ | refine below_drewN ?_ _ | refine Below.trans ?_ (Below.mono (by assumption) (by first | omega | (simp <;> omega)))))
  | true =>
    go_enter Tryz.func100, Tryz.ntmps100
    go_wp2_with fail
    refine (i_range _ _ _ _ _ _ _).mono ?_
    rintro e w2 ⟨rfl, hb2⟩
    have k2 := keep hb2 k1
    have ⟨c20, c21, c22, c23, c24, c25⟩ := k2
    have z2 := hb2.size
    (try simp at z2)
    go_wp2_with fail
    refine (i_liars _ _ _ _ _ _ _).mono ?_
    rintro e w3 ⟨⟨b3, rfl, g3⟩, hb3⟩
    have k3 := keep hb3 k2
    have ⟨c30, c31, c32, c33, c34, c35⟩ := k3
    have z3 := hb3.size
    (try simp at z3)
    cases b3 with
    | false =>
      go_wp2_with fail
      refine (Sp.i_InSpan _ _ _ _).mono ?_
      rintro e w4 ⟨rfl, hb4⟩
      have k4 := keep hb4 k3
      have ⟨c40, c41, c42, c43, c44, c45⟩ := k4
      have z4 := hb4.size
      (try simp at z4)
      cases hn : IN 1 16 n with
      | false =>
        go_wp2
        go_ret
        refine ⟨reti ?_, ?_⟩
        · unfold CR N1; simp [hn]
        · (repeat (first | exact Below.refl _ _ | assumption | refine Below.setCell ?_ (by first | omega | (simp <;> omega)) _ | refine Below.alloc ?_ (by first | omega | (simp <;> omega)) _ | refine Below.drew ?_ | refine below_drewN ?_ _ | refine Below.trans ?_ (Below.mono (by assumption) (by first | omega | (simp <;> omega)))))
      | true =>
        go_wp2
        go_ret
        refine ⟨reti ?_, ?_⟩
        · have g := g3.out hn; unfold CR N1; simp [hn, ← g, hR]
        · (repeat (first | exact Below.refl _ _ | assumption | refine Below.setCell ?_ (by first | omega | (simp <;> omega)) _ | refine Below.alloc ?_ (by first | omega | (simp <;> omega)) _ | refine Below.drew ?_ | refine below_drewN ?_ _ | refine Below.trans ?_ (Below.mono (by assumption) (by first | omega | (simp <;> omega)))))
    | true =>
      go_wp2_with fail
      refine (Sp.i_InSpan _ _ _ _).mono ?_
      rintro e w4 ⟨rfl, hb4⟩
      have k4 := keep hb4 k3
      have ⟨c40, c41, c42, c43, c44, c45⟩ := k4
      have z4 := hb4.size
      (try simp at z4)
      cases hn : IN 1 16 n with
      | false =>
        go_wp2
        go_ret
        refine ⟨reti ?_, ?_⟩
        · unfold CR N1; simp [hn]
        · (repeat (first | exact Below.refl _ _ | assumption | refine Below.setCell ?_ (by first | omega | (simp <;> omega)) _ | refine Below.alloc ?_ (by first | omega | (simp <;> omega)) _ | refine Below.drew ?_ | refine below_drewN ?_ _ | refine Below.trans ?_ (Below.mono (by assumption) (by first | omega | (simp <;> omega)))))
      | true =>
        go_wp2
        go_ret
        refine ⟨reti ?_, ?_⟩
        · have g := g3.out hn; unfold CR N1; simp [hn, ← g, hR]
        · (repeat (first | exact Below.refl _ _ | assumption | refine Below.setCell ?_ (by first | omega | (simp <;> omega)) _ | refine Below.alloc ?_ (by first | omega | (simp <;> omega)) _ | refine Below.drew ?_ | refine below_drewN ?_ _ | refine Below.trans ?_ (Below.mono (by assumption) (by first | omega | (simp <;> omega)))))

set_option maxHeartbeats 2000000 in
theorem i_first4 (n l d r p s : Int) (w : World) :
    Calls Tryz.prog 100 #[cfg n l d r p s, .int .i64 4] w fun e w' => e = .returned (.int .i64 (CP n l d r p s)) ∧ Below w.heap.size w w' := by
  have k1 := new w n l d r p s 25
  cases hR : R1 d r s with
  | false =>
    go_enter Tryz.func100, Tryz.ntmps100
    go_wp2_with fail
    refine (i_period _ _ _ _ _ _ _).mono ?_
    rintro e w2 ⟨⟨b1, rfl, g1⟩, hb2⟩
    have k2 := keep hb2 k1
    have ⟨c20, c21, c22, c23, c24, c25⟩ := k2
    have z2 := hb2.size
    (try simp at z2)
    cases b1 with
    | false =>
      go_wp2_with fail
      refine (i_range _ _ _ _ _ _ _).mono ?_
      rintro e w3 ⟨rfl, hb3⟩
      have k3 := keep hb3 k2
      have ⟨c30, c31, c32, c33, c34, c35⟩ := k3
      have z3 := hb3.size
      (try simp at z3)
      go_wp2_with fail
      refine (i_liars _ _ _ _ _ _ _).mono ?_
      rintro e w4 ⟨⟨b3, rfl, g3⟩, hb4⟩
      have k4 := keep hb4 k3
      have ⟨c40, c41, c42, c43, c44, c45⟩ := k4
      have z4 := hb4.size
      (try simp at z4)
      cases b3 with
      | false =>
        go_wp2_with fail
        refine (Sp.i_InSpan _ _ _ _).mono ?_
        rintro e w5 ⟨rfl, hb5⟩
        have k5 := keep hb5 k4
        have ⟨c50, c51, c52, c53, c54, c55⟩ := k5
        have z5 := hb5.size
        (try simp at z5)
        cases hn : IN 1 16 n with
        | false =>
          go_wp2
          go_ret
          refine ⟨reti ?_, ?_⟩
          · unfold CP N1; simp [hn]
          · (repeat (first | exact Below.refl _ _ | assumption | refine Below.setCell ?_ (by first | omega | (simp <;> omega)) _ | refine Below.alloc ?_ (by first | omega | (simp <;> omega)) _ | refine Below.drew ?_ | refine below_drewN ?_ _ | refine Below.trans ?_ (Below.mono (by assumption) (by first | omega | (simp <;> omega)))))
        | true =>
          go_wp2
          go_ret
          refine ⟨reti ?_, ?_⟩
          · have g := g3.out hn; unfold CP N1; simp [hn, ← g, hR]
          · (repeat (first | exact Below.refl _ _ | assumption | refine Below.setCell ?_ (by first | omega | (simp <;> omega)) _ | refine Below.alloc ?_ (by first | omega | (simp <;> omega)) _ | refine Below.drew ?_ | refine below_drewN ?_ _ | refine Below.trans ?_ (Below.mono (by assumption) (by first | omega | (simp <;> omega)))))
      | true =>
        go_wp2_with fail
        refine (Sp.i_InSpan _ _ _ _).mono ?_
        rintro e w5 ⟨rfl, hb5⟩
        have k5 := keep hb5 k4
        have ⟨c50, c51, c52, c53, c54, c55⟩ := k5
        have z5 := hb5.size
        (try simp at z5)
        cases hn : IN 1 16 n with
        | false =>
          go_wp2
          go_ret
          refine ⟨reti ?_, ?_⟩
          · unfold CP N1; simp [hn]
          · (repeat (first | exact Below.refl _ _ | assumption | refine Below.setCell ?_ (by first | omega | (simp <;> omega)) _ | refine Below.alloc ?_ (by first | omega | (simp <;> omega)) _ | refine Below.drew ?_ | refine below_drewN ?_ _ | refine Below.trans ?_ (Below.mono (by assumption) (by first | omega | (simp <;> omega)))))
        | true =>
          go_wp2
          go_ret
          refine ⟨reti ?_, ?_⟩
          · have g := g3.out hn; unfold CP N1; simp [hn, ← g, hR]
          · (repeat (first | exact Below.refl _ _ | assumption | refine Below.setCell ?_ (by first | omega | (simp <;> omega)) _ | refine Below.alloc ?_ (by first | omega | (simp <;> omega)) _ | refine Below.drew ?_ | refine below_drewN ?_ _ | refine Below.trans ?_ (Below.mono (by assumption) (by first | omega | (simp <;> omega)))))
    | true =>
      go_wp2_with fail
      refine (i_range _ _ _ _ _ _ _).mono ?_
      rintro e w3 ⟨rfl, hb3⟩
      have k3 := keep hb3 k2
      have ⟨c30, c31, c32, c33, c34, c35⟩ := k3
      have z3 := hb3.size
      (try simp at z3)
      go_wp2_with fail
      refine (i_liars _ _ _ _ _ _ _).mono ?_
      rintro e w4 ⟨⟨b3, rfl, g3⟩, hb4⟩
      have k4 := keep hb4 k3
      have ⟨c40, c41, c42, c43, c44, c45⟩ := k4
      have z4 := hb4.size
      (try simp at z4)
      cases b3 with
      | false =>
        go_wp2_with fail
        refine (Sp.i_InSpan _ _ _ _).mono ?_
        rintro e w5 ⟨rfl, hb5⟩
        have k5 := keep hb5 k4
        have ⟨c50, c51, c52, c53, c54, c55⟩ := k5
        have z5 := hb5.size
        (try simp at z5)
        cases hn : IN 1 16 n with
        | false =>
          go_wp2
          go_ret
          refine ⟨reti ?_, ?_⟩
          · unfold CP N1; simp [hn]
          · (repeat (first | exact Below.refl _ _ | assumption | refine Below.setCell ?_ (by first | omega | (simp <;> omega)) _ | refine Below.alloc ?_ (by first | omega | (simp <;> omega)) _ | refine Below.drew ?_ | refine below_drewN ?_ _ | refine Below.trans ?_ (Below.mono (by assumption) (by first | omega | (simp <;> omega)))))
        | true =>
          go_wp2
          go_ret
          refine ⟨reti ?_, ?_⟩
          · have g := g3.out hn; unfold CP N1; simp [hn, ← g, hR]
          · (repeat (first | exact Below.refl _ _ | assumption | refine Below.setCell ?_ (by first | omega | (simp <;> omega)) _ | refine Below.alloc ?_ (by first | omega | (simp <;> omega)) _ | refine Below.drew ?_ | refine below_drewN ?_ _ | refine Below.trans ?_ (Below.mono (by assumption) (by first | omega | (simp <;> omega)))))
      | true =>
        go_wp2_with fail
        refine (Sp.i_InSpan _ _ _ _).mono ?_
        rintro e w5 ⟨rfl, hb5⟩
        have k5 := keep hb5 k4
        have ⟨c50, c51, c52, c53, c54, c55⟩ := k5
        have z5 := hb5.size
        (try simp at z5)
        cases hn : IN 1 16 n with
        | false =>
          go_wp2
          go_ret
          refine ⟨reti ?_, ?_⟩
          · unfold CP N1; simp [hn]
          · (repeat (first | exact Below.refl _ _ | assumption | refine Below.setCell ?_ (by first | omega | (simp <;> omega)) _ | refine Below.alloc ?_ (by first | omega | (simp <;> omega)) _ | refine Below.drew ?_ | refine below_drewN ?_ _ | refine Below.trans ?_ (Below.mono (by assumption) (by first | omega | (simp <;> omega)))))
        | true =>
          go_wp2
          go_ret
          refine ⟨reti ?_, ?_⟩
          · have g := g3.out hn; unfold CP N1; simp [hn, ← g, hR]
          · (repeat (first | exact Below.refl _ _ | assumption | refine Below.setCell ?_ (by first | omega | (simp <;> omega)) _ | refine Below.alloc ?_ (by first | omega | (simp <;> omega)) _ | refine Below.drew ?_ | refine below_drewN ?_ _ | refine Below.trans ?_ (Below.mono (by assumption) (by first | omega | (simp <;> omega)))))
  | true =>
    go_enter Tryz.func100, Tryz.ntmps100
    go_wp2_with fail
    refine (i_period _ _ _ _ _ _ _).mono ?_
    rintro e w2 ⟨⟨b1, rfl, g1⟩, hb2⟩
    have k2 := keep hb2 k1
    have ⟨c20, c21, c22, c23, c24, c25⟩ := k2
    have z2 := hb2.size
    (try simp at z2)
    obtain rfl := g1.out hR
    cases hP : P1 d r p s with
    | false =>
      go_wp2_with fail
      refine (i_range _ _ _ _ _ _ _).mono ?_
      rintro e w3 ⟨rfl, hb3⟩
      have k3 := keep hb3 k2
      have ⟨c30, c31, c32, c33, c34, c35⟩ := k3
      have z3 := hb3.size
      (try simp at z3)
      go_wp2_with fail
      refine (i_liars _ _ _ _ _ _ _).mono ?_
      rintro e w4 ⟨⟨b3, rfl, g3⟩, hb4⟩
      have k4 := keep hb4 k3
      have ⟨c40, c41, c42, c43, c44, c45⟩ := k4
      have z4 := hb4.size
      (try simp at z4)
      cases b3 with
      | false =>
        go_wp2_with fail
        refine (Sp.i_InSpan _ _ _ _).mono ?_
        rintro e w5 ⟨rfl, hb5⟩
        have k5 := keep hb5 k4
        have ⟨c50, c51, c52, c53, c54, c55⟩ := k5
        have z5 := hb5.size
        (try simp at z5)
        cases hn : IN 1 16 n with
        | false =>
          go_wp2
          go_ret
          refine ⟨reti ?_, ?_⟩
          · unfold CP N1; simp [hn]
          · (repeat (first | exact Below.refl _ _ | assumption | refine Below.setCell ?_ (by first | omega | (simp <;> omega)) _ | refine Below.alloc ?_ (by first | omega | (simp <;> omega)) _ | refine Below.drew ?_ | refine below_drewN ?_ _ | refine Below.trans ?_ (Below.mono (by assumption) (by first | omega | (simp <;> omega)))))
        | true =>
          go_wp2
          go_ret
          refine ⟨reti ?_, ?_⟩
          · have g := g3.out hn; unfold CP N1; simp [hn, ← g, hR, hP]
          · (repeat (first | exact Below.refl _ _ | assumption | refine Below.setCell ?_ (by first | omega | (simp <;> omega)) _ | refine Below.alloc ?_ (by first | omega | (simp <;> omega)) _ | refine Below.drew ?_ | refine below_drewN ?_ _ | refine Below.trans ?_ (Below.mono (by assumption) (by first | omega | (simp <;> omega)))))
      | true =>
        go_wp2_with fail
        refine (Sp.i_InSpan _ _ _ _).mono ?_
        rintro e w5 ⟨rfl, hb5⟩
        have k5 := keep hb5 k4
        have ⟨c50, c51, c52, c53, c54, c55⟩ := k5
        have z5 := hb5.size
        (try simp at z5)
        cases hn : IN 1 16 n with
        | false =>
          go_wp2
          go_ret
          refine ⟨reti ?_, ?_⟩
          · unfold CP N1; simp [hn]
          · (repeat (first | exact Below.refl _ _ | assumption | refine Below.setCell ?_ (by first | omega | (simp <;> omega)) _ | refine Below.alloc ?_ (by first | omega | (simp <;> omega)) _ | refine Below.drew ?_ | refine below_drewN ?_ _ | refine Below.trans ?_ (Below.mono (by assumption) (by first | omega | (simp <;> omega)))))
        | true =>
          go_wp2
          go_ret
          refine ⟨reti ?_, ?_⟩
          · have g := g3.out hn; unfold CP N1; simp [hn, ← g, hR, hP]
          · (repeat (first | exact Below.refl _ _ | assumption | refine Below.setCell ?_ (by first | omega | (simp <;> omega)) _ | refine Below.alloc ?_ (by first | omega | (simp <;> omega)) _ | refine Below.drew ?_ | refine below_drewN ?_ _ | refine Below.trans ?_ (Below.mono (by assumption) (by first | omega | (simp <;> omega)))))
    | true =>
      go_wp2_with fail
      refine (i_range _ _ _ _ _ _ _).mono ?_
      rintro e w3 ⟨rfl, hb3⟩
      have k3 := keep hb3 k2
      have ⟨c30, c31, c32, c33, c34, c35⟩ := k3
      have z3 := hb3.size
      (try simp at z3)
      go_wp2_with fail
      refine (i_liars _ _ _ _ _ _ _).mono ?_
      rintro e w4 ⟨⟨b3, rfl, g3⟩, hb4⟩
      have k4 := keep hb4 k3
      have ⟨c40, c41, c42, c43, c44, c45⟩ := k4
      have z4 := hb4.size
      (try simp at z4)
      cases b3 with
      | false =>
        go_wp2_with fail
        refine (Sp.i_InSpan _ _ _ _).mono ?_
        rintro e w5 ⟨rfl, hb5⟩
        have k5 := keep hb5 k4
        have ⟨c50, c51, c52, c53, c54, c55⟩ := k5
        have z5 := hb5.size
        (try simp at z5)
        cases hn : IN 1 16 n with
        | false =>
          go_wp2
          go_ret
          refine ⟨reti ?_, ?_⟩
          · unfold CP N1; simp [hn]
          · (repeat (first | exact Below.refl _ _ | assumption | refine Below.setCell ?_ (by first | omega | (simp <;> omega)) _ | refine Below.alloc ?_ (by first | omega | (simp <;> omega)) _ | refine Below.drew ?_ | refine below_drewN ?_ _ | refine Below.trans ?_ (Below.mono (by assumption) (by first | omega | (simp <;> omega)))))
        | true =>
          go_wp2
          go_ret
          refine ⟨reti ?_, ?_⟩
          · have g := g3.out hn; unfold CP N1; simp [hn, ← g, hR, hP]
          · (repeat (first | exact Below.refl _ _ | assumption | refine Below.setCell ?_ (by first | omega | (simp <;> omega)) _ | refine Below.alloc ?_ (by first | omega | (simp <;> omega)) _ | refine Below.drew ?_ | refine below_drewN ?_ _ | refine Below.trans ?_ (Below.mono (by assumption) (by first | omega | (simp <;> omega)))))
      | true =>
        go_wp2_with fail
        refine (Sp.i_InSpan _ _ _ _).mono ?_
        rintro e w5 ⟨rfl, hb5⟩
        have k5 := keep hb5 k4
        have ⟨c50, c51, c52, c53, c54, c55⟩ := k5
        have z5 := hb5.size
        (try simp at z5)
        cases hn : IN 1 16 n with
        | false =>
          go_wp2
          go_ret
          refine ⟨reti ?_, ?_⟩
          · unfold CP N1; simp [hn]
          · (repeat (first | exact Below.refl _ _ | assumption | refine Below.setCell ?_ (by first | omega | (simp <;> omega)) _ | refine Below.alloc ?_ (by first | omega | (simp <;> omega)) _ | refine Below.drew ?_ | refine below_drewN ?_ _ | refine Below.trans ?_ (Below.mono (by assumption) (by first | omega | (simp <;> omega)))))
        | true =>
          go_wp2
          go_ret
          refine ⟨reti ?_, ?_⟩
          · have g := g3.out hn; unfold CP N1; simp [hn, ← g, hR, hP]
          · (repeat (first | exact Below.refl _ _ | assumption | refine Below.setCell ?_ (by first | omega | (simp <;> omega)) _ | refine Below.alloc ?_ (by first | omega | (simp <;> omega)) _ | refine Below.drew ?_ | refine below_drewN ?_ _ | refine Below.trans ?_ (Below.mono (by assumption) (by first | omega | (simp <;> omega)))))

end Go.Proofs.YtnocmfhlmpgbmaaGreat.Cf
