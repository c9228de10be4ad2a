/-
  The order of seals: cmp.Compare, cmp.Or, impl.sealOrder.
-/
import Derived.Test.YtimakfokgcnklaaGreatRm
import Derived.Test.YtimakfokgcnklaaGreatMp
import Derived.Deep.RegionHeld3
import Derived.Sort.Grow
import Derived.Test.YtimakfokgcnklaaGreatTk
namespace Go.Proofs.YtimakfokgcnklaaGreat.Mi
open Go.ChangeShapes Go.WideShapes Go.ChangeAt Go.RowKit
open Go.Sort
open Rm (Room)
open Sb (S3 es fl sl)
set_option linter.unusedVariables false
set_option linter.unusedSimpArgs false

/-- Which of two is the greater. -/
def cp (x y : Int) : Int := if x < y then -1 else if y < x then 1 else 0
def so (a b : S3) : Int := if cp a.1 b.1 = 0 then cp a.2.1 b.2.1 else cp a.1 b.1

set_option maxHeartbeats 1000000 in
theorem isNaN (x : Int) (w : World) : Calls Tryz.prog 152 #[.int .i64 x] w fun e w' => e = .returned (.bool false) ∧ w' = w := by
  go_enter Tryz.func152, Tryz.ntmps152
  go_wp2
  go_ret
  exact ⟨rfl, rfl⟩

theorem cp_lt {x y : Int} (h : x < y) : cp x y = -1 := if_pos h
theorem cp_gt {x y : Int} (h : y < x) : cp x y = 1 := by unfold cp; rw [if_neg (by omega), if_pos h]
theorem cp_eq (x : Int) : cp x x = 0 := by unfold cp; rw [if_neg (by omega), if_neg (by omega)]

set_option maxHeartbeats 1000000 in
theorem compare (x y : Int) (w : World) : Calls Tryz.prog 137 #[.int .i64 x, .int .i64 y] w fun e w' => e = .returned (.int .i64 (cp x y)) ∧ w' = w := by
  by_cases h1 : x < y
  · rw [cp_lt h1]
    go_enter Tryz.func137, Tryz.ntmps137
    go_wp2_with (go_at_call 152; refine (isNaN _ _).mono ?_; rintro e w' ⟨rfl, rfl⟩)
    go_ret
    exact ⟨rfl, rfl⟩
  · by_cases h2 : y < x
    · rw [cp_gt h2]
      go_enter Tryz.func137, Tryz.ntmps137
      go_wp2_with (go_at_call 152; refine (isNaN _ _).mono ?_; rintro e w' ⟨rfl, rfl⟩)
      go_ret
      exact ⟨rfl, rfl⟩
    · obtain rfl : x = y := by omega
      rw [cp_eq]
      have d1 : decide (x < x) = false := decide_eq_false (by omega)
      go_enter Tryz.func137, Tryz.ntmps137
      go_wp2_with (go_at_call 152; refine (isNaN _ _).mono ?_; rintro e w' ⟨rfl, rfl⟩)
      go_ret
      exact ⟨rfl, rfl⟩

/-- The first that is not zero. -/
def o2 (a b : Int) : Int := if a = 0 then b else a
set_option maxHeartbeats 2000000 in
theorem cmpOr (g : Nat) (a b : Int) (w : World) (e0 : w.cell? ⟨g, 0, none⟩ = some (.int .i64 a)) (e1 : w.cell? ⟨g, 1, none⟩ = some (.int .i64 b)) : Calls Tryz.prog 136 #[.slice (some ⟨g, 0, none⟩) 2 2] w fun e w' => e = .returned (.int .i64 (o2 a b)) ∧ w' = w := by
  by_cases h1 : a = 0
  · subst h1
    have ho : o2 0 b = b := if_pos rfl
    rw [ho]
    go_enter Tryz.func136, Tryz.ntmps136
    go_wp2
    go_loopw [8] (fun q wr => ∃ k : Nat, k ≤ 2 ∧ q = .int .i64 (k : Int) ∧ wr = w ∧ (k = 2 → b = 0)) (fun q _ => 2 - (intOf q).toNat)
    case atStart => exact ⟨0, by omega, rfl, rfl, by omega⟩
    case round =>
      obtain ⟨k, hk, rfl, rfl, hb⟩ := hrel
      match k, hk with
      | 0, _ =>
        go_wp2
        go_roundw
        case rel => exact ⟨1, by omega, by go_num, by first | trivial | rfl, by omega⟩
        case measure => simp [intOf]
      | 1, _ =>
        by_cases h2 : b = 0
        · subst h2
          go_wp2
          go_roundw
          case rel => exact ⟨2, by omega, by go_num, by first | trivial | rfl, fun _ => by first | trivial | rfl⟩
          case measure => simp [intOf]
        · have hv : (b != 0) = true := by simp [h2]
          go_wp2
          go_ret
          exact ⟨rfl, rfl⟩
      | 2, _ =>
        have hb0 := hb rfl
        subst hb0
        go_wp2
        go_ret
        exact ⟨rfl, rfl⟩
  · have ho : o2 a b = a := if_neg h1
    rw [ho]
    have hv : (a != 0) = true := by simp [h1]
    go_enter Tryz.func136, Tryz.ntmps136
    go_wp2
    go_loopw [8] (fun q wr => q = .int .i64 0 ∧ wr = w) (fun q _ => 2 - (intOf q).toNat)
    case atStart => exact ⟨rfl, rfl⟩
    case round =>
      obtain ⟨rfl, rfl⟩ := hrel
      go_wp2
      go_ret
      exact ⟨rfl, rfl⟩

/-- A world that has grown: draws, blocks behind. -/
def GW (W w' : World) : Prop := ∃ q os', w' = grow (W.drewN q) os'
theorem GW.refl (W : World) : GW W W := ⟨0, #[], by rw [grow_empty]; rfl⟩
theorem GW.alloc {W w' : World} (h : GW W w') (o : Obj) : GW W (w'.alloc o) := by
  obtain ⟨q, os', rfl⟩ := h
  exact ⟨q, os' ++ #[o], by rw [alloc_eq_grow, grow_grow]⟩
theorem GW.drew {W w' : World} (h : GW W w') : GW W w'.drew := by
  obtain ⟨q, os', rfl⟩ := h
  exact ⟨q + 1, os', by rw [drew_grow]; rfl⟩
structure So (W w' : World) (a b : S3) : Prop where
  a0 : w'.cell? ⟨W.heap.size, 0, none⟩ = some (.int .i64 a.1)
  a1 : w'.cell? ⟨W.heap.size, 1, none⟩ = some (.int .i64 a.2.1)
  b0 : w'.cell? ⟨W.heap.size + 1, 0, none⟩ = some (.int .i64 b.1)
  b1 : w'.cell? ⟨W.heap.size + 1, 1, none⟩ = some (.int .i64 b.2.1)
  gw : GW W w'
  sz : W.heap.size + 2 ≤ w'.heap.size
theorem So.alloc {W w' : World} {a b : S3} (h : So W w' a b) (o : Obj) : So W (w'.alloc o) a b :=
  have z := h.sz
  ⟨by rw [World.cell?_alloc_lt _ _ _ (by simp; omega)]; exact h.a0, by rw [World.cell?_alloc_lt _ _ _ (by simp; omega)]; exact h.a1, by rw [World.cell?_alloc_lt _ _ _ (by simp; omega)]; exact h.b0, by rw [World.cell?_alloc_lt _ _ _ (by simp; omega)]; exact h.b1, h.gw.alloc o, by simp; omega⟩
theorem So.lay (W : World) (a b : S3) (t t' : TypeId) : So W ((W.alloc (.cells #[.int .i64 a.1, .int .i64 a.2.1, .int .i64 a.2.2] t)).alloc (.cells #[.int .i64 b.1, .int .i64 b.2.1, .int .i64 b.2.2] t')).drew a b := by
  have RA := (Room.new W [.int .i64 a.1, .int .i64 a.2.1, .int .i64 a.2.2] t).alloc (.cells #[.int .i64 b.1, .int .i64 b.2.1, .int .i64 b.2.2] t')
  have RB := Room.at (W.alloc (.cells #[.int .i64 a.1, .int .i64 a.2.1, .int .i64 a.2.2] t)) [.int .i64 b.1, .int .i64 b.2.1, .int .i64 b.2.2] t' (W.heap.size + 1) (by simp)
  exact ⟨RA.drew.cell 0 rfl, RA.drew.cell 1 rfl, RB.drew.cell 0 rfl, RB.drew.cell 1 rfl, (((GW.refl W).alloc _).alloc _).drew, by show W.heap.size + 2 ≤ ((W.alloc _).alloc _).heap.size; simp⟩
theorem two_new (w : World) (x y : Int) (t : TypeId) : (w.alloc (.cells #[.int .i64 x, .int .i64 y] t)).cell? ⟨w.heap.size, 0, none⟩ = some (.int .i64 x) ∧ (w.alloc (.cells #[.int .i64 x, .int .i64 y] t)).cell? ⟨w.heap.size, 1, none⟩ = some (.int .i64 y) :=
  ⟨(Room.new w [.int .i64 x, .int .i64 y] t).cell 0 rfl, (Room.new w [.int .i64 x, .int .i64 y] t).cell 1 rfl⟩

set_option maxHeartbeats 4000000 in
theorem sealOrder (a b : S3) (W : World) : Calls Tryz.prog 123 #[sl a, sl b] W fun e w' => e = .returned (.int .i64 (so a b)) ∧ ∃ q os', w' = grow (W.drewN q) os' := by
  have hso : so a b = o2 (cp a.1 b.1) (cp a.2.1 b.2.1) := rfl
  rw [hso]
  clear hso
  have SO := So.lay W a b 125 125
  go_enter Tryz.func123, Tryz.ntmps123
  go_wp2_with fail
  refine wp_region_noPanic ?_
  refine wp_region_held_drew (S := (fun w' => w'.cell? ⟨W.heap.size, 0, none⟩ = some (.int .i64 a.1) ∧ w'.cell? ⟨W.heap.size, 1, none⟩ = some (.int .i64 a.2.1) ∧ w'.cell? ⟨W.heap.size + 1, 0, none⟩ = some (.int .i64 b.1) ∧ w'.cell? ⟨W.heap.size + 1, 1, none⟩ = some (.int .i64 b.2.1) ∧ Hid (So W w' a b))) (by kernel_rfl) ⟨SO.a0, SO.a1, SO.b0, SO.b1, SO⟩ (fun hHeld => ?_)
  generalize ((W.alloc (.cells #[.int .i64 a.1, .int .i64 a.2.1, .int .i64 a.2.2] 125)).alloc (.cells #[.int .i64 b.1, .int .i64 b.2.1, .int .i64 b.2.2] 125)).drew = wd at hHeld SO ⊢
  refine Tk.W 0 (some 5) (.fieldAddr 125 (.tmp 2) 0) 0 none ?_
  refine Tk.W 1 (some 6) (.load 2 (.tmp 5)) 2 none ?_
  refine Tk.W 2 (some 7) (.fieldAddr 125 (.tmp 3) 0) 0 none ?_
  refine Tk.W 3 (some 8) (.load 2 (.tmp 7)) 2 none ?_
  refine Tk.W 5 (some 10) (.fieldAddr 125 (.tmp 2) 1) 0 none ?_
  refine Tk.W 6 (some 11) (.load 2 (.tmp 10)) 2 none ?_
  refine Tk.W 7 (some 12) (.fieldAddr 125 (.tmp 3) 1) 0 none ?_
  refine Tk.W 8 (some 13) (.load 2 (.tmp 12)) 2 none ?_
  refine Tk.R 4 (some 9) (.call ⟨.value (.func 137), #[.tmp 6, .tmp 8], #[2, 2]⟩) 3 none (fun K hK => ?_)
  go_simp
  refine (compare a.1 b.1 _).mono ?_
  rintro e wd ⟨rfl, rfl⟩
  try dsimp only
  refine hK.out _ _ hHeld ?_; clear hK K hHeld; intro hHeld; try simp only [Act.put, List.setIfInBounds_toArray, List.set_cons_zero, List.set_cons_succ]
  refine Tk.R 9 (some 14) (.call ⟨.value (.func 137), #[.tmp 11, .tmp 13], #[2, 2]⟩) 3 none (fun K hK => ?_)
  go_simp
  refine (compare a.2.1 b.2.1 _).mono ?_
  rintro e wd ⟨rfl, rfl⟩
  try dsimp only
  refine hK.out _ _ hHeld ?_; clear hK K hHeld; intro hHeld; try simp only [Act.put, List.setIfInBounds_toArray, List.set_cons_zero, List.set_cons_succ]
  refine Tk.R 10 (some 15) (.buildSlice 184 2 #[(0, .tmp 9), (1, .tmp 14)]) 184 none (fun K hK => ?_)
  go_simp
  have SO2 := SO.alloc (.cells #[.int .i64 (cp a.1 b.1), .int .i64 (cp a.2.1 b.2.1)] 3)
  obtain ⟨g0, g1⟩ := two_new wd (cp a.1 b.1) (cp a.2.1 b.2.1) 3
  obtain ⟨gN, hgN⟩ : ∃ gN, gN = wd.heap.size := ⟨_, rfl⟩
  rw [← hgN] at g0 g1 ⊢
  generalize wd.alloc (.cells #[.int .i64 (cp a.1 b.1), .int .i64 (cp a.2.1 b.2.1)] 3) = we at SO2 g0 g1 ⊢
  clear hgN SO
  have SO := SO2
  clear SO2
  try dsimp only
  refine hK.out _ _ ⟨SO.a0, SO.a1, SO.b0, SO.b1, SO⟩ ?_; clear hK K hHeld; intro hHeld; try simp only [Act.put, List.setIfInBounds_toArray, List.set_cons_zero, List.set_cons_succ]
  refine Tk.R 11 (some 16) (.call ⟨.value (.func 136), #[.tmp 15], #[184]⟩) 3 none (fun K hK => ?_)
  go_simp
  refine (cmpOr gN (cp a.1 b.1) (cp a.2.1 b.2.1) _ g0 g1).mono ?_
  rintro e wd ⟨rfl, rfl⟩
  try dsimp only
  refine hK.out _ _ hHeld ?_; clear hK K hHeld; intro hHeld; try simp only [Act.put, List.setIfInBounds_toArray, List.set_cons_zero, List.set_cons_succ]
  refine Tk.W 12 (some 4) (.assign (.tmp 16)) 3 none ?_
  refine wpAnyH_done (by kernel_rfl) ?_ _
  refine NoPanic.normal ?_
  clear hHeld
  go_wp2
  go_ret
  exact ⟨rfl, SO.gw⟩

end Go.Proofs.YtimakfokgcnklaaGreat.Mi
