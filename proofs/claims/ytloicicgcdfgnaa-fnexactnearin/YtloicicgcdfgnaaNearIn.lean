/-
  NearIn of impl and of spec by one answer; each writes nothing that was there ahead of it.
-/
import Derived.Test.YtloicicgcdfgnaaSkw
import Derived.Test.YtloicicgcdfgnaaCfg2
import Derived.Deep.RegionHeld3
import Derived.Test.YtloicicgcdfgnaaTk
namespace Go.Proofs.Ytloicicgcdfgnaa.Wl
open Go.ChangeShapes Go.WideShapes Go.ChangeAt Go.RowKit
open Ls (el Row)
open Rm (Room)
open Cf (cfg GM)
set_option linter.unusedVariables false
set_option linter.unusedSimpArgs false

/-- The answer of NearIn. -/
def NI (n l d r p s : Int) (ks : List Int) (k : Nat) (os : List Int) (m : Nat) (t : Int) : Bool := if WO n l d r p s ks k os m t = true then decide (SK n l d r p s ks k os m t ≤ GM n l d r s) else false

set_option maxHeartbeats 4000000 in
theorem i_NearIn (n l d r p s t : Int) (a b : Option Addr) (k ka m mb : Nat) (ks os : List Int) (w : World) (hr : Row w w.heap.size a k ks) (hs : Row w w.heap.size b m os) (hk : k ≤ 1048576) (hm : m ≤ 1048576) :
    Calls Try.prog 15 #[wld n l d r p s (.slice a k ka) (.slice b m mb) t] w fun e w' => e = .returned (.bool (NI n l d r p s ks k os m t)) ∧ Below w.heap.size w w' := by
  have B1 := (Below.refl w.heap.size w).alloc (Nat.le_refl _) (.cells #[.int .i64 n, .int .i64 l, .int .i64 d, .int .i64 r, .int .i64 p, .int .i64 s, .slice a k ka, .slice b m mb, .int .i64 t] 31)
  have R1 := Room.new w (c9 n l d r p s (.slice a k ka) (.slice b m mb) t) 31
  have okey := fun w hr hs => i_WorldOk n l d r p s t a b k ka m mb ks os w hr hs hk hm
  have skey := fun w hr hs => i_SkewOf n l d r p s t a b k ka m mb ks os w hr hs hk hm
  have gkey := fun w => Cf.i_GapMost n l d r p s w
  unfold NI
  generalize SK n l d r p s ks k os m t = X at skey ⊢
  generalize GM n l d r s = Y at gkey ⊢
  generalize WO n l d r p s ks k os m t = q at okey ⊢
  cases q with
  | false =>
    go_enter Try.func15, Try.ntmps15
    go_wp2_with fail
    refine wp_region_noPanic ?_
    refine wp_region_held_drew (S := (fun w' => w'.cell? ⟨w.heap.size, 0, none⟩ = some (.int .i64 n) ∧ w'.cell? ⟨w.heap.size, 1, none⟩ = some (.int .i64 l) ∧ w'.cell? ⟨w.heap.size, 2, none⟩ = some (.int .i64 d) ∧ w'.cell? ⟨w.heap.size, 3, none⟩ = some (.int .i64 r) ∧ w'.cell? ⟨w.heap.size, 4, none⟩ = some (.int .i64 p) ∧ w'.cell? ⟨w.heap.size, 5, none⟩ = some (.int .i64 s) ∧ w'.cell? ⟨w.heap.size, 6, none⟩ = some (.slice a k ka) ∧ w'.cell? ⟨w.heap.size, 7, none⟩ = some (.slice b m mb) ∧ w'.cell? ⟨w.heap.size, 8, none⟩ = some (.int .i64 t) ∧ Hid (Below w.heap.size w w' ∧ Room w' w.heap.size [.int .i64 n, .int .i64 l, .int .i64 d, .int .i64 r, .int .i64 p, .int .i64 s, .slice a k ka, .slice b m mb, .int .i64 t]))) (by kernel_rfl) ⟨R1.cell 0 rfl, R1.cell 1 rfl, R1.cell 2 rfl, R1.cell 3 rfl, R1.cell 4 rfl, R1.cell 5 rfl, R1.cell 6 rfl, R1.cell 7 rfl, R1.cell 8 rfl, ⟨B1.drew, R1.drew⟩⟩ (fun hHeld => ?_)
    refine Tk.W 0 (some 3) (.load 31 (.tmp 1)) 31 none ?_
    refine Tk.R 1 (some 4) (.call ⟨.value (.func 32), #[.tmp 3], #[31]⟩) 4 none (fun K hK => ?_)
    go_simp
    refine (okey _ ((hr.later hHeld.2.2.2.2.2.2.2.2.2.out.1 (Nat.le_refl _)).more hHeld.2.2.2.2.2.2.2.2.2.out.1.size) ((hs.later hHeld.2.2.2.2.2.2.2.2.2.out.1 (Nat.le_refl _)).more hHeld.2.2.2.2.2.2.2.2.2.out.1.size)).mono ?_
    rintro e vi02 ⟨rfl, b_i02⟩
    have ⟨bb_i02, rr_i02⟩ := hHeld.2.2.2.2.2.2.2.2.2.out
    have bx_i02 := bb_i02.trans (b_i02.mono bb_i02.size)
    have ry_i02 := rr_i02.below b_i02
    have kvi02 := Tk.kv hK (w := vi02) ⟨ry_i02.cell 0 rfl, ry_i02.cell 1 rfl, ry_i02.cell 2 rfl, ry_i02.cell 3 rfl, ry_i02.cell 4 rfl, ry_i02.cell 5 rfl, ry_i02.cell 6 rfl, ry_i02.cell 7 rfl, ry_i02.cell 8 rfl, ⟨bx_i02, ry_i02⟩⟩
    clear bb_i02 rr_i02 bx_i02 ry_i02 b_i02
    try dsimp only
    refine hK.out _ _ kvi02 ?_; clear hK K hHeld; intro hHeld; try simp only [Act.put, List.setIfInBounds_toArray, List.set_cons_zero, List.set_cons_succ]
    refine Tk.W 2 (some 5) (.move (.tmp 4)) 4 none ?_
    refine Tk.N 3 (some 6) (.load 31 (.tmp 1)) 31 (some (2, true)) ?_
    refine Tk.N 4 (some 7) (.call ⟨.value (.func 46), #[.tmp 6], #[31]⟩) 2 (some (2, true)) ?_
    refine Tk.N 5 (some 8) (.fieldAddr 31 (.tmp 1) 0) 0 (some (2, true)) ?_
    refine Tk.N 6 (some 9) (.load 28 (.tmp 8)) 28 (some (2, true)) ?_
    refine Tk.N 7 (some 10) (.call ⟨.value (.func 54), #[.tmp 9], #[28]⟩) 2 (some (2, true)) ?_
    refine Tk.N 8 (some 11) (.binOp .leq 2 (.tmp 7) (.tmp 10) 2) 4 (some (2, true)) ?_
    refine Tk.W 9 (some 12) (.pick (.tmp 5) (.tmp 11) (.const (.bool false))) 4 none ?_
    refine Tk.W 10 (some 2) (.assign (.tmp 12)) 4 none ?_
    refine wpAnyH_done (by kernel_rfl) ?_ _
    refine NoPanic.normal ?_
    have hEnd := hHeld.2.2.2.2.2.2.2.2.2.out.1
    clear hHeld
    go_wp2
    go_ret
    exact ⟨rfl, hEnd⟩
  | true =>
    go_enter Try.func15, Try.ntmps15
    go_wp2_with fail
    refine wp_region_noPanic ?_
    refine wp_region_held_drew (S := (fun w' => w'.cell? ⟨w.heap.size, 0, none⟩ = some (.int .i64 n) ∧ w'.cell? ⟨w.heap.size, 1, none⟩ = some (.int .i64 l) ∧ w'.cell? ⟨w.heap.size, 2, none⟩ = some (.int .i64 d) ∧ w'.cell? ⟨w.heap.size, 3, none⟩ = some (.int .i64 r) ∧ w'.cell? ⟨w.heap.size, 4, none⟩ = some (.int .i64 p) ∧ w'.cell? ⟨w.heap.size, 5, none⟩ = some (.int .i64 s) ∧ w'.cell? ⟨w.heap.size, 6, none⟩ = some (.slice a k ka) ∧ w'.cell? ⟨w.heap.size, 7, none⟩ = some (.slice b m mb) ∧ w'.cell? ⟨w.heap.size, 8, none⟩ = some (.int .i64 t) ∧ Hid (Below w.heap.size w w' ∧ Room w' w.heap.size [.int .i64 n, .int .i64 l, .int .i64 d, .int .i64 r, .int .i64 p, .int .i64 s, .slice a k ka, .slice b m mb, .int .i64 t]))) (by kernel_rfl) ⟨R1.cell 0 rfl, R1.cell 1 rfl, R1.cell 2 rfl, R1.cell 3 rfl, R1.cell 4 rfl, R1.cell 5 rfl, R1.cell 6 rfl, R1.cell 7 rfl, R1.cell 8 rfl, ⟨B1.drew, R1.drew⟩⟩ (fun hHeld => ?_)
    refine Tk.W 0 (some 3) (.load 31 (.tmp 1)) 31 none ?_
    refine Tk.R 1 (some 4) (.call ⟨.value (.func 32), #[.tmp 3], #[31]⟩) 4 none (fun K hK => ?_)
    go_simp
    refine (okey _ ((hr.later hHeld.2.2.2.2.2.2.2.2.2.out.1 (Nat.le_refl _)).more hHeld.2.2.2.2.2.2.2.2.2.out.1.size) ((hs.later hHeld.2.2.2.2.2.2.2.2.2.out.1 (Nat.le_refl _)).more hHeld.2.2.2.2.2.2.2.2.2.out.1.size)).mono ?_
    rintro e vi12 ⟨rfl, b_i12⟩
    have ⟨bb_i12, rr_i12⟩ := hHeld.2.2.2.2.2.2.2.2.2.out
    have bx_i12 := bb_i12.trans (b_i12.mono bb_i12.size)
    have ry_i12 := rr_i12.below b_i12
    have kvi12 := Tk.kv hK (w := vi12) ⟨ry_i12.cell 0 rfl, ry_i12.cell 1 rfl, ry_i12.cell 2 rfl, ry_i12.cell 3 rfl, ry_i12.cell 4 rfl, ry_i12.cell 5 rfl, ry_i12.cell 6 rfl, ry_i12.cell 7 rfl, ry_i12.cell 8 rfl, ⟨bx_i12, ry_i12⟩⟩
    clear bb_i12 rr_i12 bx_i12 ry_i12 b_i12
    try dsimp only
    refine hK.out _ _ kvi12 ?_; clear hK K hHeld; intro hHeld; try simp only [Act.put, List.setIfInBounds_toArray, List.set_cons_zero, List.set_cons_succ]
    refine Tk.W 2 (some 5) (.move (.tmp 4)) 4 none ?_
    refine Tk.W 3 (some 6) (.load 31 (.tmp 1)) 31 (some (2, true)) ?_
    refine Tk.W 5 (some 8) (.fieldAddr 31 (.tmp 1) 0) 0 (some (2, true)) ?_
    refine Tk.W 6 (some 9) (.load 28 (.tmp 8)) 28 (some (2, true)) ?_
    refine Tk.R 4 (some 7) (.call ⟨.value (.func 46), #[.tmp 6], #[31]⟩) 2 (some (2, true)) (fun K hK => ?_)
    go_simp
    refine (skey _ ((hr.later hHeld.2.2.2.2.2.2.2.2.2.out.1 (Nat.le_refl _)).more hHeld.2.2.2.2.2.2.2.2.2.out.1.size) ((hs.later hHeld.2.2.2.2.2.2.2.2.2.out.1 (Nat.le_refl _)).more hHeld.2.2.2.2.2.2.2.2.2.out.1.size)).mono ?_
    rintro e vi17 ⟨rfl, b_i17⟩
    have ⟨bb_i17, rr_i17⟩ := hHeld.2.2.2.2.2.2.2.2.2.out
    have bx_i17 := bb_i17.trans (b_i17.mono bb_i17.size)
    have ry_i17 := rr_i17.below b_i17
    have kvi17 := Tk.kv hK (w := vi17) ⟨ry_i17.cell 0 rfl, ry_i17.cell 1 rfl, ry_i17.cell 2 rfl, ry_i17.cell 3 rfl, ry_i17.cell 4 rfl, ry_i17.cell 5 rfl, ry_i17.cell 6 rfl, ry_i17.cell 7 rfl, ry_i17.cell 8 rfl, ⟨bx_i17, ry_i17⟩⟩
    clear bb_i17 rr_i17 bx_i17 ry_i17 b_i17
    try dsimp only
    refine hK.out _ _ kvi17 ?_; clear hK K hHeld; intro hHeld; try simp only [Act.put, List.setIfInBounds_toArray, List.set_cons_zero, List.set_cons_succ]
    refine Tk.R 7 (some 10) (.call ⟨.value (.func 54), #[.tmp 9], #[28]⟩) 2 (some (2, true)) (fun K hK => ?_)
    go_simp
    refine (gkey _).mono ?_
    rintro e vi18 ⟨rfl, b_i18⟩
    have ⟨bb_i18, rr_i18⟩ := hHeld.2.2.2.2.2.2.2.2.2.out
    have bx_i18 := bb_i18.trans (b_i18.mono bb_i18.size)
    have ry_i18 := rr_i18.below b_i18
    have kvi18 := Tk.kv hK (w := vi18) ⟨ry_i18.cell 0 rfl, ry_i18.cell 1 rfl, ry_i18.cell 2 rfl, ry_i18.cell 3 rfl, ry_i18.cell 4 rfl, ry_i18.cell 5 rfl, ry_i18.cell 6 rfl, ry_i18.cell 7 rfl, ry_i18.cell 8 rfl, ⟨bx_i18, ry_i18⟩⟩
    clear bb_i18 rr_i18 bx_i18 ry_i18 b_i18
    try dsimp only
    refine hK.out _ _ kvi18 ?_; clear hK K hHeld; intro hHeld; try simp only [Act.put, List.setIfInBounds_toArray, List.set_cons_zero, List.set_cons_succ]
    refine Tk.W 8 (some 11) (.binOp .leq 2 (.tmp 7) (.tmp 10) 2) 4 (some (2, true)) ?_
    refine Tk.W 9 (some 12) (.pick (.tmp 5) (.tmp 11) (.const (.bool false))) 4 none ?_
    refine Tk.W 10 (some 2) (.assign (.tmp 12)) 4 none ?_
    refine wpAnyH_done (by kernel_rfl) ?_ _
    refine NoPanic.normal ?_
    have hEnd := hHeld.2.2.2.2.2.2.2.2.2.out.1
    clear hHeld
    go_wp2
    go_ret
    exact ⟨rfl, hEnd⟩

set_option maxHeartbeats 4000000 in
theorem s_NearIn (n l d r p s t : Int) (a b : Option Addr) (k ka m mb : Nat) (ks os : List Int) (w : World) (hr : Row w w.heap.size a k ks) (hs : Row w w.heap.size b m os) (hk : k ≤ 1048576) (hm : m ≤ 1048576) :
    Calls Try.prog 51 #[wld n l d r p s (.slice a k ka) (.slice b m mb) t] w fun e w' => e = .returned (.bool (NI n l d r p s ks k os m t)) ∧ Below w.heap.size w w' := by
  have B1 := (Below.refl w.heap.size w).alloc (Nat.le_refl _) (.cells #[.int .i64 n, .int .i64 l, .int .i64 d, .int .i64 r, .int .i64 p, .int .i64 s, .slice a k ka, .slice b m mb, .int .i64 t] 31)
  have R1 := Room.new w (c9 n l d r p s (.slice a k ka) (.slice b m mb) t) 31
  have okey := fun w hr hs => s_WorldOk n l d r p s t a b k ka m mb ks os w hr hs hk hm
  have skey := fun w hr hs => s_SkewOf n l d r p s t a b k ka m mb ks os w hr hs hk hm
  have gkey := fun w => Cf.s_GapMost n l d r p s w
  unfold NI
  generalize SK n l d r p s ks k os m t = X at skey ⊢
  generalize GM n l d r s = Y at gkey ⊢
  generalize WO n l d r p s ks k os m t = q at okey ⊢
  cases q with
  | false =>
    go_enter Try.func51, Try.ntmps51
    go_wp2_with fail
    refine wp_region_noPanic ?_
    refine wp_region_held_drew (S := (fun w' => w'.cell? ⟨w.heap.size, 0, none⟩ = some (.int .i64 n) ∧ w'.cell? ⟨w.heap.size, 1, none⟩ = some (.int .i64 l) ∧ w'.cell? ⟨w.heap.size, 2, none⟩ = some (.int .i64 d) ∧ w'.cell? ⟨w.heap.size, 3, none⟩ = some (.int .i64 r) ∧ w'.cell? ⟨w.heap.size, 4, none⟩ = some (.int .i64 p) ∧ w'.cell? ⟨w.heap.size, 5, none⟩ = some (.int .i64 s) ∧ w'.cell? ⟨w.heap.size, 6, none⟩ = some (.slice a k ka) ∧ w'.cell? ⟨w.heap.size, 7, none⟩ = some (.slice b m mb) ∧ w'.cell? ⟨w.heap.size, 8, none⟩ = some (.int .i64 t) ∧ Hid (Below w.heap.size w w' ∧ Room w' w.heap.size [.int .i64 n, .int .i64 l, .int .i64 d, .int .i64 r, .int .i64 p, .int .i64 s, .slice a k ka, .slice b m mb, .int .i64 t]))) (by kernel_rfl) ⟨R1.cell 0 rfl, R1.cell 1 rfl, R1.cell 2 rfl, R1.cell 3 rfl, R1.cell 4 rfl, R1.cell 5 rfl, R1.cell 6 rfl, R1.cell 7 rfl, R1.cell 8 rfl, ⟨B1.drew, R1.drew⟩⟩ (fun hHeld => ?_)
    refine Tk.W 0 (some 3) (.load 31 (.tmp 1)) 31 none ?_
    refine Tk.R 1 (some 4) (.call ⟨.value (.func 66), #[.tmp 3], #[31]⟩) 4 none (fun K hK => ?_)
    go_simp
    refine (okey _ ((hr.later hHeld.2.2.2.2.2.2.2.2.2.out.1 (Nat.le_refl _)).more hHeld.2.2.2.2.2.2.2.2.2.out.1.size) ((hs.later hHeld.2.2.2.2.2.2.2.2.2.out.1 (Nat.le_refl _)).more hHeld.2.2.2.2.2.2.2.2.2.out.1.size)).mono ?_
    rintro e vs02 ⟨rfl, b_s02⟩
    have ⟨bb_s02, rr_s02⟩ := hHeld.2.2.2.2.2.2.2.2.2.out
    have bx_s02 := bb_s02.trans (b_s02.mono bb_s02.size)
    have ry_s02 := rr_s02.below b_s02
    have kvs02 := Tk.kv hK (w := vs02) ⟨ry_s02.cell 0 rfl, ry_s02.cell 1 rfl, ry_s02.cell 2 rfl, ry_s02.cell 3 rfl, ry_s02.cell 4 rfl, ry_s02.cell 5 rfl, ry_s02.cell 6 rfl, ry_s02.cell 7 rfl, ry_s02.cell 8 rfl, ⟨bx_s02, ry_s02⟩⟩
    clear bb_s02 rr_s02 bx_s02 ry_s02 b_s02
    try dsimp only
    refine hK.out _ _ kvs02 ?_; clear hK K hHeld; intro hHeld; try simp only [Act.put, List.setIfInBounds_toArray, List.set_cons_zero, List.set_cons_succ]
    refine Tk.W 2 (some 5) (.move (.tmp 4)) 4 none ?_
    refine Tk.N 3 (some 6) (.load 31 (.tmp 1)) 31 (some (2, true)) ?_
    refine Tk.N 4 (some 7) (.call ⟨.value (.func 45), #[.tmp 6], #[31]⟩) 2 (some (2, true)) ?_
    refine Tk.N 5 (some 8) (.fieldAddr 31 (.tmp 1) 0) 0 (some (2, true)) ?_
    refine Tk.N 6 (some 9) (.load 28 (.tmp 8)) 28 (some (2, true)) ?_
    refine Tk.N 7 (some 10) (.call ⟨.value (.func 100), #[.tmp 9], #[28]⟩) 2 (some (2, true)) ?_
    refine Tk.N 8 (some 11) (.binOp .leq 2 (.tmp 7) (.tmp 10) 2) 4 (some (2, true)) ?_
    refine Tk.W 9 (some 12) (.pick (.tmp 5) (.tmp 11) (.const (.bool false))) 4 none ?_
    refine Tk.W 10 (some 2) (.assign (.tmp 12)) 4 none ?_
    refine wpAnyH_done (by kernel_rfl) ?_ _
    refine NoPanic.normal ?_
    have hEnd := hHeld.2.2.2.2.2.2.2.2.2.out.1
    clear hHeld
    go_wp2
    go_ret
    exact ⟨rfl, hEnd⟩
  | true =>
    go_enter Try.func51, Try.ntmps51
    go_wp2_with fail
    refine wp_region_noPanic ?_
    refine wp_region_held_drew (S := (fun w' => w'.cell? ⟨w.heap.size, 0, none⟩ = some (.int .i64 n) ∧ w'.cell? ⟨w.heap.size, 1, none⟩ = some (.int .i64 l) ∧ w'.cell? ⟨w.heap.size, 2, none⟩ = some (.int .i64 d) ∧ w'.cell? ⟨w.heap.size, 3, none⟩ = some (.int .i64 r) ∧ w'.cell? ⟨w.heap.size, 4, none⟩ = some (.int .i64 p) ∧ w'.cell? ⟨w.heap.size, 5, none⟩ = some (.int .i64 s) ∧ w'.cell? ⟨w.heap.size, 6, none⟩ = some (.slice a k ka) ∧ w'.cell? ⟨w.heap.size, 7, none⟩ = some (.slice b m mb) ∧ w'.cell? ⟨w.heap.size, 8, none⟩ = some (.int .i64 t) ∧ Hid (Below w.heap.size w w' ∧ Room w' w.heap.size [.int .i64 n, .int .i64 l, .int .i64 d, .int .i64 r, .int .i64 p, .int .i64 s, .slice a k ka, .slice b m mb, .int .i64 t]))) (by kernel_rfl) ⟨R1.cell 0 rfl, R1.cell 1 rfl, R1.cell 2 rfl, R1.cell 3 rfl, R1.cell 4 rfl, R1.cell 5 rfl, R1.cell 6 rfl, R1.cell 7 rfl, R1.cell 8 rfl, ⟨B1.drew, R1.drew⟩⟩ (fun hHeld => ?_)
    refine Tk.W 0 (some 3) (.load 31 (.tmp 1)) 31 none ?_
    refine Tk.R 1 (some 4) (.call ⟨.value (.func 66), #[.tmp 3], #[31]⟩) 4 none (fun K hK => ?_)
    go_simp
    refine (okey _ ((hr.later hHeld.2.2.2.2.2.2.2.2.2.out.1 (Nat.le_refl _)).more hHeld.2.2.2.2.2.2.2.2.2.out.1.size) ((hs.later hHeld.2.2.2.2.2.2.2.2.2.out.1 (Nat.le_refl _)).more hHeld.2.2.2.2.2.2.2.2.2.out.1.size)).mono ?_
    rintro e vs12 ⟨rfl, b_s12⟩
    have ⟨bb_s12, rr_s12⟩ := hHeld.2.2.2.2.2.2.2.2.2.out
    have bx_s12 := bb_s12.trans (b_s12.mono bb_s12.size)
    have ry_s12 := rr_s12.below b_s12
    have kvs12 := Tk.kv hK (w := vs12) ⟨ry_s12.cell 0 rfl, ry_s12.cell 1 rfl, ry_s12.cell 2 rfl, ry_s12.cell 3 rfl, ry_s12.cell 4 rfl, ry_s12.cell 5 rfl, ry_s12.cell 6 rfl, ry_s12.cell 7 rfl, ry_s12.cell 8 rfl, ⟨bx_s12, ry_s12⟩⟩
    clear bb_s12 rr_s12 bx_s12 ry_s12 b_s12
    try dsimp only
    refine hK.out _ _ kvs12 ?_; clear hK K hHeld; intro hHeld; try simp only [Act.put, List.setIfInBounds_toArray, List.set_cons_zero, List.set_cons_succ]
    refine Tk.W 2 (some 5) (.move (.tmp 4)) 4 none ?_
    refine Tk.W 3 (some 6) (.load 31 (.tmp 1)) 31 (some (2, true)) ?_
    refine Tk.W 5 (some 8) (.fieldAddr 31 (.tmp 1) 0) 0 (some (2, true)) ?_
    refine Tk.W 6 (some 9) (.load 28 (.tmp 8)) 28 (some (2, true)) ?_
    refine Tk.R 4 (some 7) (.call ⟨.value (.func 45), #[.tmp 6], #[31]⟩) 2 (some (2, true)) (fun K hK => ?_)
    go_simp
    refine (skey _ ((hr.later hHeld.2.2.2.2.2.2.2.2.2.out.1 (Nat.le_refl _)).more hHeld.2.2.2.2.2.2.2.2.2.out.1.size) ((hs.later hHeld.2.2.2.2.2.2.2.2.2.out.1 (Nat.le_refl _)).more hHeld.2.2.2.2.2.2.2.2.2.out.1.size)).mono ?_
    rintro e vs17 ⟨rfl, b_s17⟩
    have ⟨bb_s17, rr_s17⟩ := hHeld.2.2.2.2.2.2.2.2.2.out
    have bx_s17 := bb_s17.trans (b_s17.mono bb_s17.size)
    have ry_s17 := rr_s17.below b_s17
    have kvs17 := Tk.kv hK (w := vs17) ⟨ry_s17.cell 0 rfl, ry_s17.cell 1 rfl, ry_s17.cell 2 rfl, ry_s17.cell 3 rfl, ry_s17.cell 4 rfl, ry_s17.cell 5 rfl, ry_s17.cell 6 rfl, ry_s17.cell 7 rfl, ry_s17.cell 8 rfl, ⟨bx_s17, ry_s17⟩⟩
    clear bb_s17 rr_s17 bx_s17 ry_s17 b_s17
    try dsimp only
    refine hK.out _ _ kvs17 ?_; clear hK K hHeld; intro hHeld; try simp only [Act.put, List.setIfInBounds_toArray, List.set_cons_zero, List.set_cons_succ]
    refine Tk.R 7 (some 10) (.call ⟨.value (.func 100), #[.tmp 9], #[28]⟩) 2 (some (2, true)) (fun K hK => ?_)
    go_simp
    refine (gkey _).mono ?_
    rintro e vs18 ⟨rfl, b_s18⟩
    have ⟨bb_s18, rr_s18⟩ := hHeld.2.2.2.2.2.2.2.2.2.out
    have bx_s18 := bb_s18.trans (b_s18.mono bb_s18.size)
    have ry_s18 := rr_s18.below b_s18
    have kvs18 := Tk.kv hK (w := vs18) ⟨ry_s18.cell 0 rfl, ry_s18.cell 1 rfl, ry_s18.cell 2 rfl, ry_s18.cell 3 rfl, ry_s18.cell 4 rfl, ry_s18.cell 5 rfl, ry_s18.cell 6 rfl, ry_s18.cell 7 rfl, ry_s18.cell 8 rfl, ⟨bx_s18, ry_s18⟩⟩
    clear bb_s18 rr_s18 bx_s18 ry_s18 b_s18
    try dsimp only
    refine hK.out _ _ kvs18 ?_; clear hK K hHeld; intro hHeld; try simp only [Act.put, List.setIfInBounds_toArray, List.set_cons_zero, List.set_cons_succ]
    refine Tk.W 8 (some 11) (.binOp .leq 2 (.tmp 7) (.tmp 10) 2) 4 (some (2, true)) ?_
    refine Tk.W 9 (some 12) (.pick (.tmp 5) (.tmp 11) (.const (.bool false))) 4 none ?_
    refine Tk.W 10 (some 2) (.assign (.tmp 12)) 4 none ?_
    refine wpAnyH_done (by kernel_rfl) ?_ _
    refine NoPanic.normal ?_
    have hEnd := hHeld.2.2.2.2.2.2.2.2.2.out.1
    clear hHeld
    go_wp2
    go_ret
    exact ⟨rfl, hEnd⟩

end Go.Proofs.Ytloicicgcdfgnaa.Wl
