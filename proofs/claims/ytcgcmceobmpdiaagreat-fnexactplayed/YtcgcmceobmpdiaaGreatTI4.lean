/-
  impl.TurnOk by its answer (way 4); it writes nothing that was there ahead of it.
-/
import Derived.Test.YtcgcmceobmpdiaaGreatTIa
import Derived.Test.YtcgcmceobmpdiaaGreatTk
namespace Go.Proofs.YtcgcmceobmpdiaaGreat.Tu
open Go.ChangeShapes Go.WideShapes Go.ChangeAt Go.RowKit
open Ls (el Row)
open Ow (Has Own ints)
open Rd (Flags)
open Bo (eb HasB)
open Rm (Room)
open Sp (span LK)
open Wl (wld c9 WO bad allIn)
open Ss (RowsAt ln rw_ tot)
open Cf (CP)
set_option linter.unusedVariables false
set_option linter.unusedSimpArgs false

set_option maxRecDepth 100000 in
set_option maxHeartbeats 16000000 in
theorem ti4 (l d r p s t : Int) (k cK cO : Nat) (aK aO : Option Addr) (aD aE aL aF aR : Option Addr) (nD nF : Nat) (cD nE cE nL cL cF nR cR : Nat) (ks os ds : List Int) (es ls : List (List Int)) (fs rs : List Bool) (w : World) (rK : Hid (Row w w.heap.size aK k ks)) (rO : Hid (Row w w.heap.size aO k os)) (rD : Hid (Row w w.heap.size aD nD ds)) (rE : Hid (RowsAt w w.heap.size aE nE es)) (rL : Hid (RowsAt w w.heap.size aL nL ls)) (rF : Hid (Flags w w.heap.size aF nF fs)) (rR : Hid (Flags w w.heap.size aR nR rs)) (hk : k ≤ 1048576) (hm : k ≤ 1048576) (hnD : nD ≤ 1048576) (hnE : nE ≤ 1048576) (hnL : nL ≤ 1048576) (htE : Hid (tot es nE ≤ 1048576)) (htL : Hid (tot ls nL ≤ 1048576)) (hnF : nF ≤ 1048576) (hnR : nR ≤ 1048576) (d0 : 0 ≤ d) (d1 : d ≤ 1000000) (e0 : 0 ≤ r) (e1 : r ≤ 1000000) (h0 : Hid (WO (k : Int) l d r p s ks k os k t = true)) (h1 : Hid (R1 d k ds = true)) (h2 : Hid (RS r k es = true)) (h3 : Hid (RS 1000000000000000 k ls = true)) (h4 : Hid (((nF == k) && OW 0 ks fs k) = false)) :
    Calls Tryz.prog 51 #[.agg #[.int .i64 (k : Int), .int .i64 l, .int .i64 d, .int .i64 r, .int .i64 p, .int .i64 s, .slice aK k cK, .slice aO k cO, .int .i64 t], .agg #[.slice aD nD cD, .slice aE nE cE, .slice aL nL cL, .slice aF nF cF, .slice aR nR cR]] w fun e w' => e = .returned (.bool (false)) ∧ Below w.heap.size w w' := by
  have R0 := (Room.new w [.int .i64 (k : Int), .int .i64 l, .int .i64 d, .int .i64 r, .int .i64 p, .int .i64 s, .slice aK k cK, .slice aO k cO, .int .i64 t] 32).alloc (.cells #[.slice aD nD cD, .slice aE nE cE, .slice aL nL cL, .slice aF nF cF, .slice aR nR cR] 53)
  have RT : Room ((w.alloc (.cells #[.int .i64 (k : Int), .int .i64 l, .int .i64 d, .int .i64 r, .int .i64 p, .int .i64 s, .slice aK k cK, .slice aO k cO, .int .i64 t] 32)).alloc (.cells #[.slice aD nD cD, .slice aE nE cE, .slice aL nL cL, .slice aF nF cF, .slice aR nR cR] 53)) (w.heap.size + 1) [.slice aD nD cD, .slice aE nE cE, .slice aL nL cL, .slice aF nF cF, .slice aR nR cR] := Room.at _ [.slice aD nD cD, .slice aE nE cE, .slice aL nL cL, .slice aF nF cF, .slice aR nR cR] 53 _ (by simp)
  have BB := ((Below.refl w.heap.size w).alloc (Nat.le_refl _) (.cells #[.int .i64 (k : Int), .int .i64 l, .int .i64 d, .int .i64 r, .int .i64 p, .int .i64 s, .slice aK k cK, .slice aO k cO, .int .i64 t] 32)).alloc (by simp) (.cells #[.slice aD nD cD, .slice aE nE cE, .slice aL nL cL, .slice aF nF cF, .slice aR nR cR] 53)
  have hwd : IntKind.i64.wrap (-d) = -d := by rw [IntKind.wrap_i64]; omega
  have hwr : IntKind.i64.wrap (-r) = -r := by rw [IntKind.wrap_i64]; omega
  go_enter Tryz.func51, Tryz.ntmps51
  go_wp2_with fail
  refine wp_region_noPanic ?_
  refine held_lit 69 #[false, false, false, false, false, false, false, false, false, false, false, false, false, false, false, false, false, false, false, false, false, false, false, false, false, false, false, false, false, false, false, false, false, false, false, false, false, false, false, false, false, false, false, false, false, false, false, false, false, false, false, false, false, false, false, false, false, false, false, false, false, false, false, false, false, false, false, false, false] (by kernel_rfl) (by kernel_rfl) (S := (fun w' => w'.cell? ⟨w.heap.size, 0, none⟩ = some (.int .i64 (k : Int)) ∧ w'.cell? ⟨w.heap.size, 1, none⟩ = some (.int .i64 l) ∧ w'.cell? ⟨w.heap.size, 2, none⟩ = some (.int .i64 d) ∧ w'.cell? ⟨w.heap.size, 3, none⟩ = some (.int .i64 r) ∧ w'.cell? ⟨w.heap.size, 4, none⟩ = some (.int .i64 p) ∧ w'.cell? ⟨w.heap.size, 5, none⟩ = some (.int .i64 s) ∧ w'.cell? ⟨w.heap.size, 6, none⟩ = some (.slice aK k cK) ∧ w'.cell? ⟨w.heap.size, 7, none⟩ = some (.slice aO k cO) ∧ w'.cell? ⟨w.heap.size, 8, none⟩ = some (.int .i64 t) ∧ w'.cell? ⟨w.heap.size + 1, 0, none⟩ = some (.slice aD nD cD) ∧ w'.cell? ⟨w.heap.size + 1, 1, none⟩ = some (.slice aE nE cE) ∧ w'.cell? ⟨w.heap.size + 1, 2, none⟩ = some (.slice aL nL cL) ∧ w'.cell? ⟨w.heap.size + 1, 3, none⟩ = some (.slice aF nF cF) ∧ w'.cell? ⟨w.heap.size + 1, 4, none⟩ = some (.slice aR nR cR) ∧ Hid (Below w.heap.size w w' ∧ Room w' w.heap.size [.int .i64 (k : Int), .int .i64 l, .int .i64 d, .int .i64 r, .int .i64 p, .int .i64 s, .slice aK k cK, .slice aO k cO, .int .i64 t] ∧ Room w' (w.heap.size + 1) [.slice aD nD cD, .slice aE nE cE, .slice aL nL cL, .slice aF nF cF, .slice aR nR cR]))) (by kernel_rfl) ⟨R0.drew.cell 0 rfl, R0.drew.cell 1 rfl, R0.drew.cell 2 rfl, R0.drew.cell 3 rfl, R0.drew.cell 4 rfl, R0.drew.cell 5 rfl, R0.drew.cell 6 rfl, R0.drew.cell 7 rfl, R0.drew.cell 8 rfl, RT.drew.cell 0 rfl, RT.drew.cell 1 rfl, RT.drew.cell 2 rfl, RT.drew.cell 3 rfl, RT.drew.cell 4 rfl, ⟨BB.drew, R0.drew, RT.drew⟩⟩ (fun hHeld => ?_)
  refine Tk.W 0 (some 5) (.load 32 (.tmp 2)) 32 none ?_
  refine Tk.R 1 (some 6) (.call ⟨.value (.func 23), #[.tmp 5], #[32]⟩) 4 none (fun K hK => ?_)
  go_simp
  refine (Wl.i_WorldOk (k : Int) l d r p s t _ _ k cK k cO ks os _ ((rK.out.later hHeld.2.2.2.2.2.2.2.2.2.2.2.2.2.2.out.1 (Nat.le_refl _)).more hHeld.2.2.2.2.2.2.2.2.2.2.2.2.2.2.out.1.size) ((rO.out.later hHeld.2.2.2.2.2.2.2.2.2.2.2.2.2.2.out.1 (Nat.le_refl _)).more hHeld.2.2.2.2.2.2.2.2.2.2.2.2.2.2.out.1.size) hk hm).mono ?_
  rintro e vt2 ⟨rfl, bt2⟩
  rw [h0.out]
  have q1t2 := hHeld.2.2.2.2.2.2.2.2.2.2.2.2.2.2.out.1.trans (bt2.mono hHeld.2.2.2.2.2.2.2.2.2.2.2.2.2.2.out.1.size)
  have q2t2 := hHeld.2.2.2.2.2.2.2.2.2.2.2.2.2.2.out.2.1.below bt2
  have q3t2 := hHeld.2.2.2.2.2.2.2.2.2.2.2.2.2.2.out.2.2.below bt2
  have kvt2 := Tk.kv hK (w := vt2) ⟨q2t2.cell 0 rfl, q2t2.cell 1 rfl, q2t2.cell 2 rfl, q2t2.cell 3 rfl, q2t2.cell 4 rfl, q2t2.cell 5 rfl, q2t2.cell 6 rfl, q2t2.cell 7 rfl, q2t2.cell 8 rfl, q3t2.cell 0 rfl, q3t2.cell 1 rfl, q3t2.cell 2 rfl, q3t2.cell 3 rfl, q3t2.cell 4 rfl, ⟨q1t2, q2t2, q3t2⟩⟩
  clear bt2 q1t2 q2t2 q3t2
  try dsimp only
  refine hK.out _ _ kvt2 ?_; clear hK K hHeld; intro hHeld; try simp only [Act.put, List.setIfInBounds_toArray, List.set_cons_zero, List.set_cons_succ]
  refine Tk.W 2 (some 7) (.move (.tmp 6)) 4 none ?_
  refine Tk.W 3 (some 8) (.fieldAddr 32 (.tmp 2) 0) 0 (some (2, true)) ?_
  refine Tk.W 4 (some 9) (.fieldAddr 30 (.tmp 8) 2) 0 (some (2, true)) ?_
  refine Tk.W 5 (some 10) (.load 2 (.tmp 9)) 2 (some (2, true)) ?_
  refine Tk.W 6 (some 11) (.unOp .neg 2 (.tmp 10)) 2 (some (2, true)) ?_
  refine Tk.W 7 (some 12) (.fieldAddr 32 (.tmp 2) 0) 0 (some (2, true)) ?_
  refine Tk.W 8 (some 13) (.fieldAddr 30 (.tmp 12) 2) 0 (some (2, true)) ?_
  refine Tk.W 9 (some 14) (.load 2 (.tmp 13)) 2 (some (2, true)) ?_
  refine Tk.W 10 (some 15) (.build 74 #[(0, .tmp 11), (1, .tmp 14)]) 74 (some (2, true)) ?_
  refine Tk.W 11 (some 16) (.fieldAddr 53 (.tmp 3) 0) 0 (some (2, true)) ?_
  refine Tk.W 12 (some 17) (.load 24 (.tmp 16)) 24 (some (2, true)) ?_
  refine Tk.W 13 (some 18) (.fieldAddr 32 (.tmp 2) 0) 0 (some (2, true)) ?_
  refine Tk.W 14 (some 19) (.fieldAddr 30 (.tmp 18) 0) 0 (some (2, true)) ?_
  refine Tk.W 15 (some 20) (.load 2 (.tmp 19)) 2 (some (2, true)) ?_
  refine Tk.R 16 (some 21) (.call ⟨.value (.func 47), #[.tmp 15, .tmp 17, .tmp 20], #[74, 24, 2]⟩) 4 (some (2, true)) (fun K hK => ?_)
  refine if_yes (by rfl) ?_
  go_simp
  refine (r1_in d aD nD cD k ds _ ((rD.out.later hHeld.2.2.2.2.2.2.2.2.2.2.2.2.2.2.out.1 (Nat.le_refl _)).more hHeld.2.2.2.2.2.2.2.2.2.2.2.2.2.2.out.1.size) hnD).mono ?_
  rintro e vt17 ⟨rfl, bt17⟩
  rw [h1.out]
  have q1t17 := hHeld.2.2.2.2.2.2.2.2.2.2.2.2.2.2.out.1.trans (bt17.mono hHeld.2.2.2.2.2.2.2.2.2.2.2.2.2.2.out.1.size)
  have q2t17 := hHeld.2.2.2.2.2.2.2.2.2.2.2.2.2.2.out.2.1.below bt17
  have q3t17 := hHeld.2.2.2.2.2.2.2.2.2.2.2.2.2.2.out.2.2.below bt17
  have kvt17 := Tk.kv hK (w := vt17) ⟨q2t17.cell 0 rfl, q2t17.cell 1 rfl, q2t17.cell 2 rfl, q2t17.cell 3 rfl, q2t17.cell 4 rfl, q2t17.cell 5 rfl, q2t17.cell 6 rfl, q2t17.cell 7 rfl, q2t17.cell 8 rfl, q3t17.cell 0 rfl, q3t17.cell 1 rfl, q3t17.cell 2 rfl, q3t17.cell 3 rfl, q3t17.cell 4 rfl, ⟨q1t17, q2t17, q3t17⟩⟩
  clear bt17 q1t17 q2t17 q3t17
  try dsimp only
  refine hK.out _ _ kvt17 ?_; clear hK K hHeld; intro hHeld; try simp only [Act.put, List.setIfInBounds_toArray, List.set_cons_zero, List.set_cons_succ]
  refine Tk.W 17 (some 22) (.pick (.tmp 7) (.tmp 21) (.const (.bool false))) 4 none ?_
  refine Tk.W 18 (some 23) (.move (.tmp 22)) 4 none ?_
  refine Tk.W 19 (some 24) (.fieldAddr 32 (.tmp 2) 0) 0 (some (18, true)) ?_
  refine Tk.W 20 (some 25) (.fieldAddr 30 (.tmp 24) 3) 0 (some (18, true)) ?_
  refine Tk.W 21 (some 26) (.load 2 (.tmp 25)) 2 (some (18, true)) ?_
  refine Tk.W 22 (some 27) (.unOp .neg 2 (.tmp 26)) 2 (some (18, true)) ?_
  refine Tk.W 23 (some 28) (.fieldAddr 32 (.tmp 2) 0) 0 (some (18, true)) ?_
  refine Tk.W 24 (some 29) (.fieldAddr 30 (.tmp 28) 3) 0 (some (18, true)) ?_
  refine Tk.W 25 (some 30) (.load 2 (.tmp 29)) 2 (some (18, true)) ?_
  refine Tk.W 26 (some 31) (.build 74 #[(0, .tmp 27), (1, .tmp 30)]) 74 (some (18, true)) ?_
  refine Tk.W 27 (some 32) (.fieldAddr 53 (.tmp 3) 1) 0 (some (18, true)) ?_
  refine Tk.W 28 (some 33) (.load 45 (.tmp 32)) 45 (some (18, true)) ?_
  refine Tk.W 29 (some 34) (.fieldAddr 32 (.tmp 2) 0) 0 (some (18, true)) ?_
  refine Tk.W 30 (some 35) (.fieldAddr 30 (.tmp 34) 0) 0 (some (18, true)) ?_
  refine Tk.W 31 (some 36) (.load 2 (.tmp 35)) 2 (some (18, true)) ?_
  refine Tk.R 32 (some 37) (.call ⟨.value (.func 65), #[.tmp 31, .tmp 33, .tmp 36], #[74, 45, 2]⟩) 4 (some (18, true)) (fun K hK => ?_)
  refine if_yes (by rfl) ?_
  go_simp
  refine (eachRowIn r aE nE cE k es _ ((rE.out.later hHeld.2.2.2.2.2.2.2.2.2.2.2.2.2.2.out.1 (Nat.le_refl _)).more hHeld.2.2.2.2.2.2.2.2.2.2.2.2.2.2.out.1.size) hnE htE.out hk).mono ?_
  rintro e vt33 ⟨rfl, bt33⟩
  rw [h2.out]
  have q1t33 := hHeld.2.2.2.2.2.2.2.2.2.2.2.2.2.2.out.1.trans (bt33.mono hHeld.2.2.2.2.2.2.2.2.2.2.2.2.2.2.out.1.size)
  have q2t33 := hHeld.2.2.2.2.2.2.2.2.2.2.2.2.2.2.out.2.1.below bt33
  have q3t33 := hHeld.2.2.2.2.2.2.2.2.2.2.2.2.2.2.out.2.2.below bt33
  have kvt33 := Tk.kv hK (w := vt33) ⟨q2t33.cell 0 rfl, q2t33.cell 1 rfl, q2t33.cell 2 rfl, q2t33.cell 3 rfl, q2t33.cell 4 rfl, q2t33.cell 5 rfl, q2t33.cell 6 rfl, q2t33.cell 7 rfl, q2t33.cell 8 rfl, q3t33.cell 0 rfl, q3t33.cell 1 rfl, q3t33.cell 2 rfl, q3t33.cell 3 rfl, q3t33.cell 4 rfl, ⟨q1t33, q2t33, q3t33⟩⟩
  clear bt33 q1t33 q2t33 q3t33
  try dsimp only
  refine hK.out _ _ kvt33 ?_; clear hK K hHeld; intro hHeld; try simp only [Act.put, List.setIfInBounds_toArray, List.set_cons_zero, List.set_cons_succ]
  refine Tk.W 33 (some 38) (.pick (.tmp 23) (.tmp 37) (.const (.bool false))) 4 none ?_
  refine Tk.W 34 (some 39) (.move (.tmp 38)) 4 none ?_
  refine Tk.W 35 (some 40) (.build 74 #[(0, .const (.int .i64 (-1000000000000000))), (1, .const (.int .i64 1000000000000000))]) 74 (some (34, true)) ?_
  refine Tk.W 36 (some 41) (.fieldAddr 53 (.tmp 3) 2) 0 (some (34, true)) ?_
  refine Tk.W 37 (some 42) (.load 45 (.tmp 41)) 45 (some (34, true)) ?_
  refine Tk.W 38 (some 43) (.fieldAddr 32 (.tmp 2) 0) 0 (some (34, true)) ?_
  refine Tk.W 39 (some 44) (.fieldAddr 30 (.tmp 43) 0) 0 (some (34, true)) ?_
  refine Tk.W 40 (some 45) (.load 2 (.tmp 44)) 2 (some (34, true)) ?_
  refine Tk.R 41 (some 46) (.call ⟨.value (.func 65), #[.tmp 40, .tmp 42, .tmp 45], #[74, 45, 2]⟩) 4 (some (34, true)) (fun K hK => ?_)
  refine if_yes (by rfl) ?_
  go_simp
  refine (eachRowIn 1000000000000000 aL nL cL k ls _ ((rL.out.later hHeld.2.2.2.2.2.2.2.2.2.2.2.2.2.2.out.1 (Nat.le_refl _)).more hHeld.2.2.2.2.2.2.2.2.2.2.2.2.2.2.out.1.size) hnL htL.out hk).mono ?_
  rintro e vt42 ⟨rfl, bt42⟩
  rw [h3.out]
  have q1t42 := hHeld.2.2.2.2.2.2.2.2.2.2.2.2.2.2.out.1.trans (bt42.mono hHeld.2.2.2.2.2.2.2.2.2.2.2.2.2.2.out.1.size)
  have q2t42 := hHeld.2.2.2.2.2.2.2.2.2.2.2.2.2.2.out.2.1.below bt42
  have q3t42 := hHeld.2.2.2.2.2.2.2.2.2.2.2.2.2.2.out.2.2.below bt42
  have kvt42 := Tk.kv hK (w := vt42) ⟨q2t42.cell 0 rfl, q2t42.cell 1 rfl, q2t42.cell 2 rfl, q2t42.cell 3 rfl, q2t42.cell 4 rfl, q2t42.cell 5 rfl, q2t42.cell 6 rfl, q2t42.cell 7 rfl, q2t42.cell 8 rfl, q3t42.cell 0 rfl, q3t42.cell 1 rfl, q3t42.cell 2 rfl, q3t42.cell 3 rfl, q3t42.cell 4 rfl, ⟨q1t42, q2t42, q3t42⟩⟩
  clear bt42 q1t42 q2t42 q3t42
  try dsimp only
  refine hK.out _ _ kvt42 ?_; clear hK K hHeld; intro hHeld; try simp only [Act.put, List.setIfInBounds_toArray, List.set_cons_zero, List.set_cons_succ]
  refine Tk.W 42 (some 47) (.pick (.tmp 39) (.tmp 46) (.const (.bool false))) 4 none ?_
  refine Tk.W 43 (some 48) (.move (.tmp 47)) 4 none ?_
  refine Tk.W 44 (some 49) (.fieldAddr 53 (.tmp 3) 3) 0 (some (43, true)) ?_
  refine Tk.W 45 (some 50) (.load 46 (.tmp 49)) 46 (some (43, true)) ?_
  refine Tk.W 46 (some 51) (.fieldAddr 32 (.tmp 2) 1) 0 (some (43, true)) ?_
  refine Tk.W 47 (some 52) (.load 24 (.tmp 51)) 24 (some (43, true)) ?_
  refine Tk.R 48 (some 53) (.call ⟨.value (.func 66), #[.const (.int .i64 0), .tmp 50, .tmp 52], #[2, 46, 24]⟩) 4 (some (43, true)) (fun K hK => ?_)
  refine if_yes (by rfl) ?_
  go_simp
  refine (onlyWhere 0 aF aK nF cF k cK ks fs _ ((rF.out.later hHeld.2.2.2.2.2.2.2.2.2.2.2.2.2.2.out.1 (Nat.le_refl _)).more hHeld.2.2.2.2.2.2.2.2.2.2.2.2.2.2.out.1.size) ((rK.out.later hHeld.2.2.2.2.2.2.2.2.2.2.2.2.2.2.out.1 (Nat.le_refl _)).more hHeld.2.2.2.2.2.2.2.2.2.2.2.2.2.2.out.1.size) hk hnF).mono ?_
  rintro e vt49 ⟨rfl, rfl⟩
  rw [h4.out]
  have kvt49 := hHeld
  try dsimp only
  refine hK.out _ _ kvt49 ?_; clear hK K hHeld; intro hHeld; try simp only [Act.put, List.setIfInBounds_toArray, List.set_cons_zero, List.set_cons_succ]
  refine Tk.W 49 (some 54) (.pick (.tmp 48) (.tmp 53) (.const (.bool false))) 4 none ?_
  refine Tk.W 50 (some 55) (.move (.tmp 54)) 4 none ?_
  refine Tk.N 51 (some 56) (.fieldAddr 53 (.tmp 3) 4) 0 (some (50, true)) ?_
  refine Tk.N 52 (some 57) (.load 46 (.tmp 56)) 46 (some (50, true)) ?_
  refine Tk.N 53 (some 58) (.fieldAddr 32 (.tmp 2) 1) 0 (some (50, true)) ?_
  refine Tk.N 54 (some 59) (.load 24 (.tmp 58)) 24 (some (50, true)) ?_
  refine Tk.N 55 (some 60) (.call ⟨.value (.func 66), #[.const (.int .i64 1), .tmp 57, .tmp 59], #[2, 46, 24]⟩) 4 (some (50, true)) ?_
  refine Tk.W 56 (some 61) (.pick (.tmp 55) (.tmp 60) (.const (.bool false))) 4 none ?_
  refine Tk.W 57 (some 62) (.move (.tmp 61)) 4 none ?_
  refine Tk.N 58 (some 63) (.load 32 (.tmp 2)) 32 (some (57, true)) ?_
  refine Tk.N 59 (some 64) (.load 53 (.tmp 3)) 53 (some (57, true)) ?_
  refine Tk.N 60 (some 65) (.call ⟨.value (.func 52), #[.tmp 63, .tmp 64], #[32, 53]⟩) 32 (some (57, true)) ?_
  refine Tk.N 61 (some 66) (.field 32 (.tmp 65) 1) 24 (some (57, true)) ?_
  refine Tk.N 62 (some 67) (.call ⟨.value (.func 49), #[.tmp 66], #[24]⟩) 2 (some (57, true)) ?_
  refine Tk.N 63 (some 68) (.fieldAddr 32 (.tmp 2) 0) 0 (some (57, true)) ?_
  refine Tk.N 64 (some 69) (.fieldAddr 30 (.tmp 68) 1) 0 (some (57, true)) ?_
  refine Tk.N 65 (some 70) (.load 2 (.tmp 69)) 2 (some (57, true)) ?_
  refine Tk.N 66 (some 71) (.binOp .leq 2 (.tmp 67) (.tmp 70) 2) 4 (some (57, true)) ?_
  refine Tk.W 67 (some 72) (.pick (.tmp 62) (.tmp 71) (.const (.bool false))) 4 none ?_
  refine Tk.W 68 (some 4) (.assign (.tmp 72)) 4 none ?_
  refine wpAnyH_done (by kernel_rfl) ?_ _
  refine NoPanic.normal ?_
  have hBB := hHeld.2.2.2.2.2.2.2.2.2.2.2.2.2.2.out.1
  clear hHeld
  go_wp2_with fail
  go_ret
  exact ⟨rfl, hBB⟩

end Go.Proofs.YtcgcmceobmpdiaaGreat.Tu
