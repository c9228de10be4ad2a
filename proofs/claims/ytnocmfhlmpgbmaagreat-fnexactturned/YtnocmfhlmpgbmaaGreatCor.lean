/-
  impl.CorrectionOf and spec.CorrectionOf by one answer.
-/
import Derived.Test.YtnocmfhlmpgbmaaGreatG2
import Derived.Test.YtnocmfhlmpgbmaaGreatG5
import Derived.Test.YtnocmfhlmpgbmaaGreatMid
import Derived.Deep.RegionHeld3
namespace Go.Proofs.YtnocmfhlmpgbmaaGreat.Tu
open Go.ChangeShapes Go.WideShapes Go.ChangeAt Go.RowKit
open Ls (el Row)
open Ow (Has ints)
open Rd (Flags)
open Bo (eb HasB)
open Rm (Room)
open Sp (span LK)
open Wl (wld c9 WO bad allIn)
open Ss (RowsAt ln rw_ tot)
open Tr (MV TT)
set_option linter.unusedVariables false
set_option linter.unusedSimpArgs false

set_option maxHeartbeats 8000000 in
set_option maxRecDepth 100000 in
theorem i_CorrectionOf (n l d r p s t : Int) (b off k cK : Nat) (aO : Option Addr) (m cO : Nat) (aD aE aL aF aR : Option Addr) (nD cD nE cE nL cL nF cF nR cR : Nat) (ks os ds : List Int) (es ls : List (List Int)) (fs rs : List Bool) (w : World) (hz : ks.length = k) (hc : ∀ j, j < k → w.cell? ⟨b, off + j, none⟩ = some (.int .i64 (el ks j))) (hb : b < w.heap.size) (rO : Row w w.heap.size aO m os) (rD : Row w w.heap.size aD nD ds) (rE : RowsAt w w.heap.size aE nE es) (rL : RowsAt w w.heap.size aL nL ls) (rF : Flags w w.heap.size aF nF fs) (rR : Flags w w.heap.size aR nR rs) (hk : k ≤ 1048576) (hm : m ≤ 1048576) (hnF : nF ≤ 1048576) (hnR : nR ≤ 1048576) (hnD : nD ≤ 1048576) (hnE : nE ≤ 1048576) (hnL : nL ≤ 1048576) (htE : tot es nE ≤ 1048576) (htL : tot ls nL ≤ 1048576) (i : Int) :
    Calls Tryz.prog 30 #[wld n l d r p s (.slice (some ⟨b, off, none⟩) k cK) (.slice aO m cO) t, trn (.slice aD nD cD) (.slice aE nE cE) (.slice aL nL cL) (.slice aF nF cF) (.slice aR nR cR), .int .i64 i] w fun e w' => e = .returned (.tuple #[.int .i64 (MV (GO n l d r p s ks k os m t ds es ls fs rs nF nR i) (GO n l d r p s ks k os m t ds es ls fs rs nF nR i).length l), .bool (TT (GO n l d r p s ks k os m t ds es ls fs rs nF nR i) (GO n l d r p s ks k os m t ds es ls fs rs nF nR i).length l)]) ∧ Below w.heap.size w w' := by
  have R0 := (Room.new w (c9 n l d r p s (.slice (some ⟨b, off, none⟩) k cK) (.slice aO m cO) t) 28).alloc (.cells #[.slice aD nD cD, .slice aE nE cE, .slice aL nL cL, .slice aF nF cF, .slice aR nR cR] 32)
  have T0 : Room ((w.alloc (.cells (c9 n l d r p s (.slice (some ⟨b, off, none⟩) k cK) (.slice aO m cO) t).toArray 28)).alloc (.cells #[.slice aD nD cD, .slice aE nE cE, .slice aL nL cL, .slice aF nF cF, .slice aR nR cR] 32)) (w.heap.size + 1) [.slice aD nD cD, .slice aE nE cE, .slice aL nL cL, .slice aF nF cF, .slice aR nR cR] := Room.at _ [.slice aD nD cD, .slice aE nE cE, .slice aL nL cL, .slice aF nF cF, .slice aR nR cR] 32 _ (by simp)
  have BB := ((Below.refl w.heap.size w).alloc (Nat.le_refl _) (.cells (c9 n l d r p s (.slice (some ⟨b, off, none⟩) k cK) (.slice aO m cO) t).toArray 28)).alloc (by simp) (.cells #[.slice aD nD cD, .slice aE nE cE, .slice aL nL cL, .slice aF nF cF, .slice aR nR cR] 32)
  have hL : (GO n l d r p s ks k os m t ds es ls fs rs nF nR i).length ≤ 1048576 := Nat.le_trans (go_len n l d r p s ks k os m t ds es ls fs rs nF nR i) hk
  go_enter Tryz.func30, Tryz.ntmps30
  have cR00 := R0.cell 0 rfl
  have cR01 := R0.cell 1 rfl
  have cR02 := R0.cell 2 rfl
  have cR03 := R0.cell 3 rfl
  have cR04 := R0.cell 4 rfl
  have cR05 := R0.cell 5 rfl
  have cR06 := R0.cell 6 rfl
  have cR07 := R0.cell 7 rfl
  have cR08 := R0.cell 8 rfl
  have lR0 := R0.lt (by simp)
  have cT00 := T0.cell 0 rfl
  have cT01 := T0.cell 1 rfl
  have cT02 := T0.cell 2 rfl
  have cT03 := T0.cell 3 rfl
  have cT04 := T0.cell 4 rfl
  have lT0 := T0.lt (by simp)
  go_wp2_with fail
  refine wp_region_noPanic ?_
  refine wp_region_held_drew (S := (fun w' => w'.cell? ⟨w.heap.size, 0, none⟩ = some (.int .i64 n) ∧ w'.cell? ⟨w.heap.size, 1, none⟩ = some (.int .i64 l) ∧ w'.cell? ⟨w.heap.size, 2, none⟩ = some (.int .i64 d) ∧ w'.cell? ⟨w.heap.size, 3, none⟩ = some (.int .i64 r) ∧ w'.cell? ⟨w.heap.size, 4, none⟩ = some (.int .i64 p) ∧ w'.cell? ⟨w.heap.size, 5, none⟩ = some (.int .i64 s) ∧ w'.cell? ⟨w.heap.size, 6, none⟩ = some (.slice (some ⟨b, off, none⟩) k cK) ∧ w'.cell? ⟨w.heap.size, 7, none⟩ = some (.slice aO m cO) ∧ w'.cell? ⟨w.heap.size, 8, none⟩ = some (.int .i64 t) ∧ w'.cell? ⟨w.heap.size + 1, 0, none⟩ = some (.slice aD nD cD) ∧ w'.cell? ⟨w.heap.size + 1, 1, none⟩ = some (.slice aE nE cE) ∧ w'.cell? ⟨w.heap.size + 1, 2, none⟩ = some (.slice aL nL cL) ∧ w'.cell? ⟨w.heap.size + 1, 3, none⟩ = some (.slice aF nF cF) ∧ w'.cell? ⟨w.heap.size + 1, 4, none⟩ = some (.slice aR nR cR) ∧ Hid (Below w.heap.size w w' ∧ Rm.Room w' (w.heap.size) [.int .i64 n, .int .i64 l, .int .i64 d, .int .i64 r, .int .i64 p, .int .i64 s, .slice (some ⟨b, off, none⟩) k cK, .slice aO m cO, .int .i64 t] ∧ Rm.Room w' (w.heap.size + 1) [.slice aD nD cD, .slice aE nE cE, .slice aL nL cL, .slice aF nF cF, .slice aR nR cR]))) (by kernel_rfl) ⟨R0.cell 0 rfl, R0.cell 1 rfl, R0.cell 2 rfl, R0.cell 3 rfl, R0.cell 4 rfl, R0.cell 5 rfl, R0.cell 6 rfl, R0.cell 7 rfl, R0.cell 8 rfl, T0.cell 0 rfl, T0.cell 1 rfl, T0.cell 2 rfl, T0.cell 3 rfl, T0.cell 4 rfl, ⟨BB.drew, R0.drew, T0.drew⟩⟩ (fun hHeld => ?_)
  refine wpAnyH_take (i := 0) (oi := { dst := some 8, op := Op.load 28 (Operand.tmp 3), type := 28, pos := _, after := _, guard := none }) (v := ?vq1) rfl (by kernel_rfl) (by kernel_rfl) (by kernel_rfl) (fun _ _ _ h => h) (Or.inl ⟨by rfl, ?hyq1⟩) (by assumption) ?restq1
  case hyq1 => (intro w hSw; (try dsimp only at hSw); go_simp; first | done | with_reducible rfl)
  try simp only [Act.put, List.setIfInBounds_toArray, List.set_cons_zero, List.set_cons_succ]
  refine wpAnyH_take (i := 1) (oi := { dst := some 9, op := Op.load 32 (Operand.tmp 4), type := 32, pos := _, after := _, guard := none }) (v := ?vq2) rfl (by kernel_rfl) (by kernel_rfl) (by kernel_rfl) (fun _ _ _ h => h) (Or.inl ⟨by rfl, ?hyq2⟩) (by assumption) ?restq2
  case hyq2 => (intro w hSw; (try dsimp only at hSw); go_simp; first | done | with_reducible rfl)
  try simp only [Act.put, List.setIfInBounds_toArray, List.set_cons_zero, List.set_cons_succ]
  refine wpAnyH_take (i := 2) (oi := { dst := some 10, op := Op.move (Operand.tmp 2), type := 2, pos := _, after := _, guard := none }) (v := ?vq3) rfl (by kernel_rfl) (by kernel_rfl) (by kernel_rfl) (fun _ _ _ h => h) (Or.inl ⟨by rfl, ?hyq3⟩) (by assumption) ?restq3
  case hyq3 => (intro w hSw; (try dsimp only at hSw); go_simp; first | done | with_reducible rfl)
  try simp only [Act.put, List.setIfInBounds_toArray, List.set_cons_zero, List.set_cons_succ]
  refine wpAnyH_take (i := 4) (oi := { dst := some 12, op := Op.fieldAddr 28 (Operand.tmp 3) 0, type := 0, pos := _, after := _, guard := none }) (v := ?vq4) rfl (by kernel_rfl) (by kernel_rfl) (by kernel_rfl) (fun _ _ _ h => h) (Or.inl ⟨by rfl, ?hyq4⟩) (by assumption) ?restq4
  case hyq4 => (intro w hSw; (try dsimp only at hSw); go_simp; first | done | with_reducible rfl)
  try simp only [Act.put, List.setIfInBounds_toArray, List.set_cons_zero, List.set_cons_succ]
  refine wpAnyH_take (i := 5) (oi := { dst := some 13, op := Op.fieldAddr 25 (Operand.tmp 12) 1, type := 0, pos := _, after := _, guard := none }) (v := ?vq5) rfl (by kernel_rfl) (by kernel_rfl) (by kernel_rfl) (fun _ _ _ h => h) (Or.inl ⟨by rfl, ?hyq5⟩) (by assumption) ?restq5
  case hyq5 => (intro w hSw; (try dsimp only at hSw); go_simp; first | done | with_reducible rfl)
  try simp only [Act.put, List.setIfInBounds_toArray, List.set_cons_zero, List.set_cons_succ]
  refine wpAnyH_take (i := 6) (oi := { dst := some 14, op := Op.load 2 (Operand.tmp 13), type := 2, pos := _, after := _, guard := none }) (v := ?vq6) rfl (by kernel_rfl) (by kernel_rfl) (by kernel_rfl) (fun _ _ _ h => h) (Or.inl ⟨by rfl, ?hyq6⟩) (by assumption) ?restq6
  case hyq6 => (intro w hSw; (try dsimp only at hSw); go_simp; first | done | with_reducible rfl)
  try simp only [Act.put, List.setIfInBounds_toArray, List.set_cons_zero, List.set_cons_succ]
  refine wpAnyH_ready (rs := [3]) (by kernel_rfl) (by simp) ?_
  refine AllReadyH.cons (o := { dst := some 11, op := Op.call { callee := Callee.value (Operand.func 73), args := #[Operand.tmp 8, Operand.tmp 9, Operand.tmp 10], argTypes := #[28, 32, 2] }, type := 26, pos := _, after := _, guard := none }) rfl (fun K hK => ?_) AllReadyH.nil
  go_simp
  refine (i_GuessesOf n l d r p s t b off k cK _ m cO _ _ _ _ _ nD cD nE cE nL cL nF cF nR cR ks os ds es ls fs rs _ hz (fun j hj => by rw [Below.cell hHeld.2.2.2.2.2.2.2.2.2.2.2.2.2.2.out.1 (p := ⟨b, off + j, none⟩) hb]; exact hc j hj) (Nat.lt_of_lt_of_le hb hHeld.2.2.2.2.2.2.2.2.2.2.2.2.2.2.out.1.size) ((rO.later hHeld.2.2.2.2.2.2.2.2.2.2.2.2.2.2.out.1 (Nat.le_refl _)).more hHeld.2.2.2.2.2.2.2.2.2.2.2.2.2.2.out.1.size) ((rD.later hHeld.2.2.2.2.2.2.2.2.2.2.2.2.2.2.out.1 (Nat.le_refl _)).more hHeld.2.2.2.2.2.2.2.2.2.2.2.2.2.2.out.1.size) ((rE.later hHeld.2.2.2.2.2.2.2.2.2.2.2.2.2.2.out.1 (Nat.le_refl _)).more hHeld.2.2.2.2.2.2.2.2.2.2.2.2.2.2.out.1.size) ((rL.later hHeld.2.2.2.2.2.2.2.2.2.2.2.2.2.2.out.1 (Nat.le_refl _)).more hHeld.2.2.2.2.2.2.2.2.2.2.2.2.2.2.out.1.size) ((rF.later hHeld.2.2.2.2.2.2.2.2.2.2.2.2.2.2.out.1 (Nat.le_refl _)).more hHeld.2.2.2.2.2.2.2.2.2.2.2.2.2.2.out.1.size) ((rR.later hHeld.2.2.2.2.2.2.2.2.2.2.2.2.2.2.out.1 (Nat.le_refl _)).more hHeld.2.2.2.2.2.2.2.2.2.2.2.2.2.2.out.1.size) hk hm hnF hnR hnD hnE hnL htE htL i).mono ?_
  rintro e vq7 ⟨⟨gU, cU, rfl, oU⟩, b_q7⟩
  have ⟨BB_q7, R0_q7, T0_q7⟩ := hHeld.2.2.2.2.2.2.2.2.2.2.2.2.2.2.out
  have BB2_q7 := BB_q7.trans (b_q7.mono BB_q7.size)
  have R02_q7 := R0_q7.below b_q7
  have T02_q7 := T0_q7.below b_q7
  have kvq7 : (fun w' => w'.cell? ⟨w.heap.size, 0, none⟩ = some (.int .i64 n) ∧ w'.cell? ⟨w.heap.size, 1, none⟩ = some (.int .i64 l) ∧ w'.cell? ⟨w.heap.size, 2, none⟩ = some (.int .i64 d) ∧ w'.cell? ⟨w.heap.size, 3, none⟩ = some (.int .i64 r) ∧ w'.cell? ⟨w.heap.size, 4, none⟩ = some (.int .i64 p) ∧ w'.cell? ⟨w.heap.size, 5, none⟩ = some (.int .i64 s) ∧ w'.cell? ⟨w.heap.size, 6, none⟩ = some (.slice (some ⟨b, off, none⟩) k cK) ∧ w'.cell? ⟨w.heap.size, 7, none⟩ = some (.slice aO m cO) ∧ w'.cell? ⟨w.heap.size, 8, none⟩ = some (.int .i64 t) ∧ w'.cell? ⟨w.heap.size + 1, 0, none⟩ = some (.slice aD nD cD) ∧ w'.cell? ⟨w.heap.size + 1, 1, none⟩ = some (.slice aE nE cE) ∧ w'.cell? ⟨w.heap.size + 1, 2, none⟩ = some (.slice aL nL cL) ∧ w'.cell? ⟨w.heap.size + 1, 3, none⟩ = some (.slice aF nF cF) ∧ w'.cell? ⟨w.heap.size + 1, 4, none⟩ = some (.slice aR nR cR) ∧ Hid (Below w.heap.size w w' ∧ Rm.Room w' (w.heap.size) [.int .i64 n, .int .i64 l, .int .i64 d, .int .i64 r, .int .i64 p, .int .i64 s, .slice (some ⟨b, off, none⟩) k cK, .slice aO m cO, .int .i64 t] ∧ Rm.Room w' (w.heap.size + 1) [.slice aD nD cD, .slice aE nE cE, .slice aL nL cL, .slice aF nF cF, .slice aR nR cR])) vq7 := ⟨R02_q7.cell 0 rfl, R02_q7.cell 1 rfl, R02_q7.cell 2 rfl, R02_q7.cell 3 rfl, R02_q7.cell 4 rfl, R02_q7.cell 5 rfl, R02_q7.cell 6 rfl, R02_q7.cell 7 rfl, R02_q7.cell 8 rfl, T02_q7.cell 0 rfl, T02_q7.cell 1 rfl, T02_q7.cell 2 rfl, T02_q7.cell 3 rfl, T02_q7.cell 4 rfl, ⟨BB2_q7, R02_q7, T02_q7⟩⟩
  have hU := oU.has
  clear oU
  clear BB_q7 R0_q7 T0_q7 BB2_q7 R02_q7 T02_q7
  try dsimp only
  refine hK.out _ _ kvq7 (fun hHeld' => ?_)
  clear hK K hHeld
  have hHeld := hHeld'
  clear hHeld'
  try simp only [Act.put, List.setIfInBounds_toArray, List.set_cons_zero, List.set_cons_succ]
  refine wpAnyH_ready (rs := [7]) (by kernel_rfl) (by simp) ?_
  refine AllReadyH.cons (o := { dst := some 15, op := Op.call { callee := Callee.value (Operand.func 72), args := #[Operand.tmp 11, Operand.tmp 14], argTypes := #[26, 2] }, type := 62, pos := _, after := _, guard := none }) rfl (fun K hK => ?_) AllReadyH.nil
  go_simp
  refine (Tr.i_MiddleOf gU 0 (GO n l d r p s ks k os m t ds es ls fs rs nF nR i).length cU l (GO n l d r p s ks k os m t ds es ls fs rs nF nR i) _ hU.1 hU.2.2.1 hU.2.2.2.1 hL).mono ?_
  rintro e vq8 ⟨rfl, b_q8⟩
  have ⟨BB_q8, R0_q8, T0_q8⟩ := hHeld.2.2.2.2.2.2.2.2.2.2.2.2.2.2.out
  have BB2_q8 := BB_q8.trans (b_q8.mono BB_q8.size)
  have R02_q8 := R0_q8.below b_q8
  have T02_q8 := T0_q8.below b_q8
  have kvq8 : (fun w' => w'.cell? ⟨w.heap.size, 0, none⟩ = some (.int .i64 n) ∧ w'.cell? ⟨w.heap.size, 1, none⟩ = some (.int .i64 l) ∧ w'.cell? ⟨w.heap.size, 2, none⟩ = some (.int .i64 d) ∧ w'.cell? ⟨w.heap.size, 3, none⟩ = some (.int .i64 r) ∧ w'.cell? ⟨w.heap.size, 4, none⟩ = some (.int .i64 p) ∧ w'.cell? ⟨w.heap.size, 5, none⟩ = some (.int .i64 s) ∧ w'.cell? ⟨w.heap.size, 6, none⟩ = some (.slice (some ⟨b, off, none⟩) k cK) ∧ w'.cell? ⟨w.heap.size, 7, none⟩ = some (.slice aO m cO) ∧ w'.cell? ⟨w.heap.size, 8, none⟩ = some (.int .i64 t) ∧ w'.cell? ⟨w.heap.size + 1, 0, none⟩ = some (.slice aD nD cD) ∧ w'.cell? ⟨w.heap.size + 1, 1, none⟩ = some (.slice aE nE cE) ∧ w'.cell? ⟨w.heap.size + 1, 2, none⟩ = some (.slice aL nL cL) ∧ w'.cell? ⟨w.heap.size + 1, 3, none⟩ = some (.slice aF nF cF) ∧ w'.cell? ⟨w.heap.size + 1, 4, none⟩ = some (.slice aR nR cR) ∧ Hid (Below w.heap.size w w' ∧ Rm.Room w' (w.heap.size) [.int .i64 n, .int .i64 l, .int .i64 d, .int .i64 r, .int .i64 p, .int .i64 s, .slice (some ⟨b, off, none⟩) k cK, .slice aO m cO, .int .i64 t] ∧ Rm.Room w' (w.heap.size + 1) [.slice aD nD cD, .slice aE nE cE, .slice aL nL cL, .slice aF nF cF, .slice aR nR cR])) vq8 := ⟨R02_q8.cell 0 rfl, R02_q8.cell 1 rfl, R02_q8.cell 2 rfl, R02_q8.cell 3 rfl, R02_q8.cell 4 rfl, R02_q8.cell 5 rfl, R02_q8.cell 6 rfl, R02_q8.cell 7 rfl, R02_q8.cell 8 rfl, T02_q8.cell 0 rfl, T02_q8.cell 1 rfl, T02_q8.cell 2 rfl, T02_q8.cell 3 rfl, T02_q8.cell 4 rfl, ⟨BB2_q8, R02_q8, T02_q8⟩⟩
  clear hU
  clear BB_q8 R0_q8 T0_q8 BB2_q8 R02_q8 T02_q8
  try dsimp only
  refine hK.out _ _ kvq8 (fun hHeld' => ?_)
  clear hK K hHeld
  have hHeld := hHeld'
  clear hHeld'
  try simp only [Act.put, List.setIfInBounds_toArray, List.set_cons_zero, List.set_cons_succ]
  refine wpAnyH_take (i := 8) (oi := { dst := some 16, op := Op.extract (Operand.tmp 15) 0, type := 2, pos := _, after := _, guard := none }) (v := ?vq9) rfl (by kernel_rfl) (by kernel_rfl) (by kernel_rfl) (fun _ _ _ h => h) (Or.inl ⟨by rfl, ?hyq9⟩) (by assumption) ?restq9
  case hyq9 => (intro w hSw; (try dsimp only at hSw); go_simp; first | done | with_reducible rfl)
  try simp only [Act.put, List.setIfInBounds_toArray, List.set_cons_zero, List.set_cons_succ]
  refine wpAnyH_take (i := 9) (oi := { dst := some 17, op := Op.extract (Operand.tmp 15) 1, type := 4, pos := _, after := _, guard := none }) (v := ?vq10) rfl (by kernel_rfl) (by kernel_rfl) (by kernel_rfl) (fun _ _ _ h => h) (Or.inl ⟨by rfl, ?hyq10⟩) (by assumption) ?restq10
  case hyq10 => (intro w hSw; (try dsimp only at hSw); go_simp; first | done | with_reducible rfl)
  try simp only [Act.put, List.setIfInBounds_toArray, List.set_cons_zero, List.set_cons_succ]
  refine wpAnyH_take (i := 10) (oi := { dst := some 6, op := Op.assign (Operand.tmp 16), type := 2, pos := _, after := _, guard := none }) (v := ?vq11) rfl (by kernel_rfl) (by kernel_rfl) (by kernel_rfl) (fun _ _ _ h => h) (Or.inl ⟨by rfl, ?hyq11⟩) (by assumption) ?restq11
  case hyq11 => (intro w hSw; (try dsimp only at hSw); go_simp; first | done | with_reducible rfl)
  try simp only [Act.put, List.setIfInBounds_toArray, List.set_cons_zero, List.set_cons_succ]
  refine wpAnyH_take (i := 11) (oi := { dst := some 7, op := Op.assign (Operand.tmp 17), type := 4, pos := _, after := _, guard := none }) (v := ?vq12) rfl (by kernel_rfl) (by kernel_rfl) (by kernel_rfl) (fun _ _ _ h => h) (Or.inl ⟨by rfl, ?hyq12⟩) (by assumption) ?restq12
  case hyq12 => (intro w hSw; (try dsimp only at hSw); go_simp; first | done | with_reducible rfl)
  try simp only [Act.put, List.setIfInBounds_toArray, List.set_cons_zero, List.set_cons_succ]
  refine wpAnyH_done (by kernel_rfl) ?_ _
  refine NoPanic.normal ?_
  clear BB R0 T0
  obtain ⟨BB, R0, T0⟩ := hHeld.2.2.2.2.2.2.2.2.2.2.2.2.2.2.out
  clear hHeld
  clear cR00 cR01 cR02 cR03 cR04 cR05 cR06 cR07 cR08 lR0 cT00 cT01 cT02 cT03 cT04 lT0
  go_wp2
  go_ret2
  exact ⟨rfl, BB⟩

set_option maxHeartbeats 8000000 in
set_option maxRecDepth 100000 in
theorem s_CorrectionOf (n l d r p s t : Int) (b off k cK : Nat) (aO : Option Addr) (m cO : Nat) (aD aE aL aF aR : Option Addr) (nD cD nE cE nL cL nF cF nR cR : Nat) (ks os ds : List Int) (es ls : List (List Int)) (fs rs : List Bool) (w : World) (hz : ks.length = k) (hc : ∀ j, j < k → w.cell? ⟨b, off + j, none⟩ = some (.int .i64 (el ks j))) (hb : b < w.heap.size) (rO : Row w w.heap.size aO m os) (rD : Row w w.heap.size aD nD ds) (rE : RowsAt w w.heap.size aE nE es) (rL : RowsAt w w.heap.size aL nL ls) (rF : Flags w w.heap.size aF nF fs) (rR : Flags w w.heap.size aR nR rs) (hk : k ≤ 1048576) (hm : m ≤ 1048576) (hnF : nF ≤ 1048576) (hnR : nR ≤ 1048576) (i : Int) :
    Calls Tryz.prog 34 #[wld n l d r p s (.slice (some ⟨b, off, none⟩) k cK) (.slice aO m cO) t, trn (.slice aD nD cD) (.slice aE nE cE) (.slice aL nL cL) (.slice aF nF cF) (.slice aR nR cR), .int .i64 i] w fun e w' => e = .returned (.tuple #[.int .i64 (MV (GO n l d r p s ks k os m t ds es ls fs rs nF nR i) (GO n l d r p s ks k os m t ds es ls fs rs nF nR i).length l), .bool (TT (GO n l d r p s ks k os m t ds es ls fs rs nF nR i) (GO n l d r p s ks k os m t ds es ls fs rs nF nR i).length l)]) ∧ Below w.heap.size w w' := by
  have R0 := (Room.new w (c9 n l d r p s (.slice (some ⟨b, off, none⟩) k cK) (.slice aO m cO) t) 28).alloc (.cells #[.slice aD nD cD, .slice aE nE cE, .slice aL nL cL, .slice aF nF cF, .slice aR nR cR] 32)
  have T0 : Room ((w.alloc (.cells (c9 n l d r p s (.slice (some ⟨b, off, none⟩) k cK) (.slice aO m cO) t).toArray 28)).alloc (.cells #[.slice aD nD cD, .slice aE nE cE, .slice aL nL cL, .slice aF nF cF, .slice aR nR cR] 32)) (w.heap.size + 1) [.slice aD nD cD, .slice aE nE cE, .slice aL nL cL, .slice aF nF cF, .slice aR nR cR] := Room.at _ [.slice aD nD cD, .slice aE nE cE, .slice aL nL cL, .slice aF nF cF, .slice aR nR cR] 32 _ (by simp)
  have BB := ((Below.refl w.heap.size w).alloc (Nat.le_refl _) (.cells (c9 n l d r p s (.slice (some ⟨b, off, none⟩) k cK) (.slice aO m cO) t).toArray 28)).alloc (by simp) (.cells #[.slice aD nD cD, .slice aE nE cE, .slice aL nL cL, .slice aF nF cF, .slice aR nR cR] 32)
  have hL : (GO n l d r p s ks k os m t ds es ls fs rs nF nR i).length ≤ 1048576 := Nat.le_trans (go_len n l d r p s ks k os m t ds es ls fs rs nF nR i) hk
  go_enter Tryz.func34, Tryz.ntmps34
  have cR00 := R0.cell 0 rfl
  have cR01 := R0.cell 1 rfl
  have cR02 := R0.cell 2 rfl
  have cR03 := R0.cell 3 rfl
  have cR04 := R0.cell 4 rfl
  have cR05 := R0.cell 5 rfl
  have cR06 := R0.cell 6 rfl
  have cR07 := R0.cell 7 rfl
  have cR08 := R0.cell 8 rfl
  have lR0 := R0.lt (by simp)
  have cT00 := T0.cell 0 rfl
  have cT01 := T0.cell 1 rfl
  have cT02 := T0.cell 2 rfl
  have cT03 := T0.cell 3 rfl
  have cT04 := T0.cell 4 rfl
  have lT0 := T0.lt (by simp)
  go_wp2_with fail
  refine (s_GuessesOf n l d r p s t b off k cK _ m cO _ _ _ _ _ nD cD nE cE nL cL nF cF nR cR ks os ds es ls fs rs _ hz (fun j hj => by rw [Below.cell BB (p := ⟨b, off + j, none⟩) hb]; exact hc j hj) (Nat.lt_of_lt_of_le hb BB.size) ((rO.later BB (Nat.le_refl _)).more BB.size) ((rD.later BB (Nat.le_refl _)).more BB.size) ((rE.later BB (Nat.le_refl _)).more BB.size) ((rL.later BB (Nat.le_refl _)).more BB.size) ((rF.later BB (Nat.le_refl _)).more BB.size) ((rR.later BB (Nat.le_refl _)).more BB.size) hk hm hnF hnR i).mono ?_
  rintro e w2 ⟨⟨gU, cU, rfl, oU⟩, b2⟩
  clear cR00 cR01 cR02 cR03 cR04 cR05 cR06 cR07 cR08 lR0 cT00 cT01 cT02 cT03 cT04 lT0
  have z_b2 := b2.size
  (try simp at z_b2)
  replace R0 := R0.below b2
  replace T0 := T0.below b2
  replace BB := BB.trans (b2.mono BB.size)
  have hU := oU.has
  clear oU
  have c1 := R0.cell 1 rfl
  by_cases h0 : (GO n l d r p s ks k os m t ds es ls fs rs nF nR i).length = 0
  case pos =>
    have E : Hid (MV (GO n l d r p s ks k os m t ds es ls fs rs nF nR i) (GO n l d r p s ks k os m t ds es ls fs rs nF nR i).length l = 0 ∧ TT (GO n l d r p s ks k os m t ds es ls fs rs nF nR i) (GO n l d r p s ks k os m t ds es ls fs rs nF nR i).length l = false) := by
      have h1 : TT (GO n l d r p s ks k os m t ds es ls fs rs nF nR i) (GO n l d r p s ks k os m t ds es ls fs rs nF nR i).length l = false := Tr.tt_no (by omega)
      exact ⟨Tr.mv_no h1, h1⟩
    have h2 : (((GO n l d r p s ks k os m t ds es ls fs rs nF nR i).length : Int) == 0) = true := by simp [h0]
    clear h0
    go_wp2
    go_ret2
    exact ⟨by rw [E.out.1, E.out.2]; rfl, BB⟩
  case neg =>
    have h2 : (((GO n l d r p s ks k os m t ds es ls fs rs nF nR i).length : Int) == 0) = false := by rw [beq_eq_false_iff_ne]; omega
    go_wp2_with fail
    refine (Tr.s_MiddleOf gU 0 (GO n l d r p s ks k os m t ds es ls fs rs nF nR i).length cU l (GO n l d r p s ks k os m t ds es ls fs rs nF nR i) _ hU.1 hU.2.2.1 hU.2.2.2.1 hL).mono ?_
    rintro e w3 ⟨rfl, b3⟩
    go_wp2
    go_ret2
    exact ⟨rfl, BB.trans (b3.mono BB.size)⟩

end Go.Proofs.YtnocmfhlmpgbmaaGreat.Tu
