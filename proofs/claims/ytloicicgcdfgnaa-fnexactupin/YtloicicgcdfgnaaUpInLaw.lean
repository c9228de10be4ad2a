/-
  FnExactUpIn: for every world handed in, however great, impl.UpIn answers as spec.UpIn, into its own memory, behind another call too, and leaves its argument as it was; the call returns true, and nothing that was there ahead of it is written.
-/
import Derived.Test.YtloicicgcdfgnaaRows
import Derived.WalkKit
import Derived.ProofKit
import Derived.OpenShut
import Derived.ChangeOld
import Derived.Below
import Derived.Lib.SmallJoins
import Derived.Test.YtloicicgcdfgnaaBase
import Derived.Test.YtloicicgcdfgnaaUp
import Derived.Test.YtloicicgcdfgnaaPut
import Derived.Test.YtloicicgcdfgnaaTk
namespace Go.Proofs.Ytloicicgcdfgnaa.fnExactUpIn
open Go.ChangeShapes Go.WideShapes Go.ChangeAt Go.RowKit Go.Joins
set_option linter.unusedVariables false
set_option linter.unusedSimpArgs false

theorem own : ownKnob Try.prog.godebug = none := by kernel_rfl
theorem laidOut : laidOutB Try.prog = true := by kernel_rfl


/-! The walk. -/
set_option maxHeartbeats 20000000 in
set_option maxRecDepth 100000 in
theorem walk (n l d r p s t : Int) (a : Option Addr) (k ka : Nat) (b : Option Addr) (m mb : Nat) (ks os : List Int) (w : World) (hr : Ls.Row w w.heap.size a k ks) (hs : Ls.Row w w.heap.size b m os) (lk : k ≤ maxLen) (lm : m ≤ maxLen) :
    Calls Try.prog 6 #[.agg #[.int .i64 n, .int .i64 l, .int .i64 d, .int .i64 r, .int .i64 p, .int .i64 s, .slice a k ka, .slice b m mb, .int .i64 t]] w fun e w' => e = .returned (.bool true) ∧ Below w.heap.size w w' := by
  by_cases hl : k + m ≤ 1048576
  case neg =>
    go_enter Try.func6, Try.ntmps6
    go_wp2_with fail
    refine (Wl.szWorld_no n l d r p s t a b k ka m mb _ hl lk lm).mono ?_
    rintro e w2 ⟨rfl, b2⟩
    go_wp2
    go_ret
    exact ⟨rfl, ((Below.refl _ w).alloc (Nat.le_refl _) _).trans (b2.mono (by simp))⟩
  case pos =>
    have hk : k ≤ 1048576 := by omega
    have hm : m ≤ 1048576 := by omega
    have R0 := Rm.Room.new w (Wl.c9 n l d r p s (.slice a k ka) (.slice b m mb) t) 61
    have BB := (Below.refl w.heap.size w).alloc (Nat.le_refl _) (.cells (Wl.c9 n l d r p s (.slice a k ka) (.slice b m mb) t).toArray 61)
    go_enter Try.func6, Try.ntmps6
    go_wp2_with fail
    refine (Wl.szWorld_yes n l d r p s t a b k ka m mb _ hl).mono ?_
    rintro e w2 ⟨⟨x2, rfl, hx2⟩, b2⟩
    have hx2b : decide (x2 < 0) = false := by simp; omega
    have z_b2 := b2.size
    simp at z_b2
    replace R0 := R0.below b2
    replace BB := BB.trans (b2.mono BB.size)
    have hL := Wl.smallU n l d r p s ks k os m t hk
    have cR00 := R0.cell 0 rfl
    have cR01 := R0.cell 1 rfl
    have cR02 := R0.cell 2 rfl
    have cR03 := R0.cell 3 rfl
    have cR04 := R0.cell 4 rfl
    have cR05 := R0.cell 5 rfl
    have cR06 := R0.cell 6 rfl
    have cR07 := R0.cell 7 rfl
    have cR08 := R0.cell 8 rfl
    have lR0 := R0.lt (by simp)
    go_wp2_with fail
    refine (Wl.toWorld n l d r p s t a b k ka m mb ks os _ ((hr.later BB (Nat.le_refl _)).more BB.size) ((hs.later BB (Nat.le_refl _)).more BB.size) hk hm).mono ?_
    rintro e w3 ⟨⟨g1, h1, rfl, hK1, hO1, gh1⟩, b3⟩
    clear cR00 cR01 cR02 cR03 cR04 cR05 cR06 cR07 cR08 lR0
    have z_b3 := b3.size
    (try simp at z_b3)
    replace R0 := R0.below b3
    replace BB := BB.trans (b3.mono BB.size)
    have cR00 := R0.cell 0 rfl
    have cR01 := R0.cell 1 rfl
    have cR02 := R0.cell 2 rfl
    have cR03 := R0.cell 3 rfl
    have cR04 := R0.cell 4 rfl
    have cR05 := R0.cell 5 rfl
    have cR06 := R0.cell 6 rfl
    have cR07 := R0.cell 7 rfl
    have cR08 := R0.cell 8 rfl
    have lR0 := R0.lt (by simp)
    go_wp2_with fail
    refine (Wl.s_UpIn n l d r p s t _ _ k k m m ks os _ hK1.row hO1.row hk hm).mono ?_
    rintro e w4 ⟨⟨gA, cA, rfl, oA⟩, b4⟩
    clear cR00 cR01 cR02 cR03 cR04 cR05 cR06 cR07 cR08 lR0
    have z_b4 := b4.size
    (try simp at z_b4)
    replace R0 := R0.below b4
    replace BB := BB.trans (b4.mono BB.size)
    have hA := oA.has
    have loA := hA.2.1
    have hiA := hA.2.2.1
    clear hK1 hO1 oA
    have cR00 := R0.cell 0 rfl
    have cR01 := R0.cell 1 rfl
    have cR02 := R0.cell 2 rfl
    have cR03 := R0.cell 3 rfl
    have cR04 := R0.cell 4 rfl
    have cR05 := R0.cell 5 rfl
    have cR06 := R0.cell 6 rfl
    have cR07 := R0.cell 7 rfl
    have cR08 := R0.cell 8 rfl
    have lR0 := R0.lt (by simp)
    go_wp2_with fail
    refine (Wl.toWorld n l d r p s t a b k ka m mb ks os _ ((hr.later BB (Nat.le_refl _)).more BB.size) ((hs.later BB (Nat.le_refl _)).more BB.size) hk hm).mono ?_
    rintro e w5 ⟨⟨g2, h2, rfl, hK2, hO2, gh2⟩, b5⟩
    clear cR00 cR01 cR02 cR03 cR04 cR05 cR06 cR07 cR08 lR0
    have z_b5 := b5.size
    (try simp at z_b5)
    replace R0 := R0.below b5
    replace hA := hA.later b5 hA.2.2.1
    replace BB := BB.trans (b5.mono BB.size)
    have loK := hK2.2.1
    have hiK := hK2.2.2.1
    have loO := hO2.2.1
    have hiO := hO2.2.2.1
    have cR00 := R0.cell 0 rfl
    have cR01 := R0.cell 1 rfl
    have cR02 := R0.cell 2 rfl
    have cR03 := R0.cell 3 rfl
    have cR04 := R0.cell 4 rfl
    have cR05 := R0.cell 5 rfl
    have cR06 := R0.cell 6 rfl
    have cR07 := R0.cell 7 rfl
    have cR08 := R0.cell 8 rfl
    have lR0 := R0.lt (by simp)
    go_wp2_with fail
    have bn1 := (Below.refl w5.heap.size w5).alloc (Nat.le_refl _) (.cells #[.int .i64 n, .int .i64 l, .int .i64 d, .int .i64 r, .int .i64 p, .int .i64 s, .slice (some ⟨g2, 0, none⟩) k k, .slice (some ⟨h2, 0, none⟩) m m, .int .i64 t] 31)
    have z_bn1 := bn1.size
    have RX := Rm.Room.new w5 [.int .i64 n, .int .i64 l, .int .i64 d, .int .i64 r, .int .i64 p, .int .i64 s, .slice (some ⟨g2, 0, none⟩) k k, .slice (some ⟨h2, 0, none⟩) m m, .int .i64 t] 31
    replace R0 := R0.below bn1
    replace hA := hA.later bn1 hA.2.2.1
    replace hK2 := hK2.later bn1 hK2.2.2.1
    replace hO2 := hO2.later bn1 hO2.2.2.1
    replace BB := BB.trans (bn1.mono BB.size)
    clear cR00 cR01 cR02 cR03 cR04 cR05 cR06 cR07 cR08 lR0
    refine (Wl.i_UpIn n l d r p s t _ _ k k m m ks os _ hK2.row hO2.row hk hm).mono ?_
    rintro e w6 ⟨⟨gG, cG, rfl, oG⟩, b6⟩
    have z_b6 := b6.size
    (try simp at z_b6)
    replace R0 := R0.below b6
    replace RX := RX.below b6
    replace hA := hA.later b6 hA.2.2.1
    replace hK2 := hK2.later b6 hK2.2.2.1
    replace hO2 := hO2.later b6 hO2.2.2.1
    replace BB := BB.trans (b6.mono BB.size)
    have hG := oG.has
    have loG := hG.2.1
    have hiG := hG.2.2.1
    (try simp at loG)
    clear oG
    have cR00 := R0.cell 0 rfl
    have cR01 := R0.cell 1 rfl
    have cR02 := R0.cell 2 rfl
    have cR03 := R0.cell 3 rfl
    have cR04 := R0.cell 4 rfl
    have cR05 := R0.cell 5 rfl
    have cR06 := R0.cell 6 rfl
    have cR07 := R0.cell 7 rfl
    have cR08 := R0.cell 8 rfl
    have lR0 := R0.lt (by simp)
    have cRX0 := RX.cell 0 rfl
    have cRX1 := RX.cell 1 rfl
    have cRX2 := RX.cell 2 rfl
    have cRX3 := RX.cell 3 rfl
    have cRX4 := RX.cell 4 rfl
    have cRX5 := RX.cell 5 rfl
    have cRX6 := RX.cell 6 rfl
    have cRX7 := RX.cell 7 rfl
    have cRX8 := RX.cell 8 rfl
    have lRX := RX.lt (by simp)
    go_wp2_with fail
    refine (Ls.eqInt64S _ _ (Wl.UL n l d r p s ks k os m t).length _ _ (Wl.UL n l d r p s ks k os m t) _ hG.row hA.row hL).mono ?_
    rintro e w7 ⟨rfl, b7⟩
    clear cR00 cR01 cR02 cR03 cR04 cR05 cR06 cR07 cR08 lR0 cRX0 cRX1 cRX2 cRX3 cRX4 cRX5 cRX6 cRX7 cRX8 lRX
    have z_b7 := b7.size
    (try simp at z_b7)
    replace R0 := R0.below b7
    replace RX := RX.below b7
    replace hA := hA.later b7 hA.2.2.1
    replace hK2 := hK2.later b7 hK2.2.2.1
    replace hO2 := hO2.later b7 hO2.2.2.1
    replace hG := hG.later b7 hG.2.2.1
    replace BB := BB.trans (b7.mono BB.size)
    replace hG : Ow.Has w7 (w5.heap.size + 1) gG 0 (Wl.UL n l d r p s ks k os m t).length (Wl.UL n l d r p s ks k os m t) := by simpa using hG
    have cR00 := R0.cell 0 rfl
    have cR01 := R0.cell 1 rfl
    have cR02 := R0.cell 2 rfl
    have cR03 := R0.cell 3 rfl
    have cR04 := R0.cell 4 rfl
    have cR05 := R0.cell 5 rfl
    have cR06 := R0.cell 6 rfl
    have cR07 := R0.cell 7 rfl
    have cR08 := R0.cell 8 rfl
    have lR0 := R0.lt (by simp)
    have cRX0 := RX.cell 0 rfl
    have cRX1 := RX.cell 1 rfl
    have cRX2 := RX.cell 2 rfl
    have cRX3 := RX.cell 3 rfl
    have cRX4 := RX.cell 4 rfl
    have cRX5 := RX.cell 5 rfl
    have cRX6 := RX.cell 6 rfl
    have cRX7 := RX.cell 7 rfl
    have cRX8 := RX.cell 8 rfl
    have lRX := RX.lt (by simp)
    go_wp2_with fail
    refine wp_region_noPanic ?_
    refine wp_region_held_drew (S := (fun w' => w'.cell? ⟨w.heap.size, 0, none⟩ = some (.int .i64 n) ∧ w'.cell? ⟨w.heap.size, 1, none⟩ = some (.int .i64 l) ∧ w'.cell? ⟨w.heap.size, 2, none⟩ = some (.int .i64 d) ∧ w'.cell? ⟨w.heap.size, 3, none⟩ = some (.int .i64 r) ∧ w'.cell? ⟨w.heap.size, 4, none⟩ = some (.int .i64 p) ∧ w'.cell? ⟨w.heap.size, 5, none⟩ = some (.int .i64 s) ∧ w'.cell? ⟨w.heap.size, 6, none⟩ = some (.slice a k ka) ∧ w'.cell? ⟨w.heap.size, 7, none⟩ = some (.slice b m mb) ∧ w'.cell? ⟨w.heap.size, 8, none⟩ = some (.int .i64 t) ∧ w'.cell? ⟨w5.heap.size, 0, none⟩ = some (.int .i64 n) ∧ w'.cell? ⟨w5.heap.size, 1, none⟩ = some (.int .i64 l) ∧ w'.cell? ⟨w5.heap.size, 2, none⟩ = some (.int .i64 d) ∧ w'.cell? ⟨w5.heap.size, 3, none⟩ = some (.int .i64 r) ∧ w'.cell? ⟨w5.heap.size, 4, none⟩ = some (.int .i64 p) ∧ w'.cell? ⟨w5.heap.size, 5, none⟩ = some (.int .i64 s) ∧ w'.cell? ⟨w5.heap.size, 6, none⟩ = some (.slice (some ⟨g2, 0, none⟩) k k) ∧ w'.cell? ⟨w5.heap.size, 7, none⟩ = some (.slice (some ⟨h2, 0, none⟩) m m) ∧ w'.cell? ⟨w5.heap.size, 8, none⟩ = some (.int .i64 t) ∧ Hid (Below w.heap.size w w' ∧ Rm.Room w' (w.heap.size) [.int .i64 n, .int .i64 l, .int .i64 d, .int .i64 r, .int .i64 p, .int .i64 s, .slice a k ka, .slice b m mb, .int .i64 t] ∧ Rm.Room w' (w5.heap.size) [.int .i64 n, .int .i64 l, .int .i64 d, .int .i64 r, .int .i64 p, .int .i64 s, .slice (some ⟨g2, 0, none⟩) k k, .slice (some ⟨h2, 0, none⟩) m m, .int .i64 t] ∧ Ow.Has w' w3.heap.size gA 0 (Wl.UL n l d r p s ks k os m t).length (Wl.UL n l d r p s ks k os m t) ∧ Ow.Has w' w4.heap.size g2 0 k ks ∧ Ow.Has w' w4.heap.size h2 0 m os ∧ Ow.Has w' (w5.heap.size + 1) gG 0 (Wl.UL n l d r p s ks k os m t).length (Wl.UL n l d r p s ks k os m t)))) (by kernel_rfl) ⟨R0.cell 0 rfl, R0.cell 1 rfl, R0.cell 2 rfl, R0.cell 3 rfl, R0.cell 4 rfl, R0.cell 5 rfl, R0.cell 6 rfl, R0.cell 7 rfl, R0.cell 8 rfl, RX.cell 0 rfl, RX.cell 1 rfl, RX.cell 2 rfl, RX.cell 3 rfl, RX.cell 4 rfl, RX.cell 5 rfl, RX.cell 6 rfl, RX.cell 7 rfl, RX.cell 8 rfl, ⟨BB.drew, R0.drew, RX.drew, hA.later (Below.refl _ _).drew hA.2.2.1, hK2.later (Below.refl _ _).drew hK2.2.2.1, hO2.later (Below.refl _ _).drew hO2.2.2.1, hG.later (Below.refl _ _).drew hG.2.2.1⟩⟩ (fun hHeld => ?_)
    refine Tk.W 0 (some 27) (.load 31 (.tmp 5)) 31 none ?_
    refine Tk.W 1 (some 28) (.load 61 (.tmp 1)) 61 none ?_
    refine Tk.R 2 (some 29) (.call ⟨.value (.func 36), #[.tmp 28], #[61]⟩) 31 none (fun K hK => ?_)
    go_simp
    refine (Wl.toWorld n l d r p s t a b k ka m mb ks os _ ((hr.later hHeld.2.2.2.2.2.2.2.2.2.2.2.2.2.2.2.2.2.2.out.1 (Nat.le_refl _)).more hHeld.2.2.2.2.2.2.2.2.2.2.2.2.2.2.2.2.2.2.out.1.size) ((hs.later hHeld.2.2.2.2.2.2.2.2.2.2.2.2.2.2.2.2.2.2.out.1 (Nat.le_refl _)).more hHeld.2.2.2.2.2.2.2.2.2.2.2.2.2.2.2.2.2.2.out.1.size) hk hm).mono ?_
    rintro e vq3 ⟨⟨gn, hn, rfl, kK_q3, kO_q3, _⟩, b_q3⟩
    have ⟨BB_q3, R0_q3, RX_q3, hA_q3, hK2_q3, hO2_q3, hG_q3⟩ := hHeld.2.2.2.2.2.2.2.2.2.2.2.2.2.2.2.2.2.2.out
    have BB2_q3 := BB_q3.trans (b_q3.mono BB_q3.size)
    have R02_q3 := R0_q3.below b_q3
    have RX2_q3 := RX_q3.below b_q3
    have hA2_q3 := hA_q3.later b_q3 hA_q3.2.2.1
    have hK22_q3 := hK2_q3.later b_q3 hK2_q3.2.2.1
    have hO22_q3 := hO2_q3.later b_q3 hO2_q3.2.2.1
    have hG2_q3 := hG_q3.later b_q3 hG_q3.2.2.1
    have kvq3 := Tk.kv hK (w := vq3) ⟨R02_q3.cell 0 rfl, R02_q3.cell 1 rfl, R02_q3.cell 2 rfl, R02_q3.cell 3 rfl, R02_q3.cell 4 rfl, R02_q3.cell 5 rfl, R02_q3.cell 6 rfl, R02_q3.cell 7 rfl, R02_q3.cell 8 rfl, RX2_q3.cell 0 rfl, RX2_q3.cell 1 rfl, RX2_q3.cell 2 rfl, RX2_q3.cell 3 rfl, RX2_q3.cell 4 rfl, RX2_q3.cell 5 rfl, RX2_q3.cell 6 rfl, RX2_q3.cell 7 rfl, RX2_q3.cell 8 rfl, ⟨BB2_q3, R02_q3, RX2_q3, hA2_q3, hK22_q3, hO22_q3, hG2_q3⟩⟩
    have hKn := kK_q3.row
    have hOn := kO_q3.row
    have hKx := hK22_q3.row
    have hOx := hO22_q3.row
    try dsimp only
    refine hK.out _ _ kvq3 ?_; clear hK K hHeld; intro hHeld; try simp only [Act.put, List.setIfInBounds_toArray, List.set_cons_zero, List.set_cons_succ]
    refine Tk.R 3 (some 30) (.call ⟨.value (.func 38), #[.tmp 27, .tmp 29], #[31, 31]⟩) 4 none (fun K hK => ?_)
    go_simp
    refine (Wl.eqWorld n l d r p s t _ _ _ _ k _ _ m _ _ ks os _ hKx hKn hOx hOn hk hm).mono ?_
    rintro e vq4 ⟨rfl, b_q4⟩
    have ⟨BB_q4, R0_q4, RX_q4, hA_q4, hK2_q4, hO2_q4, hG_q4⟩ := hHeld.2.2.2.2.2.2.2.2.2.2.2.2.2.2.2.2.2.2.out
    have BB2_q4 := BB_q4.trans (b_q4.mono BB_q4.size)
    have R02_q4 := R0_q4.below b_q4
    have RX2_q4 := RX_q4.below b_q4
    have hA2_q4 := hA_q4.later b_q4 hA_q4.2.2.1
    have hK22_q4 := hK2_q4.later b_q4 hK2_q4.2.2.1
    have hO22_q4 := hO2_q4.later b_q4 hO2_q4.2.2.1
    have hG2_q4 := hG_q4.later b_q4 hG_q4.2.2.1
    have kvq4 := Tk.kv hK (w := vq4) ⟨R02_q4.cell 0 rfl, R02_q4.cell 1 rfl, R02_q4.cell 2 rfl, R02_q4.cell 3 rfl, R02_q4.cell 4 rfl, R02_q4.cell 5 rfl, R02_q4.cell 6 rfl, R02_q4.cell 7 rfl, R02_q4.cell 8 rfl, RX2_q4.cell 0 rfl, RX2_q4.cell 1 rfl, RX2_q4.cell 2 rfl, RX2_q4.cell 3 rfl, RX2_q4.cell 4 rfl, RX2_q4.cell 5 rfl, RX2_q4.cell 6 rfl, RX2_q4.cell 7 rfl, RX2_q4.cell 8 rfl, ⟨BB2_q4, R02_q4, RX2_q4, hA2_q4, hK22_q4, hO22_q4, hG2_q4⟩⟩
    try dsimp only
    refine hK.out _ _ kvq4 ?_; clear hK K hHeld; intro hHeld; try simp only [Act.put, List.setIfInBounds_toArray, List.set_cons_zero, List.set_cons_succ]
    refine Tk.W 4 (some 31) (.unOp .not 4 (.tmp 30)) 4 none ?_
    refine wpAnyH_done (by kernel_rfl) ?_ _
    refine NoPanic.normal ?_
    clear BB R0 RX hA hK2 hO2 hG
    obtain ⟨BB, R0, RX, hA, hK2, hO2, hG⟩ := hHeld.2.2.2.2.2.2.2.2.2.2.2.2.2.2.2.2.2.2.out
    clear hHeld
    have hx1b : decide ((1 : Int) + (k : Int) + (m : Int) < 0) = false := by simp; omega
    clear cR00 cR01 cR02 cR03 cR04 cR05 cR06 cR07 cR08 lR0 cRX0 cRX1 cRX2 cRX3 cRX4 cRX5 cRX6 cRX7 cRX8 lRX
    have cR00 := R0.cell 0 rfl
    have cR01 := R0.cell 1 rfl
    have cR02 := R0.cell 2 rfl
    have cR03 := R0.cell 3 rfl
    have cR04 := R0.cell 4 rfl
    have cR05 := R0.cell 5 rfl
    have cR06 := R0.cell 6 rfl
    have cR07 := R0.cell 7 rfl
    have cR08 := R0.cell 8 rfl
    have lR0 := R0.lt (by simp)
    have cRX0 := RX.cell 0 rfl
    have cRX1 := RX.cell 1 rfl
    have cRX2 := RX.cell 2 rfl
    have cRX3 := RX.cell 3 rfl
    have cRX4 := RX.cell 4 rfl
    have cRX5 := RX.cell 5 rfl
    have cRX6 := RX.cell 6 rfl
    have cRX7 := RX.cell 7 rfl
    have cRX8 := RX.cell 8 rfl
    have lRX := RX.lt (by simp)
    go_wp2_with fail
    refine (Wl.markWorld n l d r p s t w4.heap.size g2 0 h2 0 k k m m ks os _ hK2 hO2 (by omega) hk hm).mono ?_
    rintro e w8 ⟨rfl, mK, mO, x8, y8, b8, e8, f8⟩
    clear cR00 cR01 cR02 cR03 cR04 cR05 cR06 cR07 cR08 lR0 cRX0 cRX1 cRX2 cRX3 cRX4 cRX5 cRX6 cRX7 cRX8 lRX
    clear hK2 hO2 mK mO RX
    have z_b8 := b8.size
    have z_e8 := e8.size
    have z_f8 := f8.size
    replace R0 := R0.below b8
    replace hA := hA.later b8 hA.2.2.1
    replace hG := hG.later b8 hG.2.2.1
    replace BB := BB.trans (b8.mono BB.size)
    replace R0 := R0.other e8 (by omega)
    replace hA := hA.kept e8 (by omega)
    replace hG := hG.kept e8 (by omega)
    replace BB := BB.grown e8 BB.size (by intro j hj; cases hj; omega)
    replace R0 := R0.other f8 (by omega)
    replace hA := hA.kept f8 (by omega)
    replace hG := hG.kept f8 (by omega)
    replace BB := BB.grown f8 BB.size (by intro j hj; cases hj; omega)
    have cR00 := R0.cell 0 rfl
    have cR01 := R0.cell 1 rfl
    have cR02 := R0.cell 2 rfl
    have cR03 := R0.cell 3 rfl
    have cR04 := R0.cell 4 rfl
    have cR05 := R0.cell 5 rfl
    have cR06 := R0.cell 6 rfl
    have cR07 := R0.cell 7 rfl
    have cR08 := R0.cell 8 rfl
    have lR0 := R0.lt (by simp)
    go_wp2_with fail
    refine (Ls.eqInt64S _ _ (Wl.UL n l d r p s ks k os m t).length _ _ (Wl.UL n l d r p s ks k os m t) _ hG.row hA.row hL).mono ?_
    rintro e w9 ⟨rfl, b9⟩
    clear cR00 cR01 cR02 cR03 cR04 cR05 cR06 cR07 cR08 lR0
    have z_b9 := b9.size
    (try simp at z_b9)
    replace R0 := R0.below b9
    replace hA := hA.later b9 hA.2.2.1
    replace hG := hG.later b9 hG.2.2.1
    replace BB := BB.trans (b9.mono BB.size)
    have cR00 := R0.cell 0 rfl
    have cR01 := R0.cell 1 rfl
    have cR02 := R0.cell 2 rfl
    have cR03 := R0.cell 3 rfl
    have cR04 := R0.cell 4 rfl
    have cR05 := R0.cell 5 rfl
    have cR06 := R0.cell 6 rfl
    have cR07 := R0.cell 7 rfl
    have cR08 := R0.cell 8 rfl
    have lR0 := R0.lt (by simp)
    go_wp2_with fail
    refine (Ow.mark 1 _ gG 0 (Wl.UL n l d r p s ks k os m t).length cG _ _ hG hL (by omega) (by omega)).mono ?_
    rintro e wa ⟨rfl, mG, ea⟩
    clear cR00 cR01 cR02 cR03 cR04 cR05 cR06 cR07 cR08 lR0
    clear hG
    have z_ea := ea.size
    replace R0 := R0.other ea (by omega)
    replace hA := hA.kept ea (by omega)
    replace BB := BB.grown ea BB.size (by intro j hj; cases hj; omega)
    have hx2c : decide ((1 : Int) + ((Wl.UL n l d r p s ks k os m t).length : Int) < 0) = false := by simp; omega
    have cR00 := R0.cell 0 rfl
    have cR01 := R0.cell 1 rfl
    have cR02 := R0.cell 2 rfl
    have cR03 := R0.cell 3 rfl
    have cR04 := R0.cell 4 rfl
    have cR05 := R0.cell 5 rfl
    have cR06 := R0.cell 6 rfl
    have cR07 := R0.cell 7 rfl
    have cR08 := R0.cell 8 rfl
    have lR0 := R0.lt (by simp)
    go_wp2_with fail
    refine (Ow.held 1 _ gG 0 (Wl.UL n l d r p s ks k os m t).length cG _ mG hL (by omega) (by omega)).mono ?_
    rintro e wa ⟨rfl, rfl⟩
    clear cR00 cR01 cR02 cR03 cR04 cR05 cR06 cR07 cR08 lR0
    have cR00 := R0.cell 0 rfl
    have cR01 := R0.cell 1 rfl
    have cR02 := R0.cell 2 rfl
    have cR03 := R0.cell 3 rfl
    have cR04 := R0.cell 4 rfl
    have cR05 := R0.cell 5 rfl
    have cR06 := R0.cell 6 rfl
    have cR07 := R0.cell 7 rfl
    have cR08 := R0.cell 8 rfl
    have lR0 := R0.lt (by simp)
    go_wp2_with fail
    refine (Wl.toWorld n l d r p s t a b k ka m mb ks os _ ((hr.later BB (Nat.le_refl _)).more BB.size) ((hs.later BB (Nat.le_refl _)).more BB.size) hk hm).mono ?_
    rintro e wb ⟨⟨g3, h3, rfl, hK3, hO3, gh3⟩, bb⟩
    clear cR00 cR01 cR02 cR03 cR04 cR05 cR06 cR07 cR08 lR0
    have z_bb := bb.size
    (try simp at z_bb)
    replace R0 := R0.below bb
    replace hA := hA.later bb hA.2.2.1
    replace mG := mG.later bb mG.2.2.1
    replace BB := BB.trans (bb.mono BB.size)
    have loK3 := hK3.2.1
    have cR00 := R0.cell 0 rfl
    have cR01 := R0.cell 1 rfl
    have cR02 := R0.cell 2 rfl
    have cR03 := R0.cell 3 rfl
    have cR04 := R0.cell 4 rfl
    have cR05 := R0.cell 5 rfl
    have cR06 := R0.cell 6 rfl
    have cR07 := R0.cell 7 rfl
    have cR08 := R0.cell 8 rfl
    have lR0 := R0.lt (by simp)
    go_wp2_with fail
    refine (Wl.i_UpIn n l d r p s t _ _ k k m m ks os _ hK3.row hO3.row hk hm).mono ?_
    rintro e wc ⟨⟨gH, cH, rfl, oH⟩, bc⟩
    clear cR00 cR01 cR02 cR03 cR04 cR05 cR06 cR07 cR08 lR0
    have z_bc := bc.size
    (try simp at z_bc)
    replace R0 := R0.below bc
    replace hA := hA.later bc hA.2.2.1
    replace mG := mG.later bc mG.2.2.1
    replace BB := BB.trans (bc.mono BB.size)
    have hH := oH.has
    clear hK3 hO3 oH
    have cR00 := R0.cell 0 rfl
    have cR01 := R0.cell 1 rfl
    have cR02 := R0.cell 2 rfl
    have cR03 := R0.cell 3 rfl
    have cR04 := R0.cell 4 rfl
    have cR05 := R0.cell 5 rfl
    have cR06 := R0.cell 6 rfl
    have cR07 := R0.cell 7 rfl
    have cR08 := R0.cell 8 rfl
    have lR0 := R0.lt (by simp)
    go_wp2_with fail
    refine (Ls.eqInt64S _ _ (Wl.UL n l d r p s ks k os m t).length _ _ (Wl.UL n l d r p s ks k os m t) _ hH.row hA.row hL).mono ?_
    rintro e wd ⟨rfl, bd⟩
    clear cR00 cR01 cR02 cR03 cR04 cR05 cR06 cR07 cR08 lR0
    have z_bd := bd.size
    (try simp at z_bd)
    replace R0 := R0.below bd
    replace hA := hA.later bd hA.2.2.1
    replace mG := mG.later bd mG.2.2.1
    replace hH := hH.later bd hH.2.2.1
    replace BB := BB.trans (bd.mono BB.size)
    have cR00 := R0.cell 0 rfl
    have cR01 := R0.cell 1 rfl
    have cR02 := R0.cell 2 rfl
    have cR03 := R0.cell 3 rfl
    have cR04 := R0.cell 4 rfl
    have cR05 := R0.cell 5 rfl
    have cR06 := R0.cell 6 rfl
    have cR07 := R0.cell 7 rfl
    have cR08 := R0.cell 8 rfl
    have lR0 := R0.lt (by simp)
    go_wp2_with fail
    refine (Ow.held 1 _ gG 0 (Wl.UL n l d r p s ks k os m t).length cG _ mG hL (by omega) (by omega)).mono ?_
    rintro e wd ⟨rfl, rfl⟩
    go_wp2
    go_ret
    exact ⟨rfl, BB⟩

/-! The row. -/
set_option maxRecDepth 100000 in
theorem lifted (os : Os) (started : os.Started) (H : Type) (enc : TypeId × Value → H) :
    ReturnsInHanded {} Try.checked os 6 .any (Rows.fnExactUpInSpec.pre6 enc Try.prog Try.f6 Rows.fnExactUpInRow.domain false) (Rows.fnExactUpInSpec.post enc Try.prog Try.f6 false true false false) := by
  refine returnsInHanded_of_change (C := Try.checked) own started (by kernel_rfl) Try.func6
    (ChangeSpec.witness6 (enc := enc) (C := Try.checked) false ⟨#[], #[.agg #[.int .i64 0, .int .i64 0, .int .i64 0, .int .i64 0, .int .i64 0, .int .i64 0, .slice none 0 0, .slice none 0 0, .int .i64 0]], []⟩ 8 (by kernel_rfl) (by kernel_rfl) (by kernel_rfl) (by kernel_rfl)) ?_
  intro W base args ds gs before hval0 hW hcnd _
  have hval : ∀ (j : Nat) t v, Try.f6.params[j]? = some t → args[j]? = some v → Value.okWide Try.prog W .any base t v := hval0
  have hW' := hW
  obtain ⟨p, q, hA0, hV, rfl, hfz, hnd⟩ := hW
  have hA : DataW.TrodAll enc Try.prog W 0 (fun _ => true) true Try.f6.params.toList args.toList ds p := hA0
  rw [Try.params6] at hA hval
  obtain ⟨v0, vs0, d0, ds0, p0, q0, hargs, rfl, rfl, h0, r0⟩ := trodAll_cons hA
  obtain ⟨rfl, rfl, rfl⟩ := trodAll_nil r0
  obtain rfl : args = #[v0] := by cases args; simp_all
  obtain ⟨rfl, rfl⟩ := trodVars_none hV
  have k0' := h0
  have lt0' : ∀ x ∈ p0, x.block < W.heap.size := by obtain ⟨m, hm⟩ := k0'; exact DataW.trod_lt m _ _ _ hm
  have rd0 := Rd.Reads.of h0
  obtain ⟨cs0, rfl, _⟩ := okWide_struct Try.underlying61 (hval 0 61 v0 rfl rfl)
  obtain ⟨n, l, d, r, p, s, t, a, k, ka, b, m, mb, ks, os, rfl, hr, hs, lk, lm⟩ := Rd.world rd0
  clear hA0 hval0
  refine (walk n l d r p s t a k ka b m mb ks os W hr hs lk lm).mono fun e W' ⟨he, bel⟩ => ?_
  subst he
  exact ⟨_, rfl, _, _, _, [], _, [], hW', trodAll_mk1 (shut_bool Try.underlying4 _), (trodAll_cons_mk (Below.trod laidOut (by kernel_rfl) (of_decide_eq_true (by kernel_rfl)) k0' bel lt0') trodAll_mk0), rfl, bel.frame _, fun h => by cases h⟩

theorem over : Rows.fnExactUpInRow.holds Try.pinned (OpenSpec.ofChange Rows.fnExactUpInSpec) :=
  OpenClaim.holds_of_wide 6 Try.f6 rfl rfl rfl rfl rfl rfl rfl ⟨rfl, rfl, rfl, rfl, rfl⟩ rfl rfl rfl rfl rfl (by kernel_rfl) Try.func6 (by kernel_rfl)
    (of_decide_eq_true (by kernel_rfl)) (by unfold Func.isWrapper; first | (rw [if_pos (by decide +kernel)]; kernel_rfl) | (rw [if_neg (by decide +kernel)]; exact ⟨rfl, rfl⟩))
    (fun os started H enc _ => lifted os started H enc)

end Go.Proofs.Ytloicicgcdfgnaa.fnExactUpIn

namespace Go.Proofs.Ytloicicgcdfgnaa
/-- The given statement. -/
theorem fnExactUpIn_holds : Rows.FnExactUpInSaid := fnExactUpIn.over
#print axioms fnExactUpIn_holds
end Go.Proofs.Ytloicicgcdfgnaa
