/-
  FnExactMiddleSkew: for every world and every turn handed in, however great, impl.MiddleSkew answers as spec.MiddleSkew and leaves its arguments as they were; the call returns true, and nothing that was there ahead of it is written.
-/
import Derived.Test.YtloicicgcdfgnaaRows
import Derived.WalkKit
import Derived.ProofKit
import Derived.OpenShut
import Derived.ChangeOld
import Derived.Below
import Derived.Lib.SmallJoins
import Derived.Test.YtloicicgcdfgnaaBase
import Derived.Test.YtloicicgcdfgnaaMs
import Derived.Test.YtloicicgcdfgnaaWt
import Derived.Test.YtloicicgcdfgnaaSps
import Derived.Test.YtloicicgcdfgnaaTk
namespace Go.Proofs.Ytloicicgcdfgnaa.fnExactMiddleSkew
open Go.ChangeShapes Go.WideShapes Go.ChangeAt Go.RowKit Go.Joins
set_option linter.unusedVariables false
set_option linter.unusedSimpArgs false

theorem own : ownKnob Try.prog.godebug = none := by kernel_rfl
theorem laidOut : laidOutB Try.prog = true := by kernel_rfl


/-! The walk. -/
set_option maxHeartbeats 20000000 in
set_option maxRecDepth 100000 in
theorem walk (n l d r p s t : Int) (a : Option Addr) (k ka : Nat) (b : Option Addr) (m mb : Nat) (ks os : List Int) (aD : Option Addr) (nD cD : Nat) (aE : Option Addr) (nE cE : Nat) (aL : Option Addr) (nL cL : Nat) (aF : Option Addr) (nF cF : Nat) (aR : Option Addr) (nR cR : Nat) (ds : List Int) (es ls : List (List Int)) (fs rs : List Bool) (w : World) (hr : Ls.Row w w.heap.size a k ks) (hs : Ls.Row w w.heap.size b m os) (lk : k ≤ maxLen) (lm : m ≤ maxLen) (rD : Ls.Row w w.heap.size aD nD ds) (rE : Ss.RowsAt w w.heap.size aE nE es) (rL : Ss.RowsAt w w.heap.size aL nL ls) (rF : Rd.Flags w w.heap.size aF nF fs) (rR : Rd.Flags w w.heap.size aR nR rs) (mD : nD ≤ maxLen) (mE : nE ≤ maxLen) (mL : nL ≤ maxLen) (mF : nF ≤ maxLen) (mR : nR ≤ maxLen) (mE2 : ∀ k, k < nE → Ss.ln es k ≤ maxLen) (mL2 : ∀ k, k < nL → Ss.ln ls k ≤ maxLen) :
    Calls Try.prog 10 #[.agg #[.int .i64 n, .int .i64 l, .int .i64 d, .int .i64 r, .int .i64 p, .int .i64 s, .slice a k ka, .slice b m mb, .int .i64 t], .agg #[.slice aD nD cD, .slice aE nE cE, .slice aL nL cL, .slice aF nF cF, .slice aR nR cR]] w fun e w' => e = .returned (.bool true) ∧ Below w.heap.size w w' := by
  by_cases hl : k + m ≤ 1048576
  case neg =>
    have R0 := (Rm.Room.new w [.int .i64 n, .int .i64 l, .int .i64 d, .int .i64 r, .int .i64 p, .int .i64 s, .slice a k ka, .slice b m mb, .int .i64 t] 61).alloc (.cells #[.slice aD nD cD, .slice aE nE cE, .slice aL nL cL, .slice aF nF cF, .slice aR nR cR] 70)
    have T0 : Rm.Room ((w.alloc (.cells #[.int .i64 n, .int .i64 l, .int .i64 d, .int .i64 r, .int .i64 p, .int .i64 s, .slice a k ka, .slice b m mb, .int .i64 t] 61)).alloc (.cells #[.slice aD nD cD, .slice aE nE cE, .slice aL nL cL, .slice aF nF cF, .slice aR nR cR] 70)) (w.heap.size + 1) [.slice aD nD cD, .slice aE nE cE, .slice aL nL cL, .slice aF nF cF, .slice aR nR cR] := Rm.Room.at _ [.slice aD nD cD, .slice aE nE cE, .slice aL nL cL, .slice aF nF cF, .slice aR nR cR] 70 _ (by simp)
    have BB := ((Below.refl w.heap.size w).alloc (Nat.le_refl _) (.cells #[.int .i64 n, .int .i64 l, .int .i64 d, .int .i64 r, .int .i64 p, .int .i64 s, .slice a k ka, .slice b m mb, .int .i64 t] 61)).alloc (by simp) (.cells #[.slice aD nD cD, .slice aE nE cE, .slice aL nL cL, .slice aF nF cF, .slice aR nR cR] 70)
    go_enter Try.func10, Try.ntmps10
    go_wp2_with fail
    refine (Wl.szWorld_no n l d r p s t a b k ka m mb _ hl lk lm).mono ?_
    rintro e w2 ⟨rfl, b2⟩
    go_wp2
    go_ret
    exact ⟨rfl, BB.trans (b2.mono BB.size)⟩
  case pos =>
    have hk : k ≤ 1048576 := by omega
    have hm : m ≤ 1048576 := by omega
    have hx2 : decide ((1048576 : Int) - (k : Int) - (m : Int) < 0) = false := by simp; omega
    have R0 := (Rm.Room.new w [.int .i64 n, .int .i64 l, .int .i64 d, .int .i64 r, .int .i64 p, .int .i64 s, .slice a k ka, .slice b m mb, .int .i64 t] 61).alloc (.cells #[.slice aD nD cD, .slice aE nE cE, .slice aL nL cL, .slice aF nF cF, .slice aR nR cR] 70)
    have T0 : Rm.Room ((w.alloc (.cells #[.int .i64 n, .int .i64 l, .int .i64 d, .int .i64 r, .int .i64 p, .int .i64 s, .slice a k ka, .slice b m mb, .int .i64 t] 61)).alloc (.cells #[.slice aD nD cD, .slice aE nE cE, .slice aL nL cL, .slice aF nF cF, .slice aR nR cR] 70)) (w.heap.size + 1) [.slice aD nD cD, .slice aE nE cE, .slice aL nL cL, .slice aF nF cF, .slice aR nR cR] := Rm.Room.at _ [.slice aD nD cD, .slice aE nE cE, .slice aL nL cL, .slice aF nF cF, .slice aR nR cR] 70 _ (by simp)
    have BB := ((Below.refl w.heap.size w).alloc (Nat.le_refl _) (.cells #[.int .i64 n, .int .i64 l, .int .i64 d, .int .i64 r, .int .i64 p, .int .i64 s, .slice a k ka, .slice b m mb, .int .i64 t] 61)).alloc (by simp) (.cells #[.slice aD nD cD, .slice aE nE cE, .slice aL nL cL, .slice aF nF cF, .slice aR nR cR] 70)
    go_enter Try.func10, Try.ntmps10
    go_wp2_with fail
    refine (Tu.szWorld_is n l d r p s t a b k ka m mb _ hl).mono ?_
    rintro e w2 ⟨rfl, b2⟩
    have z_b2 := b2.size
    (try simp at z_b2)
    replace R0 := R0.below b2
    replace T0 := T0.below b2
    replace BB := BB.trans (b2.mono BB.size)
    by_cases hz2 : ((nD + (nE + Ss.tot es nE) + (nL + Ss.tot ls nL) + nF + nR : Nat) : Int) ≤ (1048576 : Int) - (k : Int) - (m : Int)
    case neg =>
      have cT00 := T0.cell 0 rfl
      have cT01 := T0.cell 1 rfl
      have cT02 := T0.cell 2 rfl
      have cT03 := T0.cell 3 rfl
      have cT04 := T0.cell 4 rfl
      have lT0 := T0.lt (by simp)
      go_wp2_with fail
      refine (Tu.szTurn_no aD aE aL aF aR nD cD nE cE nL cL nF cF nR cR ds es ls fs rs _ _ ((rD.later BB (Nat.le_refl _)).more BB.size) ((rE.later BB (Nat.le_refl _)).more BB.size) ((rL.later BB (Nat.le_refl _)).more BB.size) ((rF.later BB (Nat.le_refl _)).more BB.size) ((rR.later BB (Nat.le_refl _)).more BB.size) (by omega) (by omega) (by omega) mD mE mL mF mR mE2 mL2).mono ?_
      rintro e w3 ⟨rfl, b3⟩
      go_wp2
      go_ret
      exact ⟨rfl, BB.trans (b3.mono BB.size)⟩
    case pos =>
      have hz : nD + (nE + Ss.tot es nE) + (nL + Ss.tot ls nL) + nF + nR ≤ 1048576 := by omega
      have cT00 := T0.cell 0 rfl
      have cT01 := T0.cell 1 rfl
      have cT02 := T0.cell 2 rfl
      have cT03 := T0.cell 3 rfl
      have cT04 := T0.cell 4 rfl
      have lT0 := T0.lt (by simp)
      go_wp2_with fail
      refine (Tu.szTurn_yes aD aE aL aF aR nD cD nE cE nL cL nF cF nR cR ds es ls fs rs _ _ ((rD.later BB (Nat.le_refl _)).more BB.size) ((rE.later BB (Nat.le_refl _)).more BB.size) ((rL.later BB (Nat.le_refl _)).more BB.size) ((rF.later BB (Nat.le_refl _)).more BB.size) ((rR.later BB (Nat.le_refl _)).more BB.size) hz2 (by omega)).mono ?_
      rintro e w3 ⟨⟨x3, rfl, hx3⟩, b3⟩
      clear cT00 cT01 cT02 cT03 cT04 lT0
      have z_b3 := b3.size
      (try simp at z_b3)
      replace R0 := R0.below b3
      replace T0 := T0.below b3
      replace BB := BB.trans (b3.mono BB.size)
      have hx3b : decide (x3 < 0) = false := by simp; omega
      have hnE : nE ≤ 1048576 := by omega
      have htE : Ss.tot es nE ≤ 1048576 := by omega
      have hnL : nL ≤ 1048576 := by omega
      have htL : Ss.tot ls nL ≤ 1048576 := by omega
      have hnD : nD ≤ 1048576 := by omega
      have hnF : nF ≤ 1048576 := by omega
      have hnR : nR ≤ 1048576 := by omega
      clear hz2 hx3
      have cR00 := R0.cell 0 rfl
      have cR01 := R0.cell 1 rfl
      have cR02 := R0.cell 2 rfl
      have cR03 := R0.cell 3 rfl
      have cR04 := R0.cell 4 rfl
      have cR05 := R0.cell 5 rfl
      have cR06 := R0.cell 6 rfl
      have cR07 := R0.cell 7 rfl
      have cR08 := R0.cell 8 rfl
      have lR0 := R0.lt (by simp)
      have cT00 := T0.cell 0 rfl
      have cT01 := T0.cell 1 rfl
      have cT02 := T0.cell 2 rfl
      have cT03 := T0.cell 3 rfl
      have cT04 := T0.cell 4 rfl
      have lT0 := T0.lt (by simp)
      go_wp2_with fail
      refine wp_region_noPanic ?_
      refine wp_region_held_drew (S := (fun w' => w'.cell? ⟨w.heap.size, 0, none⟩ = some (.int .i64 n) ∧ w'.cell? ⟨w.heap.size, 1, none⟩ = some (.int .i64 l) ∧ w'.cell? ⟨w.heap.size, 2, none⟩ = some (.int .i64 d) ∧ w'.cell? ⟨w.heap.size, 3, none⟩ = some (.int .i64 r) ∧ w'.cell? ⟨w.heap.size, 4, none⟩ = some (.int .i64 p) ∧ w'.cell? ⟨w.heap.size, 5, none⟩ = some (.int .i64 s) ∧ w'.cell? ⟨w.heap.size, 6, none⟩ = some (.slice a k ka) ∧ w'.cell? ⟨w.heap.size, 7, none⟩ = some (.slice b m mb) ∧ w'.cell? ⟨w.heap.size, 8, none⟩ = some (.int .i64 t) ∧ w'.cell? ⟨w.heap.size + 1, 0, none⟩ = some (.slice aD nD cD) ∧ w'.cell? ⟨w.heap.size + 1, 1, none⟩ = some (.slice aE nE cE) ∧ w'.cell? ⟨w.heap.size + 1, 2, none⟩ = some (.slice aL nL cL) ∧ w'.cell? ⟨w.heap.size + 1, 3, none⟩ = some (.slice aF nF cF) ∧ w'.cell? ⟨w.heap.size + 1, 4, none⟩ = some (.slice aR nR cR) ∧ Hid (Below w.heap.size w w' ∧ Rm.Room w' (w.heap.size) [.int .i64 n, .int .i64 l, .int .i64 d, .int .i64 r, .int .i64 p, .int .i64 s, .slice a k ka, .slice b m mb, .int .i64 t] ∧ Rm.Room w' (w.heap.size + 1) [.slice aD nD cD, .slice aE nE cE, .slice aL nL cL, .slice aF nF cF, .slice aR nR cR]))) (by kernel_rfl) ⟨R0.cell 0 rfl, R0.cell 1 rfl, R0.cell 2 rfl, R0.cell 3 rfl, R0.cell 4 rfl, R0.cell 5 rfl, R0.cell 6 rfl, R0.cell 7 rfl, R0.cell 8 rfl, T0.cell 0 rfl, T0.cell 1 rfl, T0.cell 2 rfl, T0.cell 3 rfl, T0.cell 4 rfl, ⟨BB.drew, R0.drew, T0.drew⟩⟩ (fun hHeld => ?_)
      refine Tk.W 0 (some 20) (.load 61 (.tmp 2)) 61 none ?_
      refine Tk.W 2 (some 22) (.load 70 (.tmp 3)) 70 none ?_
      refine Tk.R 1 (some 21) (.call ⟨.value (.func 36), #[.tmp 20], #[61]⟩) 31 none (fun K hK => ?_)
      go_simp
      refine (Wl.toWorld n l d r p s t a b k ka m mb ks os _ ((hr.later hHeld.2.2.2.2.2.2.2.2.2.2.2.2.2.2.out.1 (Nat.le_refl _)).more hHeld.2.2.2.2.2.2.2.2.2.2.2.2.2.2.out.1.size) ((hs.later hHeld.2.2.2.2.2.2.2.2.2.2.2.2.2.2.out.1 (Nat.le_refl _)).more hHeld.2.2.2.2.2.2.2.2.2.2.2.2.2.2.out.1.size) hk hm).mono ?_
      rintro e vq3 ⟨⟨gk, go, rfl, kK, kO, _⟩, b_q3⟩
      have ⟨BB_q3, R0_q3, T0_q3⟩ := hHeld.2.2.2.2.2.2.2.2.2.2.2.2.2.2.out
      have BB2_q3 := BB_q3.trans (b_q3.mono BB_q3.size)
      have R02_q3 := R0_q3.below b_q3
      have T02_q3 := T0_q3.below b_q3
      have kvq3 := Tk.kv hK (w := vq3) ⟨R02_q3.cell 0 rfl, R02_q3.cell 1 rfl, R02_q3.cell 2 rfl, R02_q3.cell 3 rfl, R02_q3.cell 4 rfl, R02_q3.cell 5 rfl, R02_q3.cell 6 rfl, R02_q3.cell 7 rfl, R02_q3.cell 8 rfl, T02_q3.cell 0 rfl, T02_q3.cell 1 rfl, T02_q3.cell 2 rfl, T02_q3.cell 3 rfl, T02_q3.cell 4 rfl, ⟨BB2_q3, R02_q3, T02_q3⟩⟩
      clear BB_q3 R0_q3 T0_q3 BB2_q3 R02_q3 T02_q3
      try dsimp only
      refine hK.out _ _ kvq3 ?_; clear hK K hHeld; intro hHeld; try simp only [Act.put, List.setIfInBounds_toArray, List.set_cons_zero, List.set_cons_succ]
      refine Tk.R 3 (some 23) (.call ⟨.value (.func 49), #[.tmp 22], #[70]⟩) 37 none (fun K hK => ?_)
      go_simp
      refine (Tu.toTurn aD aE aL aF aR nD cD nE cE nL cL nF cF nR cR ds es ls fs rs _ ((rD.later hHeld.2.2.2.2.2.2.2.2.2.2.2.2.2.2.out.1 (Nat.le_refl _)).more hHeld.2.2.2.2.2.2.2.2.2.2.2.2.2.2.out.1.size) ((rE.later hHeld.2.2.2.2.2.2.2.2.2.2.2.2.2.2.out.1 (Nat.le_refl _)).more hHeld.2.2.2.2.2.2.2.2.2.2.2.2.2.2.out.1.size) ((rL.later hHeld.2.2.2.2.2.2.2.2.2.2.2.2.2.2.out.1 (Nat.le_refl _)).more hHeld.2.2.2.2.2.2.2.2.2.2.2.2.2.2.out.1.size) ((rF.later hHeld.2.2.2.2.2.2.2.2.2.2.2.2.2.2.out.1 (Nat.le_refl _)).more hHeld.2.2.2.2.2.2.2.2.2.2.2.2.2.2.out.1.size) ((rR.later hHeld.2.2.2.2.2.2.2.2.2.2.2.2.2.2.out.1 (Nat.le_refl _)).more hHeld.2.2.2.2.2.2.2.2.2.2.2.2.2.2.out.1.size) hz).mono ?_
      rintro e vq4 ⟨⟨g0, g1, g2, g3, g4, rfl, hT⟩, b_q4⟩
      have ⟨BB_q4, R0_q4, T0_q4⟩ := hHeld.2.2.2.2.2.2.2.2.2.2.2.2.2.2.out
      have BB2_q4 := BB_q4.trans (b_q4.mono BB_q4.size)
      have R02_q4 := R0_q4.below b_q4
      have T02_q4 := T0_q4.below b_q4
      have kvq4 := Tk.kv hK (w := vq4) ⟨R02_q4.cell 0 rfl, R02_q4.cell 1 rfl, R02_q4.cell 2 rfl, R02_q4.cell 3 rfl, R02_q4.cell 4 rfl, R02_q4.cell 5 rfl, R02_q4.cell 6 rfl, R02_q4.cell 7 rfl, R02_q4.cell 8 rfl, T02_q4.cell 0 rfl, T02_q4.cell 1 rfl, T02_q4.cell 2 rfl, T02_q4.cell 3 rfl, T02_q4.cell 4 rfl, ⟨BB2_q4, R02_q4, T02_q4⟩⟩
      replace kK := kK.later b_q4 kK.2.2.1
      replace kO := kO.later b_q4 kO.2.2.1
      have hTa := hT.all
      clear BB_q4 R0_q4 T0_q4 BB2_q4 R02_q4 T02_q4
      try dsimp only
      refine hK.out _ _ kvq4 ?_; clear hK K hHeld; intro hHeld; try simp only [Act.put, List.setIfInBounds_toArray, List.set_cons_zero, List.set_cons_succ]
      refine Tk.R 4 (some 24) (.call ⟨.value (.func 48), #[.tmp 21, .tmp 23], #[31, 37]⟩) 2 none (fun K hK => ?_)
      go_simp
      refine (Tu.s_MiddleSkew n l d r p s t _ 0 k k _ m m _ _ _ _ _ nD nD nE nE nL nL nF nF nR nR ks os ds es ls fs rs _ kK.1 kK.2.2.2.1 kK.2.2.1 kO.row hTa.1 hTa.2.1 hTa.2.2.1 hTa.2.2.2.1 hTa.2.2.2.2 hk hm hnF hnR).mono ?_
      rintro e w4 ⟨rfl, b_q5⟩
      have ⟨BB_q5, R0_q5, T0_q5⟩ := hHeld.2.2.2.2.2.2.2.2.2.2.2.2.2.2.out
      have BB2_q5 := BB_q5.trans (b_q5.mono BB_q5.size)
      have R02_q5 := R0_q5.below b_q5
      have T02_q5 := T0_q5.below b_q5
      have kvq5 := Tk.kv hK (w := w4) ⟨R02_q5.cell 0 rfl, R02_q5.cell 1 rfl, R02_q5.cell 2 rfl, R02_q5.cell 3 rfl, R02_q5.cell 4 rfl, R02_q5.cell 5 rfl, R02_q5.cell 6 rfl, R02_q5.cell 7 rfl, R02_q5.cell 8 rfl, T02_q5.cell 0 rfl, T02_q5.cell 1 rfl, T02_q5.cell 2 rfl, T02_q5.cell 3 rfl, T02_q5.cell 4 rfl, ⟨BB2_q5, R02_q5, T02_q5⟩⟩
      clear BB_q5 R0_q5 T0_q5 BB2_q5 R02_q5 T02_q5
      try dsimp only
      refine hK.out _ _ kvq5 ?_; clear hK K hHeld; intro hHeld; try simp only [Act.put, List.setIfInBounds_toArray, List.set_cons_zero, List.set_cons_succ]
      refine Tk.W 5 (some 6) (.assign (.tmp 24)) 2 none ?_
      refine wpAnyH_done (by kernel_rfl) ?_ _
      refine NoPanic.normal ?_
      clear BB R0 T0
      obtain ⟨BB, R0, T0⟩ := hHeld.2.2.2.2.2.2.2.2.2.2.2.2.2.2.out
      clear hHeld
      clear cR00 cR01 cR02 cR03 cR04 cR05 cR06 cR07 cR08 lR0 cT00 cT01 cT02 cT03 cT04 lT0
      have cR00 := R0.cell 0 rfl
      have cR01 := R0.cell 1 rfl
      have cR02 := R0.cell 2 rfl
      have cR03 := R0.cell 3 rfl
      have cR04 := R0.cell 4 rfl
      have cR05 := R0.cell 5 rfl
      have cR06 := R0.cell 6 rfl
      have cR07 := R0.cell 7 rfl
      have cR08 := R0.cell 8 rfl
      have lR0 := R0.lt (by simp)
      go_wp2_with fail
      refine (Wl.toWorld n l d r p s t a b k ka m mb ks os _ ((hr.later BB (Nat.le_refl _)).more BB.size) ((hs.later BB (Nat.le_refl _)).more BB.size) hk hm).mono ?_
      rintro e w5 ⟨⟨gX, hX, rfl, kX, oX, ghX⟩, b5⟩
      clear cR00 cR01 cR02 cR03 cR04 cR05 cR06 cR07 cR08 lR0
      have z_b5 := b5.size
      (try simp at z_b5)
      replace R0 := R0.below b5
      replace T0 := T0.below b5
      replace BB := BB.trans (b5.mono BB.size)
      have loK := kX.2.1
      have hiK := kX.2.2.1
      have loO := oX.2.1
      have hiO := oX.2.2.1
      have cR00 := R0.cell 0 rfl
      have cR01 := R0.cell 1 rfl
      have cR02 := R0.cell 2 rfl
      have cR03 := R0.cell 3 rfl
      have cR04 := R0.cell 4 rfl
      have cR05 := R0.cell 5 rfl
      have cR06 := R0.cell 6 rfl
      have cR07 := R0.cell 7 rfl
      have cR08 := R0.cell 8 rfl
      have lR0 := R0.lt (by simp)
      have cT00 := T0.cell 0 rfl
      have cT01 := T0.cell 1 rfl
      have cT02 := T0.cell 2 rfl
      have cT03 := T0.cell 3 rfl
      have cT04 := T0.cell 4 rfl
      have lT0 := T0.lt (by simp)
      go_wp2_with fail
      have bn1 := (Below.refl w5.heap.size w5).alloc (Nat.le_refl _) (.cells #[.int .i64 n, .int .i64 l, .int .i64 d, .int .i64 r, .int .i64 p, .int .i64 s, .slice (some ⟨gX, 0, none⟩) k k, .slice (some ⟨hX, 0, none⟩) m m, .int .i64 t] 31)
      have z_bn1 := bn1.size
      have RX := Rm.Room.new w5 [.int .i64 n, .int .i64 l, .int .i64 d, .int .i64 r, .int .i64 p, .int .i64 s, .slice (some ⟨gX, 0, none⟩) k k, .slice (some ⟨hX, 0, none⟩) m m, .int .i64 t] 31
      replace R0 := R0.below bn1
      replace T0 := T0.below bn1
      replace kX := kX.later bn1 kX.2.2.1
      replace oX := oX.later bn1 oX.2.2.1
      replace BB := BB.trans (bn1.mono BB.size)
      clear cR00 cR01 cR02 cR03 cR04 cR05 cR06 cR07 cR08 lR0 cT00 cT01 cT02 cT03 cT04 lT0
      refine (Tu.toTurn aD aE aL aF aR nD cD nE cE nL cL nF cF nR cR ds es ls fs rs _ ((rD.later BB (Nat.le_refl _)).more BB.size) ((rE.later BB (Nat.le_refl _)).more BB.size) ((rL.later BB (Nat.le_refl _)).more BB.size) ((rF.later BB (Nat.le_refl _)).more BB.size) ((rR.later BB (Nat.le_refl _)).more BB.size) hz).mono ?_
      rintro e w6 ⟨⟨y0, y1, y2, y3, y4, rfl, hY⟩, b6⟩
      have z_b6 := b6.size
      (try simp at z_b6)
      replace R0 := R0.below b6
      replace T0 := T0.below b6
      replace RX := RX.below b6
      replace kX := kX.later b6 kX.2.2.1
      replace oX := oX.later b6 oX.2.2.1
      replace BB := BB.trans (b6.mono BB.size)
      replace hY : Tu.HasT w6 (w5.heap.size + 1) w6.heap.size y0 y1 y2 y3 y4 nD nE nL nF nR ds es ls fs rs := by simpa using hY
      have cR00 := R0.cell 0 rfl
      have cR01 := R0.cell 1 rfl
      have cR02 := R0.cell 2 rfl
      have cR03 := R0.cell 3 rfl
      have cR04 := R0.cell 4 rfl
      have cR05 := R0.cell 5 rfl
      have cR06 := R0.cell 6 rfl
      have cR07 := R0.cell 7 rfl
      have cR08 := R0.cell 8 rfl
      have lR0 := R0.lt (by simp)
      have cT00 := T0.cell 0 rfl
      have cT01 := T0.cell 1 rfl
      have cT02 := T0.cell 2 rfl
      have cT03 := T0.cell 3 rfl
      have cT04 := T0.cell 4 rfl
      have lT0 := T0.lt (by simp)
      have cRX0 := RX.cell 0 rfl
      have cRX1 := RX.cell 1 rfl
      have cRX2 := RX.cell 2 rfl
      have cRX3 := RX.cell 3 rfl
      have cRX4 := RX.cell 4 rfl
      have cRX5 := RX.cell 5 rfl
      have cRX6 := RX.cell 6 rfl
      have cRX7 := RX.cell 7 rfl
      have cRX8 := RX.cell 8 rfl
      have lRX := RX.lt (by simp)
      go_wp2_with fail
      have bn2 := (Below.refl w6.heap.size w6).alloc (Nat.le_refl _) (.cells #[.slice (some ⟨y0, 0, none⟩) nD nD, .slice (some ⟨y1, 0, none⟩) nE nE, .slice (some ⟨y2, 0, none⟩) nL nL, .slice (some ⟨y3, 0, none⟩) nF nF, .slice (some ⟨y4, 0, none⟩) nR nR] 37)
      have z_bn2 := bn2.size
      have TX := Rm.Room.new w6 [.slice (some ⟨y0, 0, none⟩) nD nD, .slice (some ⟨y1, 0, none⟩) nE nE, .slice (some ⟨y2, 0, none⟩) nL nL, .slice (some ⟨y3, 0, none⟩) nF nF, .slice (some ⟨y4, 0, none⟩) nR nR] 37
      replace R0 := R0.below bn2
      replace T0 := T0.below bn2
      replace RX := RX.below bn2
      replace kX := kX.later bn2 kX.2.2.1
      replace oX := oX.later bn2 oX.2.2.1
      replace hY := hY.later bn2
      replace BB := BB.trans (bn2.mono BB.size)
      clear cR00 cR01 cR02 cR03 cR04 cR05 cR06 cR07 cR08 lR0 cT00 cT01 cT02 cT03 cT04 lT0 cRX0 cRX1 cRX2 cRX3 cRX4 cRX5 cRX6 cRX7 cRX8 lRX
      have hYa := hY.all
      refine (Tu.i_MiddleSkew n l d r p s t _ 0 k k _ m m _ _ _ _ _ nD nD nE nE nL nL nF nF nR nR ks os ds es ls fs rs _ kX.1 kX.2.2.2.1 kX.2.2.1 oX.row hYa.1 hYa.2.1 hYa.2.2.1 hYa.2.2.2.1 hYa.2.2.2.2 hk hm hnF hnR hnD hnE hnL htE htL).mono ?_
      rintro e w8 ⟨rfl, b8⟩
      replace R0 := R0.below b8
      replace T0 := T0.below b8
      replace RX := RX.below b8
      replace TX := TX.below b8
      replace kX := kX.later b8 kX.2.2.1
      replace oX := oX.later b8 oX.2.2.1
      replace hY := hY.later b8
      replace BB := BB.trans (b8.mono BB.size)
      clear hYa
      have cR00 := R0.cell 0 rfl
      have cR01 := R0.cell 1 rfl
      have cR02 := R0.cell 2 rfl
      have cR03 := R0.cell 3 rfl
      have cR04 := R0.cell 4 rfl
      have cR05 := R0.cell 5 rfl
      have cR06 := R0.cell 6 rfl
      have cR07 := R0.cell 7 rfl
      have cR08 := R0.cell 8 rfl
      have lR0 := R0.lt (by simp)
      have cT00 := T0.cell 0 rfl
      have cT01 := T0.cell 1 rfl
      have cT02 := T0.cell 2 rfl
      have cT03 := T0.cell 3 rfl
      have cT04 := T0.cell 4 rfl
      have lT0 := T0.lt (by simp)
      have cRX0 := RX.cell 0 rfl
      have cRX1 := RX.cell 1 rfl
      have cRX2 := RX.cell 2 rfl
      have cRX3 := RX.cell 3 rfl
      have cRX4 := RX.cell 4 rfl
      have cRX5 := RX.cell 5 rfl
      have cRX6 := RX.cell 6 rfl
      have cRX7 := RX.cell 7 rfl
      have cRX8 := RX.cell 8 rfl
      have lRX := RX.lt (by simp)
      have cTX0 := TX.cell 0 rfl
      have cTX1 := TX.cell 1 rfl
      have cTX2 := TX.cell 2 rfl
      have cTX3 := TX.cell 3 rfl
      have cTX4 := TX.cell 4 rfl
      have lTX := TX.lt (by simp)
      go_wp2_with fail
      refine wp_region_noPanic ?_
      refine wp_region_held_drew (S := (fun w' => w'.cell? ⟨w.heap.size, 0, none⟩ = some (.int .i64 n) ∧ w'.cell? ⟨w.heap.size, 1, none⟩ = some (.int .i64 l) ∧ w'.cell? ⟨w.heap.size, 2, none⟩ = some (.int .i64 d) ∧ w'.cell? ⟨w.heap.size, 3, none⟩ = some (.int .i64 r) ∧ w'.cell? ⟨w.heap.size, 4, none⟩ = some (.int .i64 p) ∧ w'.cell? ⟨w.heap.size, 5, none⟩ = some (.int .i64 s) ∧ w'.cell? ⟨w.heap.size, 6, none⟩ = some (.slice a k ka) ∧ w'.cell? ⟨w.heap.size, 7, none⟩ = some (.slice b m mb) ∧ w'.cell? ⟨w.heap.size, 8, none⟩ = some (.int .i64 t) ∧ w'.cell? ⟨w.heap.size + 1, 0, none⟩ = some (.slice aD nD cD) ∧ w'.cell? ⟨w.heap.size + 1, 1, none⟩ = some (.slice aE nE cE) ∧ w'.cell? ⟨w.heap.size + 1, 2, none⟩ = some (.slice aL nL cL) ∧ w'.cell? ⟨w.heap.size + 1, 3, none⟩ = some (.slice aF nF cF) ∧ w'.cell? ⟨w.heap.size + 1, 4, none⟩ = some (.slice aR nR cR) ∧ w'.cell? ⟨w5.heap.size, 0, none⟩ = some (.int .i64 n) ∧ w'.cell? ⟨w5.heap.size, 1, none⟩ = some (.int .i64 l) ∧ w'.cell? ⟨w5.heap.size, 2, none⟩ = some (.int .i64 d) ∧ w'.cell? ⟨w5.heap.size, 3, none⟩ = some (.int .i64 r) ∧ w'.cell? ⟨w5.heap.size, 4, none⟩ = some (.int .i64 p) ∧ w'.cell? ⟨w5.heap.size, 5, none⟩ = some (.int .i64 s) ∧ w'.cell? ⟨w5.heap.size, 6, none⟩ = some (.slice (some ⟨gX, 0, none⟩) k k) ∧ w'.cell? ⟨w5.heap.size, 7, none⟩ = some (.slice (some ⟨hX, 0, none⟩) m m) ∧ w'.cell? ⟨w5.heap.size, 8, none⟩ = some (.int .i64 t) ∧ w'.cell? ⟨w6.heap.size, 0, none⟩ = some (.slice (some ⟨y0, 0, none⟩) nD nD) ∧ w'.cell? ⟨w6.heap.size, 1, none⟩ = some (.slice (some ⟨y1, 0, none⟩) nE nE) ∧ w'.cell? ⟨w6.heap.size, 2, none⟩ = some (.slice (some ⟨y2, 0, none⟩) nL nL) ∧ w'.cell? ⟨w6.heap.size, 3, none⟩ = some (.slice (some ⟨y3, 0, none⟩) nF nF) ∧ w'.cell? ⟨w6.heap.size, 4, none⟩ = some (.slice (some ⟨y4, 0, none⟩) nR nR) ∧ Hid (Below w.heap.size w w' ∧ Rm.Room w' (w.heap.size) [.int .i64 n, .int .i64 l, .int .i64 d, .int .i64 r, .int .i64 p, .int .i64 s, .slice a k ka, .slice b m mb, .int .i64 t] ∧ Rm.Room w' (w.heap.size + 1) [.slice aD nD cD, .slice aE nE cE, .slice aL nL cL, .slice aF nF cF, .slice aR nR cR] ∧ Rm.Room w' (w5.heap.size) [.int .i64 n, .int .i64 l, .int .i64 d, .int .i64 r, .int .i64 p, .int .i64 s, .slice (some ⟨gX, 0, none⟩) k k, .slice (some ⟨hX, 0, none⟩) m m, .int .i64 t] ∧ Rm.Room w' (w6.heap.size) [.slice (some ⟨y0, 0, none⟩) nD nD, .slice (some ⟨y1, 0, none⟩) nE nE, .slice (some ⟨y2, 0, none⟩) nL nL, .slice (some ⟨y3, 0, none⟩) nF nF, .slice (some ⟨y4, 0, none⟩) nR nR] ∧ Ow.Has w' w4.heap.size gX 0 k ks ∧ Ow.Has w' w4.heap.size hX 0 m os ∧ Tu.HasT w' (w5.heap.size + 1) w6.heap.size y0 y1 y2 y3 y4 nD nE nL nF nR ds es ls fs rs))) (by kernel_rfl) ⟨R0.cell 0 rfl, R0.cell 1 rfl, R0.cell 2 rfl, R0.cell 3 rfl, R0.cell 4 rfl, R0.cell 5 rfl, R0.cell 6 rfl, R0.cell 7 rfl, R0.cell 8 rfl, T0.cell 0 rfl, T0.cell 1 rfl, T0.cell 2 rfl, T0.cell 3 rfl, T0.cell 4 rfl, RX.cell 0 rfl, RX.cell 1 rfl, RX.cell 2 rfl, RX.cell 3 rfl, RX.cell 4 rfl, RX.cell 5 rfl, RX.cell 6 rfl, RX.cell 7 rfl, RX.cell 8 rfl, TX.cell 0 rfl, TX.cell 1 rfl, TX.cell 2 rfl, TX.cell 3 rfl, TX.cell 4 rfl, ⟨BB.drew, R0.drew, T0.drew, RX.drew, TX.drew, kX.later (Below.refl _ _).drew kX.2.2.1, oX.later (Below.refl _ _).drew oX.2.2.1, hY.later (Below.refl _ _).drew⟩⟩ (fun hHeld => ?_)
      refine Tk.W 0 (some 35) (.load 31 (.tmp 7)) 31 none ?_
      refine Tk.W 1 (some 36) (.load 61 (.tmp 2)) 61 none ?_
      refine Tk.R 2 (some 37) (.call ⟨.value (.func 36), #[.tmp 36], #[61]⟩) 31 none (fun K hK => ?_)
      go_simp
      refine (Wl.toWorld n l d r p s t a b k ka m mb ks os _ ((hr.later hHeld.2.2.2.2.2.2.2.2.2.2.2.2.2.2.2.2.2.2.2.2.2.2.2.2.2.2.2.2.out.1 (Nat.le_refl _)).more hHeld.2.2.2.2.2.2.2.2.2.2.2.2.2.2.2.2.2.2.2.2.2.2.2.2.2.2.2.2.out.1.size) ((hs.later hHeld.2.2.2.2.2.2.2.2.2.2.2.2.2.2.2.2.2.2.2.2.2.2.2.2.2.2.2.2.out.1 (Nat.le_refl _)).more hHeld.2.2.2.2.2.2.2.2.2.2.2.2.2.2.2.2.2.2.2.2.2.2.2.2.2.2.2.2.out.1.size) hk hm).mono ?_
      rintro e vu3 ⟨⟨gn, hn, rfl, kN, oN, _⟩, b_u3⟩
      have ⟨BB_u3, R0_u3, T0_u3, RX_u3, TX_u3, kX_u3, oX_u3, hY_u3⟩ := hHeld.2.2.2.2.2.2.2.2.2.2.2.2.2.2.2.2.2.2.2.2.2.2.2.2.2.2.2.2.out
      have BB2_u3 := BB_u3.trans (b_u3.mono BB_u3.size)
      have R02_u3 := R0_u3.below b_u3
      have T02_u3 := T0_u3.below b_u3
      have RX2_u3 := RX_u3.below b_u3
      have TX2_u3 := TX_u3.below b_u3
      have kX2_u3 := kX_u3.later b_u3 kX_u3.2.2.1
      have oX2_u3 := oX_u3.later b_u3 oX_u3.2.2.1
      have hY2_u3 := hY_u3.later b_u3
      have kvu3 := Tk.kv hK (w := vu3) ⟨R02_u3.cell 0 rfl, R02_u3.cell 1 rfl, R02_u3.cell 2 rfl, R02_u3.cell 3 rfl, R02_u3.cell 4 rfl, R02_u3.cell 5 rfl, R02_u3.cell 6 rfl, R02_u3.cell 7 rfl, R02_u3.cell 8 rfl, T02_u3.cell 0 rfl, T02_u3.cell 1 rfl, T02_u3.cell 2 rfl, T02_u3.cell 3 rfl, T02_u3.cell 4 rfl, RX2_u3.cell 0 rfl, RX2_u3.cell 1 rfl, RX2_u3.cell 2 rfl, RX2_u3.cell 3 rfl, RX2_u3.cell 4 rfl, RX2_u3.cell 5 rfl, RX2_u3.cell 6 rfl, RX2_u3.cell 7 rfl, RX2_u3.cell 8 rfl, TX2_u3.cell 0 rfl, TX2_u3.cell 1 rfl, TX2_u3.cell 2 rfl, TX2_u3.cell 3 rfl, TX2_u3.cell 4 rfl, ⟨BB2_u3, R02_u3, T02_u3, RX2_u3, TX2_u3, kX2_u3, oX2_u3, hY2_u3⟩⟩
      have kNr := kN.row
      have oNr := oN.row
      have kXr := kX2_u3.row
      have oXr := oX2_u3.row
      clear BB_u3 R0_u3 T0_u3 RX_u3 TX_u3 kX_u3 oX_u3 hY_u3 BB2_u3 R02_u3 T02_u3 RX2_u3 TX2_u3 kX2_u3 oX2_u3 hY2_u3
      try dsimp only
      refine hK.out _ _ kvu3 ?_; clear hK K hHeld; intro hHeld; try simp only [Act.put, List.setIfInBounds_toArray, List.set_cons_zero, List.set_cons_succ]
      refine Tk.R 3 (some 38) (.call ⟨.value (.func 38), #[.tmp 35, .tmp 37], #[31, 31]⟩) 4 none (fun K hK => ?_)
      go_simp
      refine (Wl.eqWorld n l d r p s t _ _ _ _ k _ _ m _ _ ks os _ kXr kNr oXr oNr hk hm).mono ?_
      rintro e vu4 ⟨rfl, b_u4⟩
      have ⟨BB_u4, R0_u4, T0_u4, RX_u4, TX_u4, kX_u4, oX_u4, hY_u4⟩ := hHeld.2.2.2.2.2.2.2.2.2.2.2.2.2.2.2.2.2.2.2.2.2.2.2.2.2.2.2.2.out
      have BB2_u4 := BB_u4.trans (b_u4.mono BB_u4.size)
      have R02_u4 := R0_u4.below b_u4
      have T02_u4 := T0_u4.below b_u4
      have RX2_u4 := RX_u4.below b_u4
      have TX2_u4 := TX_u4.below b_u4
      have kX2_u4 := kX_u4.later b_u4 kX_u4.2.2.1
      have oX2_u4 := oX_u4.later b_u4 oX_u4.2.2.1
      have hY2_u4 := hY_u4.later b_u4
      have kvu4 := Tk.kv hK (w := vu4) ⟨R02_u4.cell 0 rfl, R02_u4.cell 1 rfl, R02_u4.cell 2 rfl, R02_u4.cell 3 rfl, R02_u4.cell 4 rfl, R02_u4.cell 5 rfl, R02_u4.cell 6 rfl, R02_u4.cell 7 rfl, R02_u4.cell 8 rfl, T02_u4.cell 0 rfl, T02_u4.cell 1 rfl, T02_u4.cell 2 rfl, T02_u4.cell 3 rfl, T02_u4.cell 4 rfl, RX2_u4.cell 0 rfl, RX2_u4.cell 1 rfl, RX2_u4.cell 2 rfl, RX2_u4.cell 3 rfl, RX2_u4.cell 4 rfl, RX2_u4.cell 5 rfl, RX2_u4.cell 6 rfl, RX2_u4.cell 7 rfl, RX2_u4.cell 8 rfl, TX2_u4.cell 0 rfl, TX2_u4.cell 1 rfl, TX2_u4.cell 2 rfl, TX2_u4.cell 3 rfl, TX2_u4.cell 4 rfl, ⟨BB2_u4, R02_u4, T02_u4, RX2_u4, TX2_u4, kX2_u4, oX2_u4, hY2_u4⟩⟩
      clear BB_u4 R0_u4 T0_u4 RX_u4 TX_u4 kX_u4 oX_u4 hY_u4 BB2_u4 R02_u4 T02_u4 RX2_u4 TX2_u4 kX2_u4 oX2_u4 hY2_u4
      try dsimp only
      refine hK.out _ _ kvu4 ?_; clear hK K hHeld; intro hHeld; try simp only [Act.put, List.setIfInBounds_toArray, List.set_cons_zero, List.set_cons_succ]
      refine Tk.W 4 (some 39) (.unOp .not 4 (.tmp 38)) 4 none ?_
      refine wpAnyH_done (by kernel_rfl) ?_ _
      refine NoPanic.normal ?_
      clear BB R0 T0 RX TX kX oX hY
      obtain ⟨BB, R0, T0, RX, TX, kX, oX, hY⟩ := hHeld.2.2.2.2.2.2.2.2.2.2.2.2.2.2.2.2.2.2.2.2.2.2.2.2.2.2.2.2.out
      clear hHeld
      clear cR00 cR01 cR02 cR03 cR04 cR05 cR06 cR07 cR08 lR0 cT00 cT01 cT02 cT03 cT04 lT0 cRX0 cRX1 cRX2 cRX3 cRX4 cRX5 cRX6 cRX7 cRX8 lRX cTX0 cTX1 cTX2 cTX3 cTX4 lTX
      have cR00 := R0.cell 0 rfl
      have cR01 := R0.cell 1 rfl
      have cR02 := R0.cell 2 rfl
      have cR03 := R0.cell 3 rfl
      have cR04 := R0.cell 4 rfl
      have cR05 := R0.cell 5 rfl
      have cR06 := R0.cell 6 rfl
      have cR07 := R0.cell 7 rfl
      have cR08 := R0.cell 8 rfl
      have lR0 := R0.lt (by simp)
      have cT00 := T0.cell 0 rfl
      have cT01 := T0.cell 1 rfl
      have cT02 := T0.cell 2 rfl
      have cT03 := T0.cell 3 rfl
      have cT04 := T0.cell 4 rfl
      have lT0 := T0.lt (by simp)
      have cRX0 := RX.cell 0 rfl
      have cRX1 := RX.cell 1 rfl
      have cRX2 := RX.cell 2 rfl
      have cRX3 := RX.cell 3 rfl
      have cRX4 := RX.cell 4 rfl
      have cRX5 := RX.cell 5 rfl
      have cRX6 := RX.cell 6 rfl
      have cRX7 := RX.cell 7 rfl
      have cRX8 := RX.cell 8 rfl
      have lRX := RX.lt (by simp)
      have cTX0 := TX.cell 0 rfl
      have cTX1 := TX.cell 1 rfl
      have cTX2 := TX.cell 2 rfl
      have cTX3 := TX.cell 3 rfl
      have cTX4 := TX.cell 4 rfl
      have lTX := TX.lt (by simp)
      go_wp2_with fail
      refine wp_region_noPanic ?_
      refine wp_region_held_drew (S := (fun w' => w'.cell? ⟨w.heap.size, 0, none⟩ = some (.int .i64 n) ∧ w'.cell? ⟨w.heap.size, 1, none⟩ = some (.int .i64 l) ∧ w'.cell? ⟨w.heap.size, 2, none⟩ = some (.int .i64 d) ∧ w'.cell? ⟨w.heap.size, 3, none⟩ = some (.int .i64 r) ∧ w'.cell? ⟨w.heap.size, 4, none⟩ = some (.int .i64 p) ∧ w'.cell? ⟨w.heap.size, 5, none⟩ = some (.int .i64 s) ∧ w'.cell? ⟨w.heap.size, 6, none⟩ = some (.slice a k ka) ∧ w'.cell? ⟨w.heap.size, 7, none⟩ = some (.slice b m mb) ∧ w'.cell? ⟨w.heap.size, 8, none⟩ = some (.int .i64 t) ∧ w'.cell? ⟨w.heap.size + 1, 0, none⟩ = some (.slice aD nD cD) ∧ w'.cell? ⟨w.heap.size + 1, 1, none⟩ = some (.slice aE nE cE) ∧ w'.cell? ⟨w.heap.size + 1, 2, none⟩ = some (.slice aL nL cL) ∧ w'.cell? ⟨w.heap.size + 1, 3, none⟩ = some (.slice aF nF cF) ∧ w'.cell? ⟨w.heap.size + 1, 4, none⟩ = some (.slice aR nR cR) ∧ w'.cell? ⟨w5.heap.size, 0, none⟩ = some (.int .i64 n) ∧ w'.cell? ⟨w5.heap.size, 1, none⟩ = some (.int .i64 l) ∧ w'.cell? ⟨w5.heap.size, 2, none⟩ = some (.int .i64 d) ∧ w'.cell? ⟨w5.heap.size, 3, none⟩ = some (.int .i64 r) ∧ w'.cell? ⟨w5.heap.size, 4, none⟩ = some (.int .i64 p) ∧ w'.cell? ⟨w5.heap.size, 5, none⟩ = some (.int .i64 s) ∧ w'.cell? ⟨w5.heap.size, 6, none⟩ = some (.slice (some ⟨gX, 0, none⟩) k k) ∧ w'.cell? ⟨w5.heap.size, 7, none⟩ = some (.slice (some ⟨hX, 0, none⟩) m m) ∧ w'.cell? ⟨w5.heap.size, 8, none⟩ = some (.int .i64 t) ∧ w'.cell? ⟨w6.heap.size, 0, none⟩ = some (.slice (some ⟨y0, 0, none⟩) nD nD) ∧ w'.cell? ⟨w6.heap.size, 1, none⟩ = some (.slice (some ⟨y1, 0, none⟩) nE nE) ∧ w'.cell? ⟨w6.heap.size, 2, none⟩ = some (.slice (some ⟨y2, 0, none⟩) nL nL) ∧ w'.cell? ⟨w6.heap.size, 3, none⟩ = some (.slice (some ⟨y3, 0, none⟩) nF nF) ∧ w'.cell? ⟨w6.heap.size, 4, none⟩ = some (.slice (some ⟨y4, 0, none⟩) nR nR) ∧ Hid (Below w.heap.size w w' ∧ Rm.Room w' (w.heap.size) [.int .i64 n, .int .i64 l, .int .i64 d, .int .i64 r, .int .i64 p, .int .i64 s, .slice a k ka, .slice b m mb, .int .i64 t] ∧ Rm.Room w' (w.heap.size + 1) [.slice aD nD cD, .slice aE nE cE, .slice aL nL cL, .slice aF nF cF, .slice aR nR cR] ∧ Rm.Room w' (w5.heap.size) [.int .i64 n, .int .i64 l, .int .i64 d, .int .i64 r, .int .i64 p, .int .i64 s, .slice (some ⟨gX, 0, none⟩) k k, .slice (some ⟨hX, 0, none⟩) m m, .int .i64 t] ∧ Rm.Room w' (w6.heap.size) [.slice (some ⟨y0, 0, none⟩) nD nD, .slice (some ⟨y1, 0, none⟩) nE nE, .slice (some ⟨y2, 0, none⟩) nL nL, .slice (some ⟨y3, 0, none⟩) nF nF, .slice (some ⟨y4, 0, none⟩) nR nR] ∧ Ow.Has w' w4.heap.size gX 0 k ks ∧ Ow.Has w' w4.heap.size hX 0 m os ∧ Tu.HasT w' (w5.heap.size + 1) w6.heap.size y0 y1 y2 y3 y4 nD nE nL nF nR ds es ls fs rs))) (by kernel_rfl) ⟨R0.cell 0 rfl, R0.cell 1 rfl, R0.cell 2 rfl, R0.cell 3 rfl, R0.cell 4 rfl, R0.cell 5 rfl, R0.cell 6 rfl, R0.cell 7 rfl, R0.cell 8 rfl, T0.cell 0 rfl, T0.cell 1 rfl, T0.cell 2 rfl, T0.cell 3 rfl, T0.cell 4 rfl, RX.cell 0 rfl, RX.cell 1 rfl, RX.cell 2 rfl, RX.cell 3 rfl, RX.cell 4 rfl, RX.cell 5 rfl, RX.cell 6 rfl, RX.cell 7 rfl, RX.cell 8 rfl, TX.cell 0 rfl, TX.cell 1 rfl, TX.cell 2 rfl, TX.cell 3 rfl, TX.cell 4 rfl, ⟨BB.drew, R0.drew, T0.drew, RX.drew, TX.drew, kX.later (Below.refl _ _).drew kX.2.2.1, oX.later (Below.refl _ _).drew oX.2.2.1, hY.later (Below.refl _ _).drew⟩⟩ (fun hHeld => ?_)
      refine Tk.W 0 (some 40) (.load 37 (.tmp 8)) 37 none ?_
      refine Tk.W 1 (some 41) (.load 70 (.tmp 3)) 70 none ?_
      refine Tk.R 2 (some 42) (.call ⟨.value (.func 49), #[.tmp 41], #[70]⟩) 37 none (fun K hK => ?_)
      go_simp
      refine (Tu.toTurn aD aE aL aF aR nD cD nE cE nL cL nF cF nR cR ds es ls fs rs _ ((rD.later hHeld.2.2.2.2.2.2.2.2.2.2.2.2.2.2.2.2.2.2.2.2.2.2.2.2.2.2.2.2.out.1 (Nat.le_refl _)).more hHeld.2.2.2.2.2.2.2.2.2.2.2.2.2.2.2.2.2.2.2.2.2.2.2.2.2.2.2.2.out.1.size) ((rE.later hHeld.2.2.2.2.2.2.2.2.2.2.2.2.2.2.2.2.2.2.2.2.2.2.2.2.2.2.2.2.out.1 (Nat.le_refl _)).more hHeld.2.2.2.2.2.2.2.2.2.2.2.2.2.2.2.2.2.2.2.2.2.2.2.2.2.2.2.2.out.1.size) ((rL.later hHeld.2.2.2.2.2.2.2.2.2.2.2.2.2.2.2.2.2.2.2.2.2.2.2.2.2.2.2.2.out.1 (Nat.le_refl _)).more hHeld.2.2.2.2.2.2.2.2.2.2.2.2.2.2.2.2.2.2.2.2.2.2.2.2.2.2.2.2.out.1.size) ((rF.later hHeld.2.2.2.2.2.2.2.2.2.2.2.2.2.2.2.2.2.2.2.2.2.2.2.2.2.2.2.2.out.1 (Nat.le_refl _)).more hHeld.2.2.2.2.2.2.2.2.2.2.2.2.2.2.2.2.2.2.2.2.2.2.2.2.2.2.2.2.out.1.size) ((rR.later hHeld.2.2.2.2.2.2.2.2.2.2.2.2.2.2.2.2.2.2.2.2.2.2.2.2.2.2.2.2.out.1 (Nat.le_refl _)).more hHeld.2.2.2.2.2.2.2.2.2.2.2.2.2.2.2.2.2.2.2.2.2.2.2.2.2.2.2.2.out.1.size) hz).mono ?_
      rintro e vx3 ⟨⟨e0, e1, e2, e3, e4, rfl, hN⟩, b_x3⟩
      have ⟨BB_x3, R0_x3, T0_x3, RX_x3, TX_x3, kX_x3, oX_x3, hY_x3⟩ := hHeld.2.2.2.2.2.2.2.2.2.2.2.2.2.2.2.2.2.2.2.2.2.2.2.2.2.2.2.2.out
      have BB2_x3 := BB_x3.trans (b_x3.mono BB_x3.size)
      have R02_x3 := R0_x3.below b_x3
      have T02_x3 := T0_x3.below b_x3
      have RX2_x3 := RX_x3.below b_x3
      have TX2_x3 := TX_x3.below b_x3
      have kX2_x3 := kX_x3.later b_x3 kX_x3.2.2.1
      have oX2_x3 := oX_x3.later b_x3 oX_x3.2.2.1
      have hY2_x3 := hY_x3.later b_x3
      have kvx3 := Tk.kv hK (w := vx3) ⟨R02_x3.cell 0 rfl, R02_x3.cell 1 rfl, R02_x3.cell 2 rfl, R02_x3.cell 3 rfl, R02_x3.cell 4 rfl, R02_x3.cell 5 rfl, R02_x3.cell 6 rfl, R02_x3.cell 7 rfl, R02_x3.cell 8 rfl, T02_x3.cell 0 rfl, T02_x3.cell 1 rfl, T02_x3.cell 2 rfl, T02_x3.cell 3 rfl, T02_x3.cell 4 rfl, RX2_x3.cell 0 rfl, RX2_x3.cell 1 rfl, RX2_x3.cell 2 rfl, RX2_x3.cell 3 rfl, RX2_x3.cell 4 rfl, RX2_x3.cell 5 rfl, RX2_x3.cell 6 rfl, RX2_x3.cell 7 rfl, RX2_x3.cell 8 rfl, TX2_x3.cell 0 rfl, TX2_x3.cell 1 rfl, TX2_x3.cell 2 rfl, TX2_x3.cell 3 rfl, TX2_x3.cell 4 rfl, ⟨BB2_x3, R02_x3, T02_x3, RX2_x3, TX2_x3, kX2_x3, oX2_x3, hY2_x3⟩⟩
      have hNa := hN.all
      have hYa := hY2_x3.all
      clear BB_x3 R0_x3 T0_x3 RX_x3 TX_x3 kX_x3 oX_x3 hY_x3 BB2_x3 R02_x3 T02_x3 RX2_x3 TX2_x3 kX2_x3 oX2_x3 hY2_x3
      try dsimp only
      refine hK.out _ _ kvx3 ?_; clear hK K hHeld; intro hHeld; try simp only [Act.put, List.setIfInBounds_toArray, List.set_cons_zero, List.set_cons_succ]
      refine Tk.R 3 (some 43) (.call ⟨.value (.func 50), #[.tmp 40, .tmp 42], #[37, 37]⟩) 4 none (fun K hK => ?_)
      go_simp
      refine (Tu.eqTurn _ _ _ _ _ _ _ _ _ _ nD _ _ nE _ _ nL _ _ nF _ _ nR _ _ ds es ls fs rs _ hYa.1 hYa.2.1 hYa.2.2.1 hYa.2.2.2.1 hYa.2.2.2.2 hNa.1 hNa.2.1 hNa.2.2.1 hNa.2.2.2.1 hNa.2.2.2.2 hz).mono ?_
      rintro e vx4 ⟨rfl, b_x4⟩
      have ⟨BB_x4, R0_x4, T0_x4, RX_x4, TX_x4, kX_x4, oX_x4, hY_x4⟩ := hHeld.2.2.2.2.2.2.2.2.2.2.2.2.2.2.2.2.2.2.2.2.2.2.2.2.2.2.2.2.out
      have BB2_x4 := BB_x4.trans (b_x4.mono BB_x4.size)
      have R02_x4 := R0_x4.below b_x4
      have T02_x4 := T0_x4.below b_x4
      have RX2_x4 := RX_x4.below b_x4
      have TX2_x4 := TX_x4.below b_x4
      have kX2_x4 := kX_x4.later b_x4 kX_x4.2.2.1
      have oX2_x4 := oX_x4.later b_x4 oX_x4.2.2.1
      have hY2_x4 := hY_x4.later b_x4
      have kvx4 := Tk.kv hK (w := vx4) ⟨R02_x4.cell 0 rfl, R02_x4.cell 1 rfl, R02_x4.cell 2 rfl, R02_x4.cell 3 rfl, R02_x4.cell 4 rfl, R02_x4.cell 5 rfl, R02_x4.cell 6 rfl, R02_x4.cell 7 rfl, R02_x4.cell 8 rfl, T02_x4.cell 0 rfl, T02_x4.cell 1 rfl, T02_x4.cell 2 rfl, T02_x4.cell 3 rfl, T02_x4.cell 4 rfl, RX2_x4.cell 0 rfl, RX2_x4.cell 1 rfl, RX2_x4.cell 2 rfl, RX2_x4.cell 3 rfl, RX2_x4.cell 4 rfl, RX2_x4.cell 5 rfl, RX2_x4.cell 6 rfl, RX2_x4.cell 7 rfl, RX2_x4.cell 8 rfl, TX2_x4.cell 0 rfl, TX2_x4.cell 1 rfl, TX2_x4.cell 2 rfl, TX2_x4.cell 3 rfl, TX2_x4.cell 4 rfl, ⟨BB2_x4, R02_x4, T02_x4, RX2_x4, TX2_x4, kX2_x4, oX2_x4, hY2_x4⟩⟩
      clear BB_x4 R0_x4 T0_x4 RX_x4 TX_x4 kX_x4 oX_x4 hY_x4 BB2_x4 R02_x4 T02_x4 RX2_x4 TX2_x4 kX2_x4 oX2_x4 hY2_x4
      try dsimp only
      refine hK.out _ _ kvx4 ?_; clear hK K hHeld; intro hHeld; try simp only [Act.put, List.setIfInBounds_toArray, List.set_cons_zero, List.set_cons_succ]
      refine Tk.W 4 (some 44) (.unOp .not 4 (.tmp 43)) 4 none ?_
      refine wpAnyH_done (by kernel_rfl) ?_ _
      refine NoPanic.normal ?_
      clear BB R0 T0 RX TX kX oX hY
      obtain ⟨BB, R0, T0, RX, TX, kX, oX, hY⟩ := hHeld.2.2.2.2.2.2.2.2.2.2.2.2.2.2.2.2.2.2.2.2.2.2.2.2.2.2.2.2.out
      clear hHeld
      clear cR00 cR01 cR02 cR03 cR04 cR05 cR06 cR07 cR08 lR0 cT00 cT01 cT02 cT03 cT04 lT0 cRX0 cRX1 cRX2 cRX3 cRX4 cRX5 cRX6 cRX7 cRX8 lRX cTX0 cTX1 cTX2 cTX3 cTX4 lTX
      go_wp2
      go_ret
      exact ⟨rfl, BB⟩

/-! The row. -/
set_option maxRecDepth 100000 in
theorem lifted (os : Os) (started : os.Started) (H : Type) (enc : TypeId × Value → H) :
    ReturnsInHanded {} Try.checked os 10 .any (Rows.fnExactMiddleSkewSpec.pre6 enc Try.prog Try.f10 Rows.fnExactMiddleSkewRow.domain false) (Rows.fnExactMiddleSkewSpec.post enc Try.prog Try.f10 false true false false) := by
  refine returnsInHanded_of_change (C := Try.checked) own started (by kernel_rfl) Try.func10
    (ChangeSpec.witness6 (enc := enc) (C := Try.checked) false ⟨#[], #[.agg #[.int .i64 0, .int .i64 0, .int .i64 0, .int .i64 0, .int .i64 0, .int .i64 0, .slice none 0 0, .slice none 0 0, .int .i64 0], .agg #[.slice none 0 0, .slice none 0 0, .slice none 0 0, .slice none 0 0, .slice none 0 0]], []⟩ 8 (by kernel_rfl) (by kernel_rfl) (by kernel_rfl) (by kernel_rfl)) ?_
  intro W base args ds gs before hval0 hW hcnd _
  have hval : ∀ (j : Nat) t v, Try.f10.params[j]? = some t → args[j]? = some v → Value.okWide Try.prog W .any base t v := hval0
  have hW' := hW
  obtain ⟨p, q, hA0, hV, rfl, hfz, hnd⟩ := hW
  have hA : DataW.TrodAll enc Try.prog W 0 (fun _ => true) true Try.f10.params.toList args.toList ds p := hA0
  rw [Try.params10] at hA hval
  obtain ⟨v0, vs0, d0, ds0, p0, q0, hargs, rfl, rfl, h0, r0⟩ := trodAll_cons hA
  obtain ⟨v1, vs1, d1, ds1, p1, q1, rfl, rfl, rfl, h1, r1⟩ := trodAll_cons r0
  obtain ⟨rfl, rfl, rfl⟩ := trodAll_nil r1
  obtain rfl : args = #[v0, v1] := by cases args; simp_all
  obtain ⟨rfl, rfl⟩ := trodVars_none hV
  have k0' := h0
  have lt0' : ∀ x ∈ p0, x.block < W.heap.size := by obtain ⟨m, hm⟩ := k0'; exact DataW.trod_lt m _ _ _ hm
  have rd0 := Rd.Reads.of h0
  obtain ⟨cs0, rfl, _⟩ := okWide_struct Try.underlying61 (hval 0 61 v0 rfl rfl)
  obtain ⟨n, l, d, r, p, s, t, a, k, ka, b, m, mb, ks, os, rfl, hr, hs, lk, lm⟩ := Rd.world rd0
  have k1' := h1
  have lt1' : ∀ x ∈ p1, x.block < W.heap.size := by obtain ⟨m, hm⟩ := k1'; exact DataW.trod_lt m _ _ _ hm
  have rd1 := Rd.Reads.of h1
  obtain ⟨cs1, rfl, _⟩ := okWide_struct Try.underlying70 (hval 1 70 v1 rfl rfl)
  obtain ⟨aD, nD, cD, aE, nE, cE, aL, nL, cL, aF, nF, cF, aR, nR, cR, ds, es, ls, fs, rs, rfl, rD, rE, rL, rF, rR, mD, mE, mL, mF, mR, mE2, mL2⟩ := Rd.turn rd1
  clear hA0 hval0
  refine (walk n l d r p s t a k ka b m mb ks os aD nD cD aE nE cE aL nL cL aF nF cF aR nR cR ds es ls fs rs W hr hs lk lm rD rE rL rF rR mD mE mL mF mR mE2 mL2).mono fun e W' ⟨he, bel⟩ => ?_
  subst he
  exact ⟨_, rfl, _, _, _, [], _, [], hW', trodAll_mk1 (shut_bool Try.underlying4 _), (trodAll_cons_mk (Below.trod laidOut (by kernel_rfl) (of_decide_eq_true (by kernel_rfl)) k0' bel lt0') (trodAll_cons_mk (Below.trod laidOut (by kernel_rfl) (of_decide_eq_true (by kernel_rfl)) k1' bel lt1') trodAll_mk0)), rfl, bel.frame _, fun h => by cases h⟩

theorem over : Rows.fnExactMiddleSkewRow.holds Try.pinned (OpenSpec.ofChange Rows.fnExactMiddleSkewSpec) :=
  OpenClaim.holds_of_wide 10 Try.f10 rfl rfl rfl rfl rfl rfl rfl ⟨rfl, rfl, rfl, rfl, rfl⟩ rfl rfl rfl rfl rfl (by kernel_rfl) Try.func10 (by kernel_rfl)
    (of_decide_eq_true (by kernel_rfl)) (by unfold Func.isWrapper; first | (rw [if_pos (by decide +kernel)]; kernel_rfl) | (rw [if_neg (by decide +kernel)]; exact ⟨rfl, rfl⟩))
    (fun os started H enc _ => lifted os started H enc)

end Go.Proofs.Ytloicicgcdfgnaa.fnExactMiddleSkew

namespace Go.Proofs.Ytloicicgcdfgnaa
/-- The given statement. -/
theorem fnExactMiddleSkew_holds : Rows.FnExactMiddleSkewSaid := fnExactMiddleSkew.over
#print axioms fnExactMiddleSkew_holds
end Go.Proofs.Ytloicicgcdfgnaa
