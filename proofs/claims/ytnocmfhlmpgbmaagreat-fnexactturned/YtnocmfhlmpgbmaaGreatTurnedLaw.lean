/-
  FnExactTurned holds at every World and Turn: impl.Turned answers as spec.Turned, writes into no argument, and its answer owns its memory. No condition.
-/
import Derived.Test.YtnocmfhlmpgbmaaGreatRows
import Derived.WalkKit
import Derived.ProofKit
import Derived.OpenShut
import Derived.ChangeOld
import Derived.Below
import Derived.Lib.SmallJoins
import Derived.Test.YtnocmfhlmpgbmaaGreatBase
import Derived.Test.YtnocmfhlmpgbmaaGreatSps
import Derived.Test.YtnocmfhlmpgbmaaGreatWt
import Derived.Test.YtnocmfhlmpgbmaaGreatTd
import Derived.Test.YtnocmfhlmpgbmaaGreatZero
import Derived.Deep.RegionHeld3
import Derived.Deep.Cut
import Derived.Test.YtnocmfhlmpgbmaaGreatTk
namespace Go.Proofs.YtnocmfhlmpgbmaaGreat.fnExactTurned
open Go.ChangeShapes Go.WideShapes Go.ChangeAt Go.RowKit Go.Joins
set_option linter.unusedVariables false
set_option linter.unusedSimpArgs false

theorem own : ownKnob Tryz.prog.godebug = none := by kernel_rfl
theorem laidOut : laidOutB Tryz.prog = true := by kernel_rfl


/-! The walk. -/
set_option maxHeartbeats 20000000 in
set_option maxRecDepth 100000 in
theorem walk (n l d r p s t : Int) (a : Option Addr) (k ka : Nat) (b : Option Addr) (m mb : Nat) (ks os : List Int) (aD : Option Addr) (nD cD : Nat) (aE : Option Addr) (nE cE : Nat) (aL : Option Addr) (nL cL : Nat) (aF : Option Addr) (nF cF : Nat) (aR : Option Addr) (nR cR : Nat) (ds : List Int) (es ls : List (List Int)) (fs rs : List Bool) (w : World) (hr : Ls.Row w w.heap.size a k ks) (hs : Ls.Row w w.heap.size b m os) (lk : k ≤ maxLen) (lm : m ≤ maxLen) (rD : Ls.Row w w.heap.size aD nD ds) (rE : Ss.RowsAt w w.heap.size aE nE es) (rL : Ss.RowsAt w w.heap.size aL nL ls) (rF : Rd.Flags w w.heap.size aF nF fs) (rR : Rd.Flags w w.heap.size aR nR rs) (mD : nD ≤ maxLen) (mE : nE ≤ maxLen) (mL : nL ≤ maxLen) (mF : nF ≤ maxLen) (mR : nR ≤ maxLen) (mE2 : ∀ k, k < nE → Ss.ln es k ≤ maxLen) (mL2 : ∀ k, k < nL → Ss.ln ls k ≤ maxLen) :
    Calls Tryz.prog 4 #[.agg #[.int .i64 n, .int .i64 l, .int .i64 d, .int .i64 r, .int .i64 p, .int .i64 s, .slice a k ka, .slice b m mb, .int .i64 t], .agg #[.slice aD nD cD, .slice aE nE cE, .slice aL nL cL, .slice aF nF cF, .slice aR nR cR]] w fun e w' => e = .returned (.bool true) ∧ Below w.heap.size w w' := by
  by_cases hl : k + m ≤ 1048576
  case neg =>
    have R0 := (Rm.Room.new w [.int .i64 n, .int .i64 l, .int .i64 d, .int .i64 r, .int .i64 p, .int .i64 s, .slice a k ka, .slice b m mb, .int .i64 t] 47).alloc (.cells #[.slice aD nD cD, .slice aE nE cE, .slice aL nL cL, .slice aF nF cF, .slice aR nR cR] 48)
    have T0 : Rm.Room ((w.alloc (.cells #[.int .i64 n, .int .i64 l, .int .i64 d, .int .i64 r, .int .i64 p, .int .i64 s, .slice a k ka, .slice b m mb, .int .i64 t] 47)).alloc (.cells #[.slice aD nD cD, .slice aE nE cE, .slice aL nL cL, .slice aF nF cF, .slice aR nR cR] 48)) (w.heap.size + 1) [.slice aD nD cD, .slice aE nE cE, .slice aL nL cL, .slice aF nF cF, .slice aR nR cR] := Rm.Room.at _ [.slice aD nD cD, .slice aE nE cE, .slice aL nL cL, .slice aF nF cF, .slice aR nR cR] 48 _ (by simp)
    have BB := ((Below.refl w.heap.size w).alloc (Nat.le_refl _) (.cells #[.int .i64 n, .int .i64 l, .int .i64 d, .int .i64 r, .int .i64 p, .int .i64 s, .slice a k ka, .slice b m mb, .int .i64 t] 47)).alloc (by simp) (.cells #[.slice aD nD cD, .slice aE nE cE, .slice aL nL cL, .slice aF nF cF, .slice aR nR cR] 48)
    go_enter Tryz.func4, Tryz.ntmps4
    go_wp2_with fail
    refine (Wl.szWorld_no n l d r p s t a b k ka m mb _ hl lk lm).mono ?_
    rintro e w2 ⟨rfl, b2⟩
    go_wp2
    go_ret
    exact ⟨rfl, BB.trans (b2.mono BB.size)⟩
  case pos =>
    have hk : k ≤ 1048576 := by omega
    have hm : m ≤ 1048576 := by omega
    have hx2 : decide ((1048576 : Int) - (k : Int) - (m : Int) < 0) = false := by simp; omega
    have R0 := (Rm.Room.new w [.int .i64 n, .int .i64 l, .int .i64 d, .int .i64 r, .int .i64 p, .int .i64 s, .slice a k ka, .slice b m mb, .int .i64 t] 47).alloc (.cells #[.slice aD nD cD, .slice aE nE cE, .slice aL nL cL, .slice aF nF cF, .slice aR nR cR] 48)
    have T0 : Rm.Room ((w.alloc (.cells #[.int .i64 n, .int .i64 l, .int .i64 d, .int .i64 r, .int .i64 p, .int .i64 s, .slice a k ka, .slice b m mb, .int .i64 t] 47)).alloc (.cells #[.slice aD nD cD, .slice aE nE cE, .slice aL nL cL, .slice aF nF cF, .slice aR nR cR] 48)) (w.heap.size + 1) [.slice aD nD cD, .slice aE nE cE, .slice aL nL cL, .slice aF nF cF, .slice aR nR cR] := Rm.Room.at _ [.slice aD nD cD, .slice aE nE cE, .slice aL nL cL, .slice aF nF cF, .slice aR nR cR] 48 _ (by simp)
    have BB := ((Below.refl w.heap.size w).alloc (Nat.le_refl _) (.cells #[.int .i64 n, .int .i64 l, .int .i64 d, .int .i64 r, .int .i64 p, .int .i64 s, .slice a k ka, .slice b m mb, .int .i64 t] 47)).alloc (by simp) (.cells #[.slice aD nD cD, .slice aE nE cE, .slice aL nL cL, .slice aF nF cF, .slice aR nR cR] 48)
    go_enter Tryz.func4, Tryz.ntmps4
    go_wp2_with fail
    refine (Tu.szWorld_is n l d r p s t a b k ka m mb _ hl).mono ?_
    rintro e w2 ⟨rfl, b2⟩
    have z_b2 := b2.size
    (try simp at z_b2)
    replace R0 := R0.below b2
    replace T0 := T0.below b2
    replace BB := BB.trans (b2.mono BB.size)
    by_cases hz2 : ((nD + (nE + Ss.tot es nE) + (nL + Ss.tot ls nL) + nF + nR : Nat) : Int) ≤ (1048576 : Int) - (k : Int) - (m : Int)
    case neg =>
      have cT00 := T0.cell 0 rfl
      have cT01 := T0.cell 1 rfl
      have cT02 := T0.cell 2 rfl
      have cT03 := T0.cell 3 rfl
      have cT04 := T0.cell 4 rfl
      have lT0 := T0.lt (by simp)
      go_wp2_with fail
      refine (Tu.szTurn_no aD aE aL aF aR nD cD nE cE nL cL nF cF nR cR ds es ls fs rs _ _ ((rD.later BB (Nat.le_refl _)).more BB.size) ((rE.later BB (Nat.le_refl _)).more BB.size) ((rL.later BB (Nat.le_refl _)).more BB.size) ((rF.later BB (Nat.le_refl _)).more BB.size) ((rR.later BB (Nat.le_refl _)).more BB.size) (by omega) (by omega) (by omega) mD mE mL mF mR mE2 mL2).mono ?_
      rintro e w3 ⟨rfl, b3⟩
      go_wp2
      go_ret
      exact ⟨rfl, BB.trans (b3.mono BB.size)⟩
    case pos =>
      have hz : nD + (nE + Ss.tot es nE) + (nL + Ss.tot ls nL) + nF + nR ≤ 1048576 := by omega
      have cT00 := T0.cell 0 rfl
      have cT01 := T0.cell 1 rfl
      have cT02 := T0.cell 2 rfl
      have cT03 := T0.cell 3 rfl
      have cT04 := T0.cell 4 rfl
      have lT0 := T0.lt (by simp)
      go_wp2_with fail
      refine (Tu.szTurn_yes aD aE aL aF aR nD cD nE cE nL cL nF cF nR cR ds es ls fs rs _ _ ((rD.later BB (Nat.le_refl _)).more BB.size) ((rE.later BB (Nat.le_refl _)).more BB.size) ((rL.later BB (Nat.le_refl _)).more BB.size) ((rF.later BB (Nat.le_refl _)).more BB.size) ((rR.later BB (Nat.le_refl _)).more BB.size) hz2 (by omega)).mono ?_
      rintro e w3 ⟨⟨x3, rfl, hx3⟩, b3⟩
      clear cT00 cT01 cT02 cT03 cT04 lT0
      have z_b3 := b3.size
      (try simp at z_b3)
      replace R0 := R0.below b3
      replace T0 := T0.below b3
      replace BB := BB.trans (b3.mono BB.size)
      have hx3b : decide (x3 < 0) = false := by simp; omega
      have hnE : nE ≤ 1048576 := by omega
      have htE : Ss.tot es nE ≤ 1048576 := by omega
      have hnL : nL ≤ 1048576 := by omega
      have htL : Ss.tot ls nL ≤ 1048576 := by omega
      have hnD : nD ≤ 1048576 := by omega
      have hnF : nF ≤ 1048576 := by omega
      have hnR : nR ≤ 1048576 := by omega
      clear hz2 hx3
      cases hq : Wl.WO n l d r p s ks k os m t with
      | false =>
        have lo_R0A := R0.lt (by simp)
        have lo_T0A := T0.lt (by simp)
        have cR00 := R0.cell 0 rfl
        have cR01 := R0.cell 1 rfl
        have cR02 := R0.cell 2 rfl
        have cR03 := R0.cell 3 rfl
        have cR04 := R0.cell 4 rfl
        have cR05 := R0.cell 5 rfl
        have cR06 := R0.cell 6 rfl
        have cR07 := R0.cell 7 rfl
        have cR08 := R0.cell 8 rfl
        have lR0 := R0.lt (by simp)
        have cT00 := T0.cell 0 rfl
        have cT01 := T0.cell 1 rfl
        have cT02 := T0.cell 2 rfl
        have cT03 := T0.cell 3 rfl
        have cT04 := T0.cell 4 rfl
        have lT0 := T0.lt (by simp)
        go_wp2_with fail
        clear cR00 cR01 cR02 cR03 cR04 cR05 cR06 cR07 cR08 lR0 cT00 cT01 cT02 cT03 cT04 lT0
        go_cut [6, 7] from 17 (fun p6 v7 wc => ∃ XA : Nat, p6 = .pointer (some ⟨XA, 0, none⟩) ∧ v7 = .bool (false) ∧ Hid (Below w.heap.size w wc ∧ Rm.Room wc (w.heap.size) [.int .i64 n, .int .i64 l, .int .i64 d, .int .i64 r, .int .i64 p, .int .i64 s, .slice a k ka, .slice b m mb, .int .i64 t] ∧ Rm.Room wc (w.heap.size + 1) [.slice aD nD cD, .slice aE nE cE, .slice aL nL cL, .slice aF nF cF, .slice aR nR cR] ∧ Rm.Room wc XA [.int .i64 0, .int .i64 0, .int .i64 0, .int .i64 0, .int .i64 0, .int .i64 0, .slice none 0 0, .slice none 0 0, .int .i64 0] ∧ w3.heap.size ≤ XA))
        case first =>
          have hd0 : w3.heap.size ≤ w3.drew.heap.size := Nat.le_refl _
          refine wp_region_noPanic ?_
          refine wp_region_held_drew (S := (fun w' => w'.cell? ⟨w.heap.size, 0, none⟩ = some (.int .i64 n) ∧ w'.cell? ⟨w.heap.size, 1, none⟩ = some (.int .i64 l) ∧ w'.cell? ⟨w.heap.size, 2, none⟩ = some (.int .i64 d) ∧ w'.cell? ⟨w.heap.size, 3, none⟩ = some (.int .i64 r) ∧ w'.cell? ⟨w.heap.size, 4, none⟩ = some (.int .i64 p) ∧ w'.cell? ⟨w.heap.size, 5, none⟩ = some (.int .i64 s) ∧ w'.cell? ⟨w.heap.size, 6, none⟩ = some (.slice a k ka) ∧ w'.cell? ⟨w.heap.size, 7, none⟩ = some (.slice b m mb) ∧ w'.cell? ⟨w.heap.size, 8, none⟩ = some (.int .i64 t) ∧ w'.cell? ⟨w.heap.size + 1, 0, none⟩ = some (.slice aD nD cD) ∧ w'.cell? ⟨w.heap.size + 1, 1, none⟩ = some (.slice aE nE cE) ∧ w'.cell? ⟨w.heap.size + 1, 2, none⟩ = some (.slice aL nL cL) ∧ w'.cell? ⟨w.heap.size + 1, 3, none⟩ = some (.slice aF nF cF) ∧ w'.cell? ⟨w.heap.size + 1, 4, none⟩ = some (.slice aR nR cR) ∧ Hid (Below w.heap.size w w' ∧ Rm.Room w' (w.heap.size) [.int .i64 n, .int .i64 l, .int .i64 d, .int .i64 r, .int .i64 p, .int .i64 s, .slice a k ka, .slice b m mb, .int .i64 t] ∧ Rm.Room w' (w.heap.size + 1) [.slice aD nD cD, .slice aE nE cE, .slice aL nL cL, .slice aF nF cF, .slice aR nR cR]))) (by kernel_rfl) ⟨R0.cell 0 rfl, R0.cell 1 rfl, R0.cell 2 rfl, R0.cell 3 rfl, R0.cell 4 rfl, R0.cell 5 rfl, R0.cell 6 rfl, R0.cell 7 rfl, R0.cell 8 rfl, T0.cell 0 rfl, T0.cell 1 rfl, T0.cell 2 rfl, T0.cell 3 rfl, T0.cell 4 rfl, ⟨BB.drew, R0.drew, T0.drew⟩⟩ (fun hHeld => ?_)
          refine Tk.W 0 (some 28) (.load 47 (.tmp 2)) 47 none ?_
          refine Tk.W 2 (some 30) (.load 48 (.tmp 3)) 48 none ?_
          refine wpAnyH_ready (rs := [1, 8]) (by kernel_rfl) (by simp) ?_
          refine (AllReadyH.cons (o := ⟨some 29, .call ⟨.value (.func 18), #[.tmp 28], #[47]⟩, 28, _, _, none⟩) rfl (fun K hK => ?_) (AllReadyH.cons (o := ⟨some 6, .alloc 28, 0, _, _, none⟩) rfl (fun K hK => ?_) AllReadyH.nil))
          · go_simp
            refine (Wl.toWorld n l d r p s t a b k ka m mb ks os _ ((hr.later hHeld.2.2.2.2.2.2.2.2.2.2.2.2.2.2.out.1 (Nat.le_refl _)).more hHeld.2.2.2.2.2.2.2.2.2.2.2.2.2.2.out.1.size) ((hs.later hHeld.2.2.2.2.2.2.2.2.2.2.2.2.2.2.out.1 (Nat.le_refl _)).more hHeld.2.2.2.2.2.2.2.2.2.2.2.2.2.2.out.1.size) hk hm).mono ?_
            rintro e wTW ⟨⟨gk, go, rfl, kK, kO, _⟩, b_qf3⟩
            have ⟨BB_qf3, R0_qf3, T0_qf3⟩ := hHeld.2.2.2.2.2.2.2.2.2.2.2.2.2.2.out
            have BB2_qf3 := BB_qf3.trans (b_qf3.mono BB_qf3.size)
            have R02_qf3 := R0_qf3.below b_qf3
            have T02_qf3 := T0_qf3.below b_qf3
            have kvqf3 := Tk.kv hK (w := wTW) ⟨R02_qf3.cell 0 rfl, R02_qf3.cell 1 rfl, R02_qf3.cell 2 rfl, R02_qf3.cell 3 rfl, R02_qf3.cell 4 rfl, R02_qf3.cell 5 rfl, R02_qf3.cell 6 rfl, R02_qf3.cell 7 rfl, R02_qf3.cell 8 rfl, T02_qf3.cell 0 rfl, T02_qf3.cell 1 rfl, T02_qf3.cell 2 rfl, T02_qf3.cell 3 rfl, T02_qf3.cell 4 rfl, ⟨BB2_qf3, R02_qf3, T02_qf3⟩⟩
            have zz_qf3 := b_qf3.size
            clear BB_qf3 R0_qf3 T0_qf3 BB2_qf3 R02_qf3 T02_qf3
            try dsimp only
            refine hK.out _ _ kvqf3 ?_; clear hK K hHeld; intro hHeld; try simp only [Act.put, List.setIfInBounds_toArray, List.set_cons_zero, List.set_cons_succ]
            refine wpAnyH_ready (rs := [3, 8]) (by kernel_rfl) (by simp) ?_
            refine (AllReadyH.cons (o := ⟨some 31, .call ⟨.value (.func 19), #[.tmp 30], #[48]⟩, 32, _, _, none⟩) rfl (fun K hK => ?_) (AllReadyH.cons (o := ⟨some 6, .alloc 28, 0, _, _, none⟩) rfl (fun K hK => ?_) AllReadyH.nil))
            · go_simp
              refine (Tu.toTurn aD aE aL aF aR nD cD nE cE nL cL nF cF nR cR ds es ls fs rs _ ((rD.later hHeld.2.2.2.2.2.2.2.2.2.2.2.2.2.2.out.1 (Nat.le_refl _)).more hHeld.2.2.2.2.2.2.2.2.2.2.2.2.2.2.out.1.size) ((rE.later hHeld.2.2.2.2.2.2.2.2.2.2.2.2.2.2.out.1 (Nat.le_refl _)).more hHeld.2.2.2.2.2.2.2.2.2.2.2.2.2.2.out.1.size) ((rL.later hHeld.2.2.2.2.2.2.2.2.2.2.2.2.2.2.out.1 (Nat.le_refl _)).more hHeld.2.2.2.2.2.2.2.2.2.2.2.2.2.2.out.1.size) ((rF.later hHeld.2.2.2.2.2.2.2.2.2.2.2.2.2.2.out.1 (Nat.le_refl _)).more hHeld.2.2.2.2.2.2.2.2.2.2.2.2.2.2.out.1.size) ((rR.later hHeld.2.2.2.2.2.2.2.2.2.2.2.2.2.2.out.1 (Nat.le_refl _)).more hHeld.2.2.2.2.2.2.2.2.2.2.2.2.2.2.out.1.size) hz).mono ?_
              rintro e wTT ⟨⟨g0, g1, g2, g3, g4, rfl, hT⟩, b_qf4⟩
              have ⟨BB_qf4, R0_qf4, T0_qf4⟩ := hHeld.2.2.2.2.2.2.2.2.2.2.2.2.2.2.out
              have BB2_qf4 := BB_qf4.trans (b_qf4.mono BB_qf4.size)
              have R02_qf4 := R0_qf4.below b_qf4
              have T02_qf4 := T0_qf4.below b_qf4
              have kvqf4 := Tk.kv hK (w := wTT) ⟨R02_qf4.cell 0 rfl, R02_qf4.cell 1 rfl, R02_qf4.cell 2 rfl, R02_qf4.cell 3 rfl, R02_qf4.cell 4 rfl, R02_qf4.cell 5 rfl, R02_qf4.cell 6 rfl, R02_qf4.cell 7 rfl, R02_qf4.cell 8 rfl, T02_qf4.cell 0 rfl, T02_qf4.cell 1 rfl, T02_qf4.cell 2 rfl, T02_qf4.cell 3 rfl, T02_qf4.cell 4 rfl, ⟨BB2_qf4, R02_qf4, T02_qf4⟩⟩
              replace kK := kK.later b_qf4 kK.2.2.1
              replace kO := kO.later b_qf4 kO.2.2.1
              have hTa := hT.all
              have zz_qf4 := b_qf4.size
              clear BB_qf4 R0_qf4 T0_qf4 BB2_qf4 R02_qf4 T02_qf4
              try dsimp only
              refine hK.out _ _ kvqf4 ?_; clear hK K hHeld; intro hHeld; try simp only [Act.put, List.setIfInBounds_toArray, List.set_cons_zero, List.set_cons_succ]
              refine wpAnyH_ready (rs := [4, 8]) (by kernel_rfl) (by simp) ?_
              refine (AllReadyH.cons (o := ⟨some 32, .call ⟨.value (.func 8), #[.tmp 29, .tmp 31], #[28, 32]⟩, 35, _, _, none⟩) rfl (fun K hK => ?_) (AllReadyH.cons (o := ⟨some 6, .alloc 28, 0, _, _, none⟩) rfl (fun K hK => ?_) AllReadyH.nil))
              · go_simp
                refine (Tu.s_Turned n l d r p s t _ 0 k k _ m m _ _ _ _ _ nD nD nE nE nL nL nF nF nR nR ks os ds es ls fs rs _ kK.1 kK.2.2.2.1 kK.2.2.1 kO.row hTa.1 hTa.2.1 hTa.2.2.1 hTa.2.2.2.1 hTa.2.2.2.2 hk hm hnF hnR hnD hnE hnL htE htL).mono ?_
                rintro e wTD ⟨⟨hFa, hTr⟩, b_qf5⟩
                have ⟨BB_qf5, R0_qf5, T0_qf5⟩ := hHeld.2.2.2.2.2.2.2.2.2.2.2.2.2.2.out
                have BB2_qf5 := BB_qf5.trans (b_qf5.mono BB_qf5.size)
                have R02_qf5 := R0_qf5.below b_qf5
                have T02_qf5 := T0_qf5.below b_qf5
                have kvqf5 := Tk.kv hK (w := wTD) ⟨R02_qf5.cell 0 rfl, R02_qf5.cell 1 rfl, R02_qf5.cell 2 rfl, R02_qf5.cell 3 rfl, R02_qf5.cell 4 rfl, R02_qf5.cell 5 rfl, R02_qf5.cell 6 rfl, R02_qf5.cell 7 rfl, R02_qf5.cell 8 rfl, T02_qf5.cell 0 rfl, T02_qf5.cell 1 rfl, T02_qf5.cell 2 rfl, T02_qf5.cell 3 rfl, T02_qf5.cell 4 rfl, ⟨BB2_qf5, R02_qf5, T02_qf5⟩⟩
                obtain rfl := hFa hq
                clear hFa hTr
                clear kK kO hT hTa
                have zz_qf5 := b_qf5.size
                clear BB_qf5 R0_qf5 T0_qf5 BB2_qf5 R02_qf5 T02_qf5
                try dsimp only
                refine hK.out _ _ kvqf5 ?_; clear hK K hHeld; intro hHeld; try simp only [Act.put, List.setIfInBounds_toArray, List.set_cons_zero, List.set_cons_succ]
                refine Tk.W 5 (some 27) (.move (.tmp 32)) 35 none ?_
                refine Tk.W 6 (some 33) (.extract (.tmp 27) 0) 28 none ?_
                refine Tk.W 7 (some 34) (.extract (.tmp 27) 1) 4 none ?_
                refine Tk.R 8 (some 6) (.alloc 28) 0 none (fun K hK => ?_)
                go_simp
                have bqf9 : Below wTD.heap.size wTD ((wTD.alloc (.cells #[.int .i64 0, .int .i64 0, .int .i64 0, .int .i64 0, .int .i64 0, .int .i64 0, .slice none 0 0, .slice none 0 0, .int .i64 0] 28))) := (Below.refl wTD.heap.size wTD).alloc (Nat.le_refl _) (.cells #[.int .i64 0, .int .i64 0, .int .i64 0, .int .i64 0, .int .i64 0, .int .i64 0, .slice none 0 0, .slice none 0 0, .int .i64 0] 28)
                have RN : Rm.Room ((wTD.alloc (.cells #[.int .i64 0, .int .i64 0, .int .i64 0, .int .i64 0, .int .i64 0, .int .i64 0, .slice none 0 0, .slice none 0 0, .int .i64 0] 28))) wTD.heap.size [.int .i64 0, .int .i64 0, .int .i64 0, .int .i64 0, .int .i64 0, .int .i64 0, .slice none 0 0, .slice none 0 0, .int .i64 0] := Rm.Room.new wTD [.int .i64 0, .int .i64 0, .int .i64 0, .int .i64 0, .int .i64 0, .int .i64 0, .slice none 0 0, .slice none 0 0, .int .i64 0] 28
                have ⟨BB_qf9, R0_qf9, T0_qf9⟩ := hHeld.2.2.2.2.2.2.2.2.2.2.2.2.2.2.out
                have BB2_qf9 := BB_qf9.trans (bqf9.mono BB_qf9.size)
                have R02_qf9 := R0_qf9.below bqf9
                have T02_qf9 := T0_qf9.below bqf9
                have kvqf9 := Tk.kv hK (w := ((wTD.alloc (.cells #[.int .i64 0, .int .i64 0, .int .i64 0, .int .i64 0, .int .i64 0, .int .i64 0, .slice none 0 0, .slice none 0 0, .int .i64 0] 28)))) ⟨R02_qf9.cell 0 rfl, R02_qf9.cell 1 rfl, R02_qf9.cell 2 rfl, R02_qf9.cell 3 rfl, R02_qf9.cell 4 rfl, R02_qf9.cell 5 rfl, R02_qf9.cell 6 rfl, R02_qf9.cell 7 rfl, R02_qf9.cell 8 rfl, T02_qf9.cell 0 rfl, T02_qf9.cell 1 rfl, T02_qf9.cell 2 rfl, T02_qf9.cell 3 rfl, T02_qf9.cell 4 rfl, ⟨BB2_qf9, R02_qf9, T02_qf9⟩⟩
                have zn := bqf9.size
                clear bqf9
                clear BB_qf9 R0_qf9 T0_qf9 BB2_qf9 R02_qf9 T02_qf9
                obtain ⟨XA, hX⟩ : ∃ x, x = wTD.heap.size := ⟨_, rfl⟩
                rw [← hX] at RN ⊢
                have hX1 : XA ≤ wTD.heap.size := Nat.le_of_eq hX
                have hX2 : wTD.heap.size ≤ XA := Nat.le_of_eq hX.symm
                clear hX
                have lX : XA < ((wTD.alloc (.cells #[.int .i64 0, .int .i64 0, .int .i64 0, .int .i64 0, .int .i64 0, .int .i64 0, .slice none 0 0, .slice none 0 0, .int .i64 0] 28))).heap.size := RN.lt (by simp)
                generalize (wTD.alloc (.cells #[.int .i64 0, .int .i64 0, .int .i64 0, .int .i64 0, .int .i64 0, .int .i64 0, .slice none 0 0, .slice none 0 0, .int .i64 0] 28)) = wX at kvqf9 RN lX zn ⊢
                try dsimp only
                refine hK.out _ _ kvqf9 ?_; clear hK K hHeld; intro hHeld; try simp only [Act.put, List.setIfInBounds_toArray, List.set_cons_zero, List.set_cons_succ]
                refine Tk.R 9 none (.store 28 (.tmp 6) (.tmp 33)) 0 none (fun K hK => ?_)
                have zB := hHeld.2.2.2.2.2.2.2.2.2.2.2.2.2.2.out.1.size
                have d0 := RN.cell 0 rfl
                have d1 := RN.cell 1 rfl
                have d2 := RN.cell 2 rfl
                have d3 := RN.cell 3 rfl
                have d4 := RN.cell 4 rfl
                have d5 := RN.cell 5 rfl
                have d6 := RN.cell 6 rfl
                have d7 := RN.cell 7 rfl
                have d8 := RN.cell 8 rfl
                have f0 := RN.froz 0 rfl
                have f1 := RN.froz 1 rfl
                have f2 := RN.froz 2 rfl
                have f3 := RN.froz 3 rfl
                have f4 := RN.froz 4 rfl
                have f5 := RN.froz 5 rfl
                have f6 := RN.froz 6 rfl
                have f7 := RN.froz 7 rfl
                have f8 := RN.froz 8 rfl
                go_simp
                clear d0 f0 d1 f1 d2 f2 d3 f3 d4 f4 d5 f5 d6 f6 d7 f7 d8 f8
                have bX := Tu.below_over9 (Below.refl XA wX) (g := XA) (Nat.le_refl _) (.int .i64 0) (.int .i64 0) (.int .i64 0) (.int .i64 0) (.int .i64 0) (.int .i64 0) (.slice none 0 0) (.slice none 0 0) (.int .i64 0)
                have ⟨BB_qf10, R0_qf10, T0_qf10⟩ := hHeld.2.2.2.2.2.2.2.2.2.2.2.2.2.2.out
                have BB2_qf10 := Tu.below_over9 BB_qf10 (g := XA) (by omega) (.int .i64 0) (.int .i64 0) (.int .i64 0) (.int .i64 0) (.int .i64 0) (.int .i64 0) (.slice none 0 0) (.slice none 0 0) (.int .i64 0)
                have R02_qf10 := R0_qf10.block (bX.block _ (by omega))
                have T02_qf10 := T0_qf10.block (bX.block _ (by omega))
                have kvqf10 := Tk.kv hK (w := _) ⟨R02_qf10.cell 0 rfl, R02_qf10.cell 1 rfl, R02_qf10.cell 2 rfl, R02_qf10.cell 3 rfl, R02_qf10.cell 4 rfl, R02_qf10.cell 5 rfl, R02_qf10.cell 6 rfl, R02_qf10.cell 7 rfl, R02_qf10.cell 8 rfl, T02_qf10.cell 0 rfl, T02_qf10.cell 1 rfl, T02_qf10.cell 2 rfl, T02_qf10.cell 3 rfl, T02_qf10.cell 4 rfl, ⟨BB2_qf10, R02_qf10, T02_qf10⟩⟩
                replace RN := Rm.over9 RN (.int .i64 0) (.int .i64 0) (.int .i64 0) (.int .i64 0) (.int .i64 0) (.int .i64 0) (.slice none 0 0) (.slice none 0 0) (.int .i64 0)
                clear bX BB_qf10 R0_qf10 T0_qf10 BB2_qf10 R02_qf10 T02_qf10
                try dsimp only
                refine hK.out _ _ kvqf10 ?_; clear hK K hHeld; intro hHeld; try simp only [Act.put, List.setIfInBounds_toArray, List.set_cons_zero, List.set_cons_succ]
                refine Tk.W 10 (some 7) (.assign (.tmp 34)) 4 none ?_
                refine wpAnyH_done (by kernel_rfl) ?_ _
                refine NoPanic.normal ?_
                have qq := hHeld.2.2.2.2.2.2.2.2.2.2.2.2.2.2.out
                clear hHeld
                go_wp2_with fail
                go_meet
                case rel => exact ⟨XA, rfl, rfl, ⟨qq.1, qq.2.1, qq.2.2, RN, by omega⟩⟩
              · go_simp
                have bqf12 : Below wTT.heap.size wTT ((wTT.alloc (.cells #[.int .i64 0, .int .i64 0, .int .i64 0, .int .i64 0, .int .i64 0, .int .i64 0, .slice none 0 0, .slice none 0 0, .int .i64 0] 28))) := (Below.refl wTT.heap.size wTT).alloc (Nat.le_refl _) (.cells #[.int .i64 0, .int .i64 0, .int .i64 0, .int .i64 0, .int .i64 0, .int .i64 0, .slice none 0 0, .slice none 0 0, .int .i64 0] 28)
                have RN : Rm.Room ((wTT.alloc (.cells #[.int .i64 0, .int .i64 0, .int .i64 0, .int .i64 0, .int .i64 0, .int .i64 0, .slice none 0 0, .slice none 0 0, .int .i64 0] 28))) wTT.heap.size [.int .i64 0, .int .i64 0, .int .i64 0, .int .i64 0, .int .i64 0, .int .i64 0, .slice none 0 0, .slice none 0 0, .int .i64 0] := Rm.Room.new wTT [.int .i64 0, .int .i64 0, .int .i64 0, .int .i64 0, .int .i64 0, .int .i64 0, .slice none 0 0, .slice none 0 0, .int .i64 0] 28
                have ⟨BB_qf12, R0_qf12, T0_qf12⟩ := hHeld.2.2.2.2.2.2.2.2.2.2.2.2.2.2.out
                have BB2_qf12 := BB_qf12.trans (bqf12.mono BB_qf12.size)
                have R02_qf12 := R0_qf12.below bqf12
                have T02_qf12 := T0_qf12.below bqf12
                have kvqf12 := Tk.kv hK (w := ((wTT.alloc (.cells #[.int .i64 0, .int .i64 0, .int .i64 0, .int .i64 0, .int .i64 0, .int .i64 0, .slice none 0 0, .slice none 0 0, .int .i64 0] 28)))) ⟨R02_qf12.cell 0 rfl, R02_qf12.cell 1 rfl, R02_qf12.cell 2 rfl, R02_qf12.cell 3 rfl, R02_qf12.cell 4 rfl, R02_qf12.cell 5 rfl, R02_qf12.cell 6 rfl, R02_qf12.cell 7 rfl, R02_qf12.cell 8 rfl, T02_qf12.cell 0 rfl, T02_qf12.cell 1 rfl, T02_qf12.cell 2 rfl, T02_qf12.cell 3 rfl, T02_qf12.cell 4 rfl, ⟨BB2_qf12, R02_qf12, T02_qf12⟩⟩
                replace kK := kK.later bqf12 kK.2.2.1
                replace kO := kO.later bqf12 kO.2.2.1
                replace hT := hT.later bqf12
                clear hTa
                have zn := bqf12.size
                clear bqf12
                clear BB_qf12 R0_qf12 T0_qf12 BB2_qf12 R02_qf12 T02_qf12
                obtain ⟨XA, hX⟩ : ∃ x, x = wTT.heap.size := ⟨_, rfl⟩
                rw [← hX] at RN ⊢
                have hX1 : XA ≤ wTT.heap.size := Nat.le_of_eq hX
                have hX2 : wTT.heap.size ≤ XA := Nat.le_of_eq hX.symm
                clear hX
                have lX : XA < ((wTT.alloc (.cells #[.int .i64 0, .int .i64 0, .int .i64 0, .int .i64 0, .int .i64 0, .int .i64 0, .slice none 0 0, .slice none 0 0, .int .i64 0] 28))).heap.size := RN.lt (by simp)
                generalize (wTT.alloc (.cells #[.int .i64 0, .int .i64 0, .int .i64 0, .int .i64 0, .int .i64 0, .int .i64 0, .slice none 0 0, .slice none 0 0, .int .i64 0] 28)) = wX at kvqf12 RN kK kO hT lX zn ⊢
                have hTa := hT.all
                try dsimp only
                refine hK.out _ _ kvqf12 ?_; clear hK K hHeld; intro hHeld; try simp only [Act.put, List.setIfInBounds_toArray, List.set_cons_zero, List.set_cons_succ]
                refine Tk.R 4 (some 32) (.call ⟨.value (.func 8), #[.tmp 29, .tmp 31], #[28, 32]⟩) 35 none (fun K hK => ?_)
                go_simp
                refine (Tu.s_Turned n l d r p s t _ 0 k k _ m m _ _ _ _ _ nD nD nE nE nL nL nF nF nR nR ks os ds es ls fs rs _ kK.1 kK.2.2.2.1 kK.2.2.1 kO.row hTa.1 hTa.2.1 hTa.2.2.1 hTa.2.2.2.1 hTa.2.2.2.2 hk hm hnF hnR hnD hnE hnL htE htL).mono ?_
                rintro e wTD ⟨⟨hFa, hTr⟩, b_qf13⟩
                have ⟨BB_qf13, R0_qf13, T0_qf13⟩ := hHeld.2.2.2.2.2.2.2.2.2.2.2.2.2.2.out
                have BB2_qf13 := BB_qf13.trans (b_qf13.mono BB_qf13.size)
                have R02_qf13 := R0_qf13.below b_qf13
                have T02_qf13 := T0_qf13.below b_qf13
                have kvqf13 := Tk.kv hK (w := wTD) ⟨R02_qf13.cell 0 rfl, R02_qf13.cell 1 rfl, R02_qf13.cell 2 rfl, R02_qf13.cell 3 rfl, R02_qf13.cell 4 rfl, R02_qf13.cell 5 rfl, R02_qf13.cell 6 rfl, R02_qf13.cell 7 rfl, R02_qf13.cell 8 rfl, T02_qf13.cell 0 rfl, T02_qf13.cell 1 rfl, T02_qf13.cell 2 rfl, T02_qf13.cell 3 rfl, T02_qf13.cell 4 rfl, ⟨BB2_qf13, R02_qf13, T02_qf13⟩⟩
                obtain rfl := hFa hq
                clear hFa hTr
                replace RN := RN.below b_qf13
                clear kK kO hT hTa
                have zz_qf13 := b_qf13.size
                clear BB_qf13 R0_qf13 T0_qf13 BB2_qf13 R02_qf13 T02_qf13
                try dsimp only
                refine hK.out _ _ kvqf13 ?_; clear hK K hHeld; intro hHeld; try simp only [Act.put, List.setIfInBounds_toArray, List.set_cons_zero, List.set_cons_succ]
                refine Tk.W 5 (some 27) (.move (.tmp 32)) 35 none ?_
                refine Tk.W 6 (some 33) (.extract (.tmp 27) 0) 28 none ?_
                refine Tk.W 7 (some 34) (.extract (.tmp 27) 1) 4 none ?_
                refine Tk.R 9 none (.store 28 (.tmp 6) (.tmp 33)) 0 none (fun K hK => ?_)
                have zB := hHeld.2.2.2.2.2.2.2.2.2.2.2.2.2.2.out.1.size
                have d0 := RN.cell 0 rfl
                have d1 := RN.cell 1 rfl
                have d2 := RN.cell 2 rfl
                have d3 := RN.cell 3 rfl
                have d4 := RN.cell 4 rfl
                have d5 := RN.cell 5 rfl
                have d6 := RN.cell 6 rfl
                have d7 := RN.cell 7 rfl
                have d8 := RN.cell 8 rfl
                have f0 := RN.froz 0 rfl
                have f1 := RN.froz 1 rfl
                have f2 := RN.froz 2 rfl
                have f3 := RN.froz 3 rfl
                have f4 := RN.froz 4 rfl
                have f5 := RN.froz 5 rfl
                have f6 := RN.froz 6 rfl
                have f7 := RN.froz 7 rfl
                have f8 := RN.froz 8 rfl
                go_simp
                clear d0 f0 d1 f1 d2 f2 d3 f3 d4 f4 d5 f5 d6 f6 d7 f7 d8 f8
                have bX := Tu.below_over9 (Below.refl XA wTD) (g := XA) (Nat.le_refl _) (.int .i64 0) (.int .i64 0) (.int .i64 0) (.int .i64 0) (.int .i64 0) (.int .i64 0) (.slice none 0 0) (.slice none 0 0) (.int .i64 0)
                have ⟨BB_qf17, R0_qf17, T0_qf17⟩ := hHeld.2.2.2.2.2.2.2.2.2.2.2.2.2.2.out
                have BB2_qf17 := Tu.below_over9 BB_qf17 (g := XA) (by omega) (.int .i64 0) (.int .i64 0) (.int .i64 0) (.int .i64 0) (.int .i64 0) (.int .i64 0) (.slice none 0 0) (.slice none 0 0) (.int .i64 0)
                have R02_qf17 := R0_qf17.block (bX.block _ (by omega))
                have T02_qf17 := T0_qf17.block (bX.block _ (by omega))
                have kvqf17 := Tk.kv hK (w := _) ⟨R02_qf17.cell 0 rfl, R02_qf17.cell 1 rfl, R02_qf17.cell 2 rfl, R02_qf17.cell 3 rfl, R02_qf17.cell 4 rfl, R02_qf17.cell 5 rfl, R02_qf17.cell 6 rfl, R02_qf17.cell 7 rfl, R02_qf17.cell 8 rfl, T02_qf17.cell 0 rfl, T02_qf17.cell 1 rfl, T02_qf17.cell 2 rfl, T02_qf17.cell 3 rfl, T02_qf17.cell 4 rfl, ⟨BB2_qf17, R02_qf17, T02_qf17⟩⟩
                replace RN := Rm.over9 RN (.int .i64 0) (.int .i64 0) (.int .i64 0) (.int .i64 0) (.int .i64 0) (.int .i64 0) (.slice none 0 0) (.slice none 0 0) (.int .i64 0)
                clear bX BB_qf17 R0_qf17 T0_qf17 BB2_qf17 R02_qf17 T02_qf17
                try dsimp only
                refine hK.out _ _ kvqf17 ?_; clear hK K hHeld; intro hHeld; try simp only [Act.put, List.setIfInBounds_toArray, List.set_cons_zero, List.set_cons_succ]
                refine Tk.W 10 (some 7) (.assign (.tmp 34)) 4 none ?_
                refine wpAnyH_done (by kernel_rfl) ?_ _
                refine NoPanic.normal ?_
                have qq := hHeld.2.2.2.2.2.2.2.2.2.2.2.2.2.2.out
                clear hHeld
                go_wp2_with fail
                go_meet
                case rel => exact ⟨XA, rfl, rfl, ⟨qq.1, qq.2.1, qq.2.2, RN, by omega⟩⟩
            · go_simp
              have bqf19 : Below wTW.heap.size wTW ((wTW.alloc (.cells #[.int .i64 0, .int .i64 0, .int .i64 0, .int .i64 0, .int .i64 0, .int .i64 0, .slice none 0 0, .slice none 0 0, .int .i64 0] 28))) := (Below.refl wTW.heap.size wTW).alloc (Nat.le_refl _) (.cells #[.int .i64 0, .int .i64 0, .int .i64 0, .int .i64 0, .int .i64 0, .int .i64 0, .slice none 0 0, .slice none 0 0, .int .i64 0] 28)
              have RN : Rm.Room ((wTW.alloc (.cells #[.int .i64 0, .int .i64 0, .int .i64 0, .int .i64 0, .int .i64 0, .int .i64 0, .slice none 0 0, .slice none 0 0, .int .i64 0] 28))) wTW.heap.size [.int .i64 0, .int .i64 0, .int .i64 0, .int .i64 0, .int .i64 0, .int .i64 0, .slice none 0 0, .slice none 0 0, .int .i64 0] := Rm.Room.new wTW [.int .i64 0, .int .i64 0, .int .i64 0, .int .i64 0, .int .i64 0, .int .i64 0, .slice none 0 0, .slice none 0 0, .int .i64 0] 28
              have ⟨BB_qf19, R0_qf19, T0_qf19⟩ := hHeld.2.2.2.2.2.2.2.2.2.2.2.2.2.2.out
              have BB2_qf19 := BB_qf19.trans (bqf19.mono BB_qf19.size)
              have R02_qf19 := R0_qf19.below bqf19
              have T02_qf19 := T0_qf19.below bqf19
              have kvqf19 := Tk.kv hK (w := ((wTW.alloc (.cells #[.int .i64 0, .int .i64 0, .int .i64 0, .int .i64 0, .int .i64 0, .int .i64 0, .slice none 0 0, .slice none 0 0, .int .i64 0] 28)))) ⟨R02_qf19.cell 0 rfl, R02_qf19.cell 1 rfl, R02_qf19.cell 2 rfl, R02_qf19.cell 3 rfl, R02_qf19.cell 4 rfl, R02_qf19.cell 5 rfl, R02_qf19.cell 6 rfl, R02_qf19.cell 7 rfl, R02_qf19.cell 8 rfl, T02_qf19.cell 0 rfl, T02_qf19.cell 1 rfl, T02_qf19.cell 2 rfl, T02_qf19.cell 3 rfl, T02_qf19.cell 4 rfl, ⟨BB2_qf19, R02_qf19, T02_qf19⟩⟩
              replace kK := kK.later bqf19 kK.2.2.1
              replace kO := kO.later bqf19 kO.2.2.1
              have zn := bqf19.size
              clear bqf19
              clear BB_qf19 R0_qf19 T0_qf19 BB2_qf19 R02_qf19 T02_qf19
              obtain ⟨XA, hX⟩ : ∃ x, x = wTW.heap.size := ⟨_, rfl⟩
              rw [← hX] at RN ⊢
              have hX1 : XA ≤ wTW.heap.size := Nat.le_of_eq hX
              have hX2 : wTW.heap.size ≤ XA := Nat.le_of_eq hX.symm
              clear hX
              have lX : XA < ((wTW.alloc (.cells #[.int .i64 0, .int .i64 0, .int .i64 0, .int .i64 0, .int .i64 0, .int .i64 0, .slice none 0 0, .slice none 0 0, .int .i64 0] 28))).heap.size := RN.lt (by simp)
              generalize (wTW.alloc (.cells #[.int .i64 0, .int .i64 0, .int .i64 0, .int .i64 0, .int .i64 0, .int .i64 0, .slice none 0 0, .slice none 0 0, .int .i64 0] 28)) = wX at kvqf19 RN kK kO lX zn ⊢
              try dsimp only
              refine hK.out _ _ kvqf19 ?_; clear hK K hHeld; intro hHeld; try simp only [Act.put, List.setIfInBounds_toArray, List.set_cons_zero, List.set_cons_succ]
              refine Tk.R 3 (some 31) (.call ⟨.value (.func 19), #[.tmp 30], #[48]⟩) 32 none (fun K hK => ?_)
              go_simp
              refine (Tu.toTurn aD aE aL aF aR nD cD nE cE nL cL nF cF nR cR ds es ls fs rs _ ((rD.later hHeld.2.2.2.2.2.2.2.2.2.2.2.2.2.2.out.1 (Nat.le_refl _)).more hHeld.2.2.2.2.2.2.2.2.2.2.2.2.2.2.out.1.size) ((rE.later hHeld.2.2.2.2.2.2.2.2.2.2.2.2.2.2.out.1 (Nat.le_refl _)).more hHeld.2.2.2.2.2.2.2.2.2.2.2.2.2.2.out.1.size) ((rL.later hHeld.2.2.2.2.2.2.2.2.2.2.2.2.2.2.out.1 (Nat.le_refl _)).more hHeld.2.2.2.2.2.2.2.2.2.2.2.2.2.2.out.1.size) ((rF.later hHeld.2.2.2.2.2.2.2.2.2.2.2.2.2.2.out.1 (Nat.le_refl _)).more hHeld.2.2.2.2.2.2.2.2.2.2.2.2.2.2.out.1.size) ((rR.later hHeld.2.2.2.2.2.2.2.2.2.2.2.2.2.2.out.1 (Nat.le_refl _)).more hHeld.2.2.2.2.2.2.2.2.2.2.2.2.2.2.out.1.size) hz).mono ?_
              rintro e wTT ⟨⟨g0, g1, g2, g3, g4, rfl, hT⟩, b_qf20⟩
              have ⟨BB_qf20, R0_qf20, T0_qf20⟩ := hHeld.2.2.2.2.2.2.2.2.2.2.2.2.2.2.out
              have BB2_qf20 := BB_qf20.trans (b_qf20.mono BB_qf20.size)
              have R02_qf20 := R0_qf20.below b_qf20
              have T02_qf20 := T0_qf20.below b_qf20
              have kvqf20 := Tk.kv hK (w := wTT) ⟨R02_qf20.cell 0 rfl, R02_qf20.cell 1 rfl, R02_qf20.cell 2 rfl, R02_qf20.cell 3 rfl, R02_qf20.cell 4 rfl, R02_qf20.cell 5 rfl, R02_qf20.cell 6 rfl, R02_qf20.cell 7 rfl, R02_qf20.cell 8 rfl, T02_qf20.cell 0 rfl, T02_qf20.cell 1 rfl, T02_qf20.cell 2 rfl, T02_qf20.cell 3 rfl, T02_qf20.cell 4 rfl, ⟨BB2_qf20, R02_qf20, T02_qf20⟩⟩
              replace RN := RN.below b_qf20
              replace kK := kK.later b_qf20 kK.2.2.1
              replace kO := kO.later b_qf20 kO.2.2.1
              have hTa := hT.all
              have zz_qf20 := b_qf20.size
              clear BB_qf20 R0_qf20 T0_qf20 BB2_qf20 R02_qf20 T02_qf20
              try dsimp only
              refine hK.out _ _ kvqf20 ?_; clear hK K hHeld; intro hHeld; try simp only [Act.put, List.setIfInBounds_toArray, List.set_cons_zero, List.set_cons_succ]
              refine Tk.R 4 (some 32) (.call ⟨.value (.func 8), #[.tmp 29, .tmp 31], #[28, 32]⟩) 35 none (fun K hK => ?_)
              go_simp
              refine (Tu.s_Turned n l d r p s t _ 0 k k _ m m _ _ _ _ _ nD nD nE nE nL nL nF nF nR nR ks os ds es ls fs rs _ kK.1 kK.2.2.2.1 kK.2.2.1 kO.row hTa.1 hTa.2.1 hTa.2.2.1 hTa.2.2.2.1 hTa.2.2.2.2 hk hm hnF hnR hnD hnE hnL htE htL).mono ?_
              rintro e wTD ⟨⟨hFa, hTr⟩, b_qf21⟩
              have ⟨BB_qf21, R0_qf21, T0_qf21⟩ := hHeld.2.2.2.2.2.2.2.2.2.2.2.2.2.2.out
              have BB2_qf21 := BB_qf21.trans (b_qf21.mono BB_qf21.size)
              have R02_qf21 := R0_qf21.below b_qf21
              have T02_qf21 := T0_qf21.below b_qf21
              have kvqf21 := Tk.kv hK (w := wTD) ⟨R02_qf21.cell 0 rfl, R02_qf21.cell 1 rfl, R02_qf21.cell 2 rfl, R02_qf21.cell 3 rfl, R02_qf21.cell 4 rfl, R02_qf21.cell 5 rfl, R02_qf21.cell 6 rfl, R02_qf21.cell 7 rfl, R02_qf21.cell 8 rfl, T02_qf21.cell 0 rfl, T02_qf21.cell 1 rfl, T02_qf21.cell 2 rfl, T02_qf21.cell 3 rfl, T02_qf21.cell 4 rfl, ⟨BB2_qf21, R02_qf21, T02_qf21⟩⟩
              obtain rfl := hFa hq
              clear hFa hTr
              replace RN := RN.below b_qf21
              clear kK kO hT hTa
              have zz_qf21 := b_qf21.size
              clear BB_qf21 R0_qf21 T0_qf21 BB2_qf21 R02_qf21 T02_qf21
              try dsimp only
              refine hK.out _ _ kvqf21 ?_; clear hK K hHeld; intro hHeld; try simp only [Act.put, List.setIfInBounds_toArray, List.set_cons_zero, List.set_cons_succ]
              refine Tk.W 5 (some 27) (.move (.tmp 32)) 35 none ?_
              refine Tk.W 6 (some 33) (.extract (.tmp 27) 0) 28 none ?_
              refine Tk.W 7 (some 34) (.extract (.tmp 27) 1) 4 none ?_
              refine Tk.R 9 none (.store 28 (.tmp 6) (.tmp 33)) 0 none (fun K hK => ?_)
              have zB := hHeld.2.2.2.2.2.2.2.2.2.2.2.2.2.2.out.1.size
              have d0 := RN.cell 0 rfl
              have d1 := RN.cell 1 rfl
              have d2 := RN.cell 2 rfl
              have d3 := RN.cell 3 rfl
              have d4 := RN.cell 4 rfl
              have d5 := RN.cell 5 rfl
              have d6 := RN.cell 6 rfl
              have d7 := RN.cell 7 rfl
              have d8 := RN.cell 8 rfl
              have f0 := RN.froz 0 rfl
              have f1 := RN.froz 1 rfl
              have f2 := RN.froz 2 rfl
              have f3 := RN.froz 3 rfl
              have f4 := RN.froz 4 rfl
              have f5 := RN.froz 5 rfl
              have f6 := RN.froz 6 rfl
              have f7 := RN.froz 7 rfl
              have f8 := RN.froz 8 rfl
              go_simp
              clear d0 f0 d1 f1 d2 f2 d3 f3 d4 f4 d5 f5 d6 f6 d7 f7 d8 f8
              have bX := Tu.below_over9 (Below.refl XA wTD) (g := XA) (Nat.le_refl _) (.int .i64 0) (.int .i64 0) (.int .i64 0) (.int .i64 0) (.int .i64 0) (.int .i64 0) (.slice none 0 0) (.slice none 0 0) (.int .i64 0)
              have ⟨BB_qf25, R0_qf25, T0_qf25⟩ := hHeld.2.2.2.2.2.2.2.2.2.2.2.2.2.2.out
              have BB2_qf25 := Tu.below_over9 BB_qf25 (g := XA) (by omega) (.int .i64 0) (.int .i64 0) (.int .i64 0) (.int .i64 0) (.int .i64 0) (.int .i64 0) (.slice none 0 0) (.slice none 0 0) (.int .i64 0)
              have R02_qf25 := R0_qf25.block (bX.block _ (by omega))
              have T02_qf25 := T0_qf25.block (bX.block _ (by omega))
              have kvqf25 := Tk.kv hK (w := _) ⟨R02_qf25.cell 0 rfl, R02_qf25.cell 1 rfl, R02_qf25.cell 2 rfl, R02_qf25.cell 3 rfl, R02_qf25.cell 4 rfl, R02_qf25.cell 5 rfl, R02_qf25.cell 6 rfl, R02_qf25.cell 7 rfl, R02_qf25.cell 8 rfl, T02_qf25.cell 0 rfl, T02_qf25.cell 1 rfl, T02_qf25.cell 2 rfl, T02_qf25.cell 3 rfl, T02_qf25.cell 4 rfl, ⟨BB2_qf25, R02_qf25, T02_qf25⟩⟩
              replace RN := Rm.over9 RN (.int .i64 0) (.int .i64 0) (.int .i64 0) (.int .i64 0) (.int .i64 0) (.int .i64 0) (.slice none 0 0) (.slice none 0 0) (.int .i64 0)
              clear bX BB_qf25 R0_qf25 T0_qf25 BB2_qf25 R02_qf25 T02_qf25
              try dsimp only
              refine hK.out _ _ kvqf25 ?_; clear hK K hHeld; intro hHeld; try simp only [Act.put, List.setIfInBounds_toArray, List.set_cons_zero, List.set_cons_succ]
              refine Tk.W 10 (some 7) (.assign (.tmp 34)) 4 none ?_
              refine wpAnyH_done (by kernel_rfl) ?_ _
              refine NoPanic.normal ?_
              have qq := hHeld.2.2.2.2.2.2.2.2.2.2.2.2.2.2.out
              clear hHeld
              go_wp2_with fail
              go_meet
              case rel => exact ⟨XA, rfl, rfl, ⟨qq.1, qq.2.1, qq.2.2, RN, by omega⟩⟩
          · go_simp
            have bqf27 : Below w3.drew.heap.size w3.drew ((w3.alloc (.cells #[.int .i64 0, .int .i64 0, .int .i64 0, .int .i64 0, .int .i64 0, .int .i64 0, .slice none 0 0, .slice none 0 0, .int .i64 0] 28)).drew) := (Below.refl w3.drew.heap.size w3.drew).alloc (Nat.le_refl _) (.cells #[.int .i64 0, .int .i64 0, .int .i64 0, .int .i64 0, .int .i64 0, .int .i64 0, .slice none 0 0, .slice none 0 0, .int .i64 0] 28)
            have RN : Rm.Room ((w3.alloc (.cells #[.int .i64 0, .int .i64 0, .int .i64 0, .int .i64 0, .int .i64 0, .int .i64 0, .slice none 0 0, .slice none 0 0, .int .i64 0] 28)).drew) w3.heap.size [.int .i64 0, .int .i64 0, .int .i64 0, .int .i64 0, .int .i64 0, .int .i64 0, .slice none 0 0, .slice none 0 0, .int .i64 0] := Rm.Room.new w3.drew [.int .i64 0, .int .i64 0, .int .i64 0, .int .i64 0, .int .i64 0, .int .i64 0, .slice none 0 0, .slice none 0 0, .int .i64 0] 28
            have ⟨BB_qf27, R0_qf27, T0_qf27⟩ := hHeld.2.2.2.2.2.2.2.2.2.2.2.2.2.2.out
            have BB2_qf27 := BB_qf27.trans (bqf27.mono BB_qf27.size)
            have R02_qf27 := R0_qf27.below bqf27
            have T02_qf27 := T0_qf27.below bqf27
            have kvqf27 := Tk.kv hK (w := ((w3.alloc (.cells #[.int .i64 0, .int .i64 0, .int .i64 0, .int .i64 0, .int .i64 0, .int .i64 0, .slice none 0 0, .slice none 0 0, .int .i64 0] 28)).drew)) ⟨R02_qf27.cell 0 rfl, R02_qf27.cell 1 rfl, R02_qf27.cell 2 rfl, R02_qf27.cell 3 rfl, R02_qf27.cell 4 rfl, R02_qf27.cell 5 rfl, R02_qf27.cell 6 rfl, R02_qf27.cell 7 rfl, R02_qf27.cell 8 rfl, T02_qf27.cell 0 rfl, T02_qf27.cell 1 rfl, T02_qf27.cell 2 rfl, T02_qf27.cell 3 rfl, T02_qf27.cell 4 rfl, ⟨BB2_qf27, R02_qf27, T02_qf27⟩⟩
            have zn := bqf27.size
            clear bqf27
            clear BB_qf27 R0_qf27 T0_qf27 BB2_qf27 R02_qf27 T02_qf27
            obtain ⟨XA, hX⟩ : ∃ x, x = w3.heap.size := ⟨_, rfl⟩
            rw [← hX] at RN ⊢
            have hX1 : XA ≤ w3.heap.size := Nat.le_of_eq hX
            have hX2 : w3.heap.size ≤ XA := Nat.le_of_eq hX.symm
            clear hX
            have lX : XA < ((w3.alloc (.cells #[.int .i64 0, .int .i64 0, .int .i64 0, .int .i64 0, .int .i64 0, .int .i64 0, .slice none 0 0, .slice none 0 0, .int .i64 0] 28)).drew).heap.size := RN.lt (by simp)
            generalize (w3.alloc (.cells #[.int .i64 0, .int .i64 0, .int .i64 0, .int .i64 0, .int .i64 0, .int .i64 0, .slice none 0 0, .slice none 0 0, .int .i64 0] 28)).drew = wX at kvqf27 RN lX zn ⊢
            try dsimp only
            refine hK.out _ _ kvqf27 ?_; clear hK K hHeld; intro hHeld; try simp only [Act.put, List.setIfInBounds_toArray, List.set_cons_zero, List.set_cons_succ]
            refine Tk.R 1 (some 29) (.call ⟨.value (.func 18), #[.tmp 28], #[47]⟩) 28 none (fun K hK => ?_)
            go_simp
            refine (Wl.toWorld n l d r p s t a b k ka m mb ks os _ ((hr.later hHeld.2.2.2.2.2.2.2.2.2.2.2.2.2.2.out.1 (Nat.le_refl _)).more hHeld.2.2.2.2.2.2.2.2.2.2.2.2.2.2.out.1.size) ((hs.later hHeld.2.2.2.2.2.2.2.2.2.2.2.2.2.2.out.1 (Nat.le_refl _)).more hHeld.2.2.2.2.2.2.2.2.2.2.2.2.2.2.out.1.size) hk hm).mono ?_
            rintro e wTW ⟨⟨gk, go, rfl, kK, kO, _⟩, b_qf28⟩
            have ⟨BB_qf28, R0_qf28, T0_qf28⟩ := hHeld.2.2.2.2.2.2.2.2.2.2.2.2.2.2.out
            have BB2_qf28 := BB_qf28.trans (b_qf28.mono BB_qf28.size)
            have R02_qf28 := R0_qf28.below b_qf28
            have T02_qf28 := T0_qf28.below b_qf28
            have kvqf28 := Tk.kv hK (w := wTW) ⟨R02_qf28.cell 0 rfl, R02_qf28.cell 1 rfl, R02_qf28.cell 2 rfl, R02_qf28.cell 3 rfl, R02_qf28.cell 4 rfl, R02_qf28.cell 5 rfl, R02_qf28.cell 6 rfl, R02_qf28.cell 7 rfl, R02_qf28.cell 8 rfl, T02_qf28.cell 0 rfl, T02_qf28.cell 1 rfl, T02_qf28.cell 2 rfl, T02_qf28.cell 3 rfl, T02_qf28.cell 4 rfl, ⟨BB2_qf28, R02_qf28, T02_qf28⟩⟩
            replace RN := RN.below b_qf28
            have zz_qf28 := b_qf28.size
            clear BB_qf28 R0_qf28 T0_qf28 BB2_qf28 R02_qf28 T02_qf28
            try dsimp only
            refine hK.out _ _ kvqf28 ?_; clear hK K hHeld; intro hHeld; try simp only [Act.put, List.setIfInBounds_toArray, List.set_cons_zero, List.set_cons_succ]
            refine Tk.R 3 (some 31) (.call ⟨.value (.func 19), #[.tmp 30], #[48]⟩) 32 none (fun K hK => ?_)
            go_simp
            refine (Tu.toTurn aD aE aL aF aR nD cD nE cE nL cL nF cF nR cR ds es ls fs rs _ ((rD.later hHeld.2.2.2.2.2.2.2.2.2.2.2.2.2.2.out.1 (Nat.le_refl _)).more hHeld.2.2.2.2.2.2.2.2.2.2.2.2.2.2.out.1.size) ((rE.later hHeld.2.2.2.2.2.2.2.2.2.2.2.2.2.2.out.1 (Nat.le_refl _)).more hHeld.2.2.2.2.2.2.2.2.2.2.2.2.2.2.out.1.size) ((rL.later hHeld.2.2.2.2.2.2.2.2.2.2.2.2.2.2.out.1 (Nat.le_refl _)).more hHeld.2.2.2.2.2.2.2.2.2.2.2.2.2.2.out.1.size) ((rF.later hHeld.2.2.2.2.2.2.2.2.2.2.2.2.2.2.out.1 (Nat.le_refl _)).more hHeld.2.2.2.2.2.2.2.2.2.2.2.2.2.2.out.1.size) ((rR.later hHeld.2.2.2.2.2.2.2.2.2.2.2.2.2.2.out.1 (Nat.le_refl _)).more hHeld.2.2.2.2.2.2.2.2.2.2.2.2.2.2.out.1.size) hz).mono ?_
            rintro e wTT ⟨⟨g0, g1, g2, g3, g4, rfl, hT⟩, b_qf29⟩
            have ⟨BB_qf29, R0_qf29, T0_qf29⟩ := hHeld.2.2.2.2.2.2.2.2.2.2.2.2.2.2.out
            have BB2_qf29 := BB_qf29.trans (b_qf29.mono BB_qf29.size)
            have R02_qf29 := R0_qf29.below b_qf29
            have T02_qf29 := T0_qf29.below b_qf29
            have kvqf29 := Tk.kv hK (w := wTT) ⟨R02_qf29.cell 0 rfl, R02_qf29.cell 1 rfl, R02_qf29.cell 2 rfl, R02_qf29.cell 3 rfl, R02_qf29.cell 4 rfl, R02_qf29.cell 5 rfl, R02_qf29.cell 6 rfl, R02_qf29.cell 7 rfl, R02_qf29.cell 8 rfl, T02_qf29.cell 0 rfl, T02_qf29.cell 1 rfl, T02_qf29.cell 2 rfl, T02_qf29.cell 3 rfl, T02_qf29.cell 4 rfl, ⟨BB2_qf29, R02_qf29, T02_qf29⟩⟩
            replace RN := RN.below b_qf29
            replace kK := kK.later b_qf29 kK.2.2.1
            replace kO := kO.later b_qf29 kO.2.2.1
            have hTa := hT.all
            have zz_qf29 := b_qf29.size
            clear BB_qf29 R0_qf29 T0_qf29 BB2_qf29 R02_qf29 T02_qf29
            try dsimp only
            refine hK.out _ _ kvqf29 ?_; clear hK K hHeld; intro hHeld; try simp only [Act.put, List.setIfInBounds_toArray, List.set_cons_zero, List.set_cons_succ]
            refine Tk.R 4 (some 32) (.call ⟨.value (.func 8), #[.tmp 29, .tmp 31], #[28, 32]⟩) 35 none (fun K hK => ?_)
            go_simp
            refine (Tu.s_Turned n l d r p s t _ 0 k k _ m m _ _ _ _ _ nD nD nE nE nL nL nF nF nR nR ks os ds es ls fs rs _ kK.1 kK.2.2.2.1 kK.2.2.1 kO.row hTa.1 hTa.2.1 hTa.2.2.1 hTa.2.2.2.1 hTa.2.2.2.2 hk hm hnF hnR hnD hnE hnL htE htL).mono ?_
            rintro e wTD ⟨⟨hFa, hTr⟩, b_qf30⟩
            have ⟨BB_qf30, R0_qf30, T0_qf30⟩ := hHeld.2.2.2.2.2.2.2.2.2.2.2.2.2.2.out
            have BB2_qf30 := BB_qf30.trans (b_qf30.mono BB_qf30.size)
            have R02_qf30 := R0_qf30.below b_qf30
            have T02_qf30 := T0_qf30.below b_qf30
            have kvqf30 := Tk.kv hK (w := wTD) ⟨R02_qf30.cell 0 rfl, R02_qf30.cell 1 rfl, R02_qf30.cell 2 rfl, R02_qf30.cell 3 rfl, R02_qf30.cell 4 rfl, R02_qf30.cell 5 rfl, R02_qf30.cell 6 rfl, R02_qf30.cell 7 rfl, R02_qf30.cell 8 rfl, T02_qf30.cell 0 rfl, T02_qf30.cell 1 rfl, T02_qf30.cell 2 rfl, T02_qf30.cell 3 rfl, T02_qf30.cell 4 rfl, ⟨BB2_qf30, R02_qf30, T02_qf30⟩⟩
            obtain rfl := hFa hq
            clear hFa hTr
            replace RN := RN.below b_qf30
            clear kK kO hT hTa
            have zz_qf30 := b_qf30.size
            clear BB_qf30 R0_qf30 T0_qf30 BB2_qf30 R02_qf30 T02_qf30
            try dsimp only
            refine hK.out _ _ kvqf30 ?_; clear hK K hHeld; intro hHeld; try simp only [Act.put, List.setIfInBounds_toArray, List.set_cons_zero, List.set_cons_succ]
            refine Tk.W 5 (some 27) (.move (.tmp 32)) 35 none ?_
            refine Tk.W 6 (some 33) (.extract (.tmp 27) 0) 28 none ?_
            refine Tk.W 7 (some 34) (.extract (.tmp 27) 1) 4 none ?_
            refine Tk.R 9 none (.store 28 (.tmp 6) (.tmp 33)) 0 none (fun K hK => ?_)
            have zB := hHeld.2.2.2.2.2.2.2.2.2.2.2.2.2.2.out.1.size
            have d0 := RN.cell 0 rfl
            have d1 := RN.cell 1 rfl
            have d2 := RN.cell 2 rfl
            have d3 := RN.cell 3 rfl
            have d4 := RN.cell 4 rfl
            have d5 := RN.cell 5 rfl
            have d6 := RN.cell 6 rfl
            have d7 := RN.cell 7 rfl
            have d8 := RN.cell 8 rfl
            have f0 := RN.froz 0 rfl
            have f1 := RN.froz 1 rfl
            have f2 := RN.froz 2 rfl
            have f3 := RN.froz 3 rfl
            have f4 := RN.froz 4 rfl
            have f5 := RN.froz 5 rfl
            have f6 := RN.froz 6 rfl
            have f7 := RN.froz 7 rfl
            have f8 := RN.froz 8 rfl
            go_simp
            clear d0 f0 d1 f1 d2 f2 d3 f3 d4 f4 d5 f5 d6 f6 d7 f7 d8 f8
            have bX := Tu.below_over9 (Below.refl XA wTD) (g := XA) (Nat.le_refl _) (.int .i64 0) (.int .i64 0) (.int .i64 0) (.int .i64 0) (.int .i64 0) (.int .i64 0) (.slice none 0 0) (.slice none 0 0) (.int .i64 0)
            have ⟨BB_qf34, R0_qf34, T0_qf34⟩ := hHeld.2.2.2.2.2.2.2.2.2.2.2.2.2.2.out
            have BB2_qf34 := Tu.below_over9 BB_qf34 (g := XA) (by omega) (.int .i64 0) (.int .i64 0) (.int .i64 0) (.int .i64 0) (.int .i64 0) (.int .i64 0) (.slice none 0 0) (.slice none 0 0) (.int .i64 0)
            have R02_qf34 := R0_qf34.block (bX.block _ (by omega))
            have T02_qf34 := T0_qf34.block (bX.block _ (by omega))
            have kvqf34 := Tk.kv hK (w := _) ⟨R02_qf34.cell 0 rfl, R02_qf34.cell 1 rfl, R02_qf34.cell 2 rfl, R02_qf34.cell 3 rfl, R02_qf34.cell 4 rfl, R02_qf34.cell 5 rfl, R02_qf34.cell 6 rfl, R02_qf34.cell 7 rfl, R02_qf34.cell 8 rfl, T02_qf34.cell 0 rfl, T02_qf34.cell 1 rfl, T02_qf34.cell 2 rfl, T02_qf34.cell 3 rfl, T02_qf34.cell 4 rfl, ⟨BB2_qf34, R02_qf34, T02_qf34⟩⟩
            replace RN := Rm.over9 RN (.int .i64 0) (.int .i64 0) (.int .i64 0) (.int .i64 0) (.int .i64 0) (.int .i64 0) (.slice none 0 0) (.slice none 0 0) (.int .i64 0)
            clear bX BB_qf34 R0_qf34 T0_qf34 BB2_qf34 R02_qf34 T02_qf34
            try dsimp only
            refine hK.out _ _ kvqf34 ?_; clear hK K hHeld; intro hHeld; try simp only [Act.put, List.setIfInBounds_toArray, List.set_cons_zero, List.set_cons_succ]
            refine Tk.W 10 (some 7) (.assign (.tmp 34)) 4 none ?_
            refine wpAnyH_done (by kernel_rfl) ?_ _
            refine NoPanic.normal ?_
            have qq := hHeld.2.2.2.2.2.2.2.2.2.2.2.2.2.2.out
            clear hHeld
            go_wp2_with fail
            go_meet
            case rel => exact ⟨XA, rfl, rfl, ⟨qq.1, qq.2.1, qq.2.2, RN, by omega⟩⟩
        case rest =>
          obtain ⟨XA, rfl, rfl, Hc⟩ := hcut
          clear BB R0 T0
          obtain ⟨BB, R0, T0, RA, l5A⟩ := Hc.out
          clear Hc
          have hi3A := RA.lt (by simp)
          obtain ⟨w4, e4⟩ : ∃ w4, w4 = wc := ⟨_, rfl⟩
          subst e4
          have lT4 := T0.lt (by simp)
          have cR00 := R0.cell 0 rfl
          have cR01 := R0.cell 1 rfl
          have cR02 := R0.cell 2 rfl
          have cR03 := R0.cell 3 rfl
          have cR04 := R0.cell 4 rfl
          have cR05 := R0.cell 5 rfl
          have cR06 := R0.cell 6 rfl
          have cR07 := R0.cell 7 rfl
          have cR08 := R0.cell 8 rfl
          have lR0 := R0.lt (by simp)
          go_wp2_with fail
          refine (Wl.toWorld n l d r p s t a b k ka m mb ks os _ ((hr.later BB (Nat.le_refl _)).more BB.size) ((hs.later BB (Nat.le_refl _)).more BB.size) hk hm).mono ?_
          rintro e w5 ⟨⟨gX, hX, rfl, kX, oX, ghX⟩, b5⟩
          clear cR00 cR01 cR02 cR03 cR04 cR05 cR06 cR07 cR08 lR0
          have z_b5 := b5.size
          (try simp at z_b5)
          replace R0 := R0.below b5
          replace T0 := T0.below b5
          replace RA := RA.below b5
          replace BB := BB.trans (b5.mono BB.size)
          have loK := kX.2.1
          have hiK := kX.2.2.1
          have loO := oX.2.1
          have hiO := oX.2.2.1
          have cR00 := R0.cell 0 rfl
          have cR01 := R0.cell 1 rfl
          have cR02 := R0.cell 2 rfl
          have cR03 := R0.cell 3 rfl
          have cR04 := R0.cell 4 rfl
          have cR05 := R0.cell 5 rfl
          have cR06 := R0.cell 6 rfl
          have cR07 := R0.cell 7 rfl
          have cR08 := R0.cell 8 rfl
          have lR0 := R0.lt (by simp)
          have cT00 := T0.cell 0 rfl
          have cT01 := T0.cell 1 rfl
          have cT02 := T0.cell 2 rfl
          have cT03 := T0.cell 3 rfl
          have cT04 := T0.cell 4 rfl
          have lT0 := T0.lt (by simp)
          have cRA0 := RA.cell 0 rfl
          have cRA1 := RA.cell 1 rfl
          have cRA2 := RA.cell 2 rfl
          have cRA3 := RA.cell 3 rfl
          have cRA4 := RA.cell 4 rfl
          have cRA5 := RA.cell 5 rfl
          have cRA6 := RA.cell 6 rfl
          have cRA7 := RA.cell 7 rfl
          have cRA8 := RA.cell 8 rfl
          have lRA := RA.lt (by simp)
          go_wp2_with fail
          have bn1 := (Below.refl w5.heap.size w5).alloc (Nat.le_refl _) (.cells #[.int .i64 n, .int .i64 l, .int .i64 d, .int .i64 r, .int .i64 p, .int .i64 s, .slice (some ⟨gX, 0, none⟩) k k, .slice (some ⟨hX, 0, none⟩) m m, .int .i64 t] 28)
          have z_bn1 := bn1.size
          have RX := Rm.Room.new w5 [.int .i64 n, .int .i64 l, .int .i64 d, .int .i64 r, .int .i64 p, .int .i64 s, .slice (some ⟨gX, 0, none⟩) k k, .slice (some ⟨hX, 0, none⟩) m m, .int .i64 t] 28
          replace R0 := R0.below bn1
          replace T0 := T0.below bn1
          replace RA := RA.below bn1
          replace kX := kX.later bn1 kX.2.2.1
          replace oX := oX.later bn1 oX.2.2.1
          replace BB := BB.trans (bn1.mono BB.size)
          clear cR00 cR01 cR02 cR03 cR04 cR05 cR06 cR07 cR08 lR0 cT00 cT01 cT02 cT03 cT04 lT0 cRA0 cRA1 cRA2 cRA3 cRA4 cRA5 cRA6 cRA7 cRA8 lRA
          refine (Tu.toTurn aD aE aL aF aR nD cD nE cE nL cL nF cF nR cR ds es ls fs rs _ ((rD.later BB (Nat.le_refl _)).more BB.size) ((rE.later BB (Nat.le_refl _)).more BB.size) ((rL.later BB (Nat.le_refl _)).more BB.size) ((rF.later BB (Nat.le_refl _)).more BB.size) ((rR.later BB (Nat.le_refl _)).more BB.size) hz).mono ?_
          rintro e w6 ⟨⟨y0, y1, y2, y3, y4, rfl, hY⟩, b6⟩
          have z_b6 := b6.size
          (try simp at z_b6)
          replace R0 := R0.below b6
          replace T0 := T0.below b6
          replace RA := RA.below b6
          replace RX := RX.below b6
          replace kX := kX.later b6 kX.2.2.1
          replace oX := oX.later b6 oX.2.2.1
          replace BB := BB.trans (b6.mono BB.size)
          replace hY : Tu.HasT w6 (w5.heap.size + 1) w6.heap.size y0 y1 y2 y3 y4 nD nE nL nF nR ds es ls fs rs := by simpa using hY
          have cR00 := R0.cell 0 rfl
          have cR01 := R0.cell 1 rfl
          have cR02 := R0.cell 2 rfl
          have cR03 := R0.cell 3 rfl
          have cR04 := R0.cell 4 rfl
          have cR05 := R0.cell 5 rfl
          have cR06 := R0.cell 6 rfl
          have cR07 := R0.cell 7 rfl
          have cR08 := R0.cell 8 rfl
          have lR0 := R0.lt (by simp)
          have cT00 := T0.cell 0 rfl
          have cT01 := T0.cell 1 rfl
          have cT02 := T0.cell 2 rfl
          have cT03 := T0.cell 3 rfl
          have cT04 := T0.cell 4 rfl
          have lT0 := T0.lt (by simp)
          have cRA0 := RA.cell 0 rfl
          have cRA1 := RA.cell 1 rfl
          have cRA2 := RA.cell 2 rfl
          have cRA3 := RA.cell 3 rfl
          have cRA4 := RA.cell 4 rfl
          have cRA5 := RA.cell 5 rfl
          have cRA6 := RA.cell 6 rfl
          have cRA7 := RA.cell 7 rfl
          have cRA8 := RA.cell 8 rfl
          have lRA := RA.lt (by simp)
          have cRX0 := RX.cell 0 rfl
          have cRX1 := RX.cell 1 rfl
          have cRX2 := RX.cell 2 rfl
          have cRX3 := RX.cell 3 rfl
          have cRX4 := RX.cell 4 rfl
          have cRX5 := RX.cell 5 rfl
          have cRX6 := RX.cell 6 rfl
          have cRX7 := RX.cell 7 rfl
          have cRX8 := RX.cell 8 rfl
          have lRX := RX.lt (by simp)
          go_wp2_with fail
          have bn2 := (Below.refl w6.heap.size w6).alloc (Nat.le_refl _) (.cells #[.slice (some ⟨y0, 0, none⟩) nD nD, .slice (some ⟨y1, 0, none⟩) nE nE, .slice (some ⟨y2, 0, none⟩) nL nL, .slice (some ⟨y3, 0, none⟩) nF nF, .slice (some ⟨y4, 0, none⟩) nR nR] 32)
          have z_bn2 := bn2.size
          have TX := Rm.Room.new w6 [.slice (some ⟨y0, 0, none⟩) nD nD, .slice (some ⟨y1, 0, none⟩) nE nE, .slice (some ⟨y2, 0, none⟩) nL nL, .slice (some ⟨y3, 0, none⟩) nF nF, .slice (some ⟨y4, 0, none⟩) nR nR] 32
          replace R0 := R0.below bn2
          replace T0 := T0.below bn2
          replace RA := RA.below bn2
          replace RX := RX.below bn2
          replace kX := kX.later bn2 kX.2.2.1
          replace oX := oX.later bn2 oX.2.2.1
          replace hY := hY.later bn2
          replace BB := BB.trans (bn2.mono BB.size)
          clear cR00 cR01 cR02 cR03 cR04 cR05 cR06 cR07 cR08 lR0 cT00 cT01 cT02 cT03 cT04 lT0 cRA0 cRA1 cRA2 cRA3 cRA4 cRA5 cRA6 cRA7 cRA8 lRA cRX0 cRX1 cRX2 cRX3 cRX4 cRX5 cRX6 cRX7 cRX8 lRX
          have hYa := hY.all
          refine (Tu.i_Turned n l d r p s t _ 0 k k _ m m _ _ _ _ _ nD nD nE nE nL nL nF nF nR nR ks os ds es ls fs rs _ kX.1 kX.2.2.2.1 kX.2.2.1 oX.row hYa.1 hYa.2.1 hYa.2.2.1 hYa.2.2.2.1 hYa.2.2.2.2 hk hm hnF hnR hnD hnE hnL htE htL).mono ?_
          rintro e w8 ⟨⟨hFa, hTr⟩, b8⟩
          obtain rfl := hFa hq
          clear hFa hTr
          clear hYa
          have z_b8 := b8.size
          (try simp at z_b8)
          replace R0 := R0.below b8
          replace T0 := T0.below b8
          replace RA := RA.below b8
          replace RX := RX.below b8
          replace TX := TX.below b8
          replace kX := kX.later b8 kX.2.2.1
          replace oX := oX.later b8 oX.2.2.1
          replace hY := hY.later b8
          replace BB := BB.trans (b8.mono BB.size)
          have cRA0 := RA.cell 0 rfl
          have cRA1 := RA.cell 1 rfl
          have cRA2 := RA.cell 2 rfl
          have cRA3 := RA.cell 3 rfl
          have cRA4 := RA.cell 4 rfl
          have cRA5 := RA.cell 5 rfl
          have cRA6 := RA.cell 6 rfl
          have cRA7 := RA.cell 7 rfl
          have cRA8 := RA.cell 8 rfl
          have lRA := RA.lt (by simp)
          go_wp2_with fail
          have bn3 := (Below.refl w8.heap.size w8).alloc (Nat.le_refl _) (.cells #[.int .i64 0, .int .i64 0, .int .i64 0, .int .i64 0, .int .i64 0, .int .i64 0, .slice none 0 0, .slice none 0 0, .int .i64 0] 28)
          have z_bn3 := bn3.size
          have RG := Rm.Room.new w8 [.int .i64 0, .int .i64 0, .int .i64 0, .int .i64 0, .int .i64 0, .int .i64 0, .slice none 0 0, .slice none 0 0, .int .i64 0] 28
          replace R0 := R0.below bn3
          replace T0 := T0.below bn3
          replace RA := RA.below bn3
          replace RX := RX.below bn3
          replace TX := TX.below bn3
          replace kX := kX.later bn3 kX.2.2.1
          replace oX := oX.later bn3 oX.2.2.1
          replace hY := hY.later bn3
          replace BB := BB.trans (bn3.mono BB.size)
          clear cRA0 cRA1 cRA2 cRA3 cRA4 cRA5 cRA6 cRA7 cRA8 lRA
          refine (Wl.eqWorld 0 0 0 0 0 0 0 none none none none 0 0 0 0 0 0 [] [] _ ⟨rfl, .inl rfl⟩ ⟨rfl, .inl rfl⟩ ⟨rfl, .inl rfl⟩ ⟨rfl, .inl rfl⟩ (by omega) (by omega)).mono ?_
          rintro e w9 ⟨rfl, b9⟩
          have z_b9 := b9.size
          (try simp at z_b9)
          replace R0 := R0.below b9
          replace T0 := T0.below b9
          replace RA := RA.below b9
          replace RX := RX.below b9
          replace TX := TX.below b9
          replace RG := RG.below b9
          replace kX := kX.later b9 kX.2.2.1
          replace oX := oX.later b9 oX.2.2.1
          replace hY := hY.later b9
          replace BB := BB.trans (b9.mono BB.size)
          have cR00 := R0.cell 0 rfl
          have cR01 := R0.cell 1 rfl
          have cR02 := R0.cell 2 rfl
          have cR03 := R0.cell 3 rfl
          have cR04 := R0.cell 4 rfl
          have cR05 := R0.cell 5 rfl
          have cR06 := R0.cell 6 rfl
          have cR07 := R0.cell 7 rfl
          have cR08 := R0.cell 8 rfl
          have lR0 := R0.lt (by simp)
          have cRX0 := RX.cell 0 rfl
          have cRX1 := RX.cell 1 rfl
          have cRX2 := RX.cell 2 rfl
          have cRX3 := RX.cell 3 rfl
          have cRX4 := RX.cell 4 rfl
          have cRX5 := RX.cell 5 rfl
          have cRX6 := RX.cell 6 rfl
          have cRX7 := RX.cell 7 rfl
          have cRX8 := RX.cell 8 rfl
          have lRX := RX.lt (by simp)
          go_wp2_with fail
          refine wp_region_noPanic ?_
          refine wp_region_held_drew (S := (fun w' => w'.cell? ⟨w.heap.size, 0, none⟩ = some (.int .i64 n) ∧ w'.cell? ⟨w.heap.size, 1, none⟩ = some (.int .i64 l) ∧ w'.cell? ⟨w.heap.size, 2, none⟩ = some (.int .i64 d) ∧ w'.cell? ⟨w.heap.size, 3, none⟩ = some (.int .i64 r) ∧ w'.cell? ⟨w.heap.size, 4, none⟩ = some (.int .i64 p) ∧ w'.cell? ⟨w.heap.size, 5, none⟩ = some (.int .i64 s) ∧ w'.cell? ⟨w.heap.size, 6, none⟩ = some (.slice a k ka) ∧ w'.cell? ⟨w.heap.size, 7, none⟩ = some (.slice b m mb) ∧ w'.cell? ⟨w.heap.size, 8, none⟩ = some (.int .i64 t) ∧ w'.cell? ⟨w5.heap.size, 0, none⟩ = some (.int .i64 n) ∧ w'.cell? ⟨w5.heap.size, 1, none⟩ = some (.int .i64 l) ∧ w'.cell? ⟨w5.heap.size, 2, none⟩ = some (.int .i64 d) ∧ w'.cell? ⟨w5.heap.size, 3, none⟩ = some (.int .i64 r) ∧ w'.cell? ⟨w5.heap.size, 4, none⟩ = some (.int .i64 p) ∧ w'.cell? ⟨w5.heap.size, 5, none⟩ = some (.int .i64 s) ∧ w'.cell? ⟨w5.heap.size, 6, none⟩ = some (.slice (some ⟨gX, 0, none⟩) k k) ∧ w'.cell? ⟨w5.heap.size, 7, none⟩ = some (.slice (some ⟨hX, 0, none⟩) m m) ∧ w'.cell? ⟨w5.heap.size, 8, none⟩ = some (.int .i64 t) ∧ Hid (Below w.heap.size w w' ∧ Rm.Room w' (w.heap.size) [.int .i64 n, .int .i64 l, .int .i64 d, .int .i64 r, .int .i64 p, .int .i64 s, .slice a k ka, .slice b m mb, .int .i64 t] ∧ Rm.Room w' (w.heap.size + 1) [.slice aD nD cD, .slice aE nE cE, .slice aL nL cL, .slice aF nF cF, .slice aR nR cR] ∧ Rm.Room w' (XA) [.int .i64 0, .int .i64 0, .int .i64 0, .int .i64 0, .int .i64 0, .int .i64 0, .slice none 0 0, .slice none 0 0, .int .i64 0] ∧ Rm.Room w' (w5.heap.size) [.int .i64 n, .int .i64 l, .int .i64 d, .int .i64 r, .int .i64 p, .int .i64 s, .slice (some ⟨gX, 0, none⟩) k k, .slice (some ⟨hX, 0, none⟩) m m, .int .i64 t] ∧ Rm.Room w' (w6.heap.size) [.slice (some ⟨y0, 0, none⟩) nD nD, .slice (some ⟨y1, 0, none⟩) nE nE, .slice (some ⟨y2, 0, none⟩) nL nL, .slice (some ⟨y3, 0, none⟩) nF nF, .slice (some ⟨y4, 0, none⟩) nR nR] ∧ Rm.Room w' (w8.heap.size) [.int .i64 0, .int .i64 0, .int .i64 0, .int .i64 0, .int .i64 0, .int .i64 0, .slice none 0 0, .slice none 0 0, .int .i64 0] ∧ Ow.Has w' w4.heap.size gX 0 k ks ∧ Ow.Has w' w4.heap.size hX 0 m os ∧ Tu.HasT w' (w5.heap.size + 1) w6.heap.size y0 y1 y2 y3 y4 nD nE nL nF nR ds es ls fs rs))) (by kernel_rfl) ⟨R0.cell 0 rfl, R0.cell 1 rfl, R0.cell 2 rfl, R0.cell 3 rfl, R0.cell 4 rfl, R0.cell 5 rfl, R0.cell 6 rfl, R0.cell 7 rfl, R0.cell 8 rfl, RX.cell 0 rfl, RX.cell 1 rfl, RX.cell 2 rfl, RX.cell 3 rfl, RX.cell 4 rfl, RX.cell 5 rfl, RX.cell 6 rfl, RX.cell 7 rfl, RX.cell 8 rfl, ⟨BB.drew, R0.drew, T0.drew, RA.drew, RX.drew, TX.drew, RG.drew, kX.later (Below.refl _ _).drew kX.2.2.1, oX.later (Below.refl _ _).drew oX.2.2.1, hY.later (Below.refl _ _).drew⟩⟩ (fun hHeld => ?_)
          refine Tk.W 0 (some 54) (.load 28 (.tmp 8)) 28 none ?_
          refine Tk.W 1 (some 55) (.load 47 (.tmp 2)) 47 none ?_
          refine Tk.R 2 (some 56) (.call ⟨.value (.func 18), #[.tmp 55], #[47]⟩) 28 none (fun K hK => ?_)
          go_simp
          refine (Wl.toWorld n l d r p s t a b k ka m mb ks os _ ((hr.later hHeld.2.2.2.2.2.2.2.2.2.2.2.2.2.2.2.2.2.2.out.1 (Nat.le_refl _)).more hHeld.2.2.2.2.2.2.2.2.2.2.2.2.2.2.2.2.2.2.out.1.size) ((hs.later hHeld.2.2.2.2.2.2.2.2.2.2.2.2.2.2.2.2.2.2.out.1 (Nat.le_refl _)).more hHeld.2.2.2.2.2.2.2.2.2.2.2.2.2.2.2.2.2.2.out.1.size) hk hm).mono ?_
          rintro e vuf3 ⟨⟨gn, hn, rfl, kN, oN, _⟩, b_uf3⟩
          have ⟨BB_uf3, R0_uf3, T0_uf3, RA_uf3, RX_uf3, TX_uf3, RG_uf3, kX_uf3, oX_uf3, hY_uf3⟩ := hHeld.2.2.2.2.2.2.2.2.2.2.2.2.2.2.2.2.2.2.out
          have BB2_uf3 := BB_uf3.trans (b_uf3.mono BB_uf3.size)
          have R02_uf3 := R0_uf3.below b_uf3
          have T02_uf3 := T0_uf3.below b_uf3
          have RA2_uf3 := RA_uf3.below b_uf3
          have RX2_uf3 := RX_uf3.below b_uf3
          have TX2_uf3 := TX_uf3.below b_uf3
          have RG2_uf3 := RG_uf3.below b_uf3
          have kX2_uf3 := kX_uf3.later b_uf3 kX_uf3.2.2.1
          have oX2_uf3 := oX_uf3.later b_uf3 oX_uf3.2.2.1
          have hY2_uf3 := hY_uf3.later b_uf3
          have kvuf3 := Tk.kv hK (w := vuf3) ⟨R02_uf3.cell 0 rfl, R02_uf3.cell 1 rfl, R02_uf3.cell 2 rfl, R02_uf3.cell 3 rfl, R02_uf3.cell 4 rfl, R02_uf3.cell 5 rfl, R02_uf3.cell 6 rfl, R02_uf3.cell 7 rfl, R02_uf3.cell 8 rfl, RX2_uf3.cell 0 rfl, RX2_uf3.cell 1 rfl, RX2_uf3.cell 2 rfl, RX2_uf3.cell 3 rfl, RX2_uf3.cell 4 rfl, RX2_uf3.cell 5 rfl, RX2_uf3.cell 6 rfl, RX2_uf3.cell 7 rfl, RX2_uf3.cell 8 rfl, ⟨BB2_uf3, R02_uf3, T02_uf3, RA2_uf3, RX2_uf3, TX2_uf3, RG2_uf3, kX2_uf3, oX2_uf3, hY2_uf3⟩⟩
          have kNr := kN.row
          have oNr := oN.row
          have kXr := kX2_uf3.row
          have oXr := oX2_uf3.row
          clear BB_uf3 R0_uf3 T0_uf3 RA_uf3 RX_uf3 TX_uf3 RG_uf3 kX_uf3 oX_uf3 hY_uf3 BB2_uf3 R02_uf3 T02_uf3 RA2_uf3 RX2_uf3 TX2_uf3 RG2_uf3 kX2_uf3 oX2_uf3 hY2_uf3
          try dsimp only
          refine hK.out _ _ kvuf3 ?_; clear hK K hHeld; intro hHeld; try simp only [Act.put, List.setIfInBounds_toArray, List.set_cons_zero, List.set_cons_succ]
          refine Tk.R 3 (some 57) (.call ⟨.value (.func 20), #[.tmp 54, .tmp 56], #[28, 28]⟩) 4 none (fun K hK => ?_)
          go_simp
          refine (Wl.eqWorld n l d r p s t _ _ _ _ k _ _ m _ _ ks os _ kXr kNr oXr oNr hk hm).mono ?_
          rintro e vuf4 ⟨rfl, b_uf4⟩
          have ⟨BB_uf4, R0_uf4, T0_uf4, RA_uf4, RX_uf4, TX_uf4, RG_uf4, kX_uf4, oX_uf4, hY_uf4⟩ := hHeld.2.2.2.2.2.2.2.2.2.2.2.2.2.2.2.2.2.2.out
          have BB2_uf4 := BB_uf4.trans (b_uf4.mono BB_uf4.size)
          have R02_uf4 := R0_uf4.below b_uf4
          have T02_uf4 := T0_uf4.below b_uf4
          have RA2_uf4 := RA_uf4.below b_uf4
          have RX2_uf4 := RX_uf4.below b_uf4
          have TX2_uf4 := TX_uf4.below b_uf4
          have RG2_uf4 := RG_uf4.below b_uf4
          have kX2_uf4 := kX_uf4.later b_uf4 kX_uf4.2.2.1
          have oX2_uf4 := oX_uf4.later b_uf4 oX_uf4.2.2.1
          have hY2_uf4 := hY_uf4.later b_uf4
          have kvuf4 := Tk.kv hK (w := vuf4) ⟨R02_uf4.cell 0 rfl, R02_uf4.cell 1 rfl, R02_uf4.cell 2 rfl, R02_uf4.cell 3 rfl, R02_uf4.cell 4 rfl, R02_uf4.cell 5 rfl, R02_uf4.cell 6 rfl, R02_uf4.cell 7 rfl, R02_uf4.cell 8 rfl, RX2_uf4.cell 0 rfl, RX2_uf4.cell 1 rfl, RX2_uf4.cell 2 rfl, RX2_uf4.cell 3 rfl, RX2_uf4.cell 4 rfl, RX2_uf4.cell 5 rfl, RX2_uf4.cell 6 rfl, RX2_uf4.cell 7 rfl, RX2_uf4.cell 8 rfl, ⟨BB2_uf4, R02_uf4, T02_uf4, RA2_uf4, RX2_uf4, TX2_uf4, RG2_uf4, kX2_uf4, oX2_uf4, hY2_uf4⟩⟩
          clear BB_uf4 R0_uf4 T0_uf4 RA_uf4 RX_uf4 TX_uf4 RG_uf4 kX_uf4 oX_uf4 hY_uf4 BB2_uf4 R02_uf4 T02_uf4 RA2_uf4 RX2_uf4 TX2_uf4 RG2_uf4 kX2_uf4 oX2_uf4 hY2_uf4
          try dsimp only
          refine hK.out _ _ kvuf4 ?_; clear hK K hHeld; intro hHeld; try simp only [Act.put, List.setIfInBounds_toArray, List.set_cons_zero, List.set_cons_succ]
          refine Tk.W 4 (some 58) (.unOp .not 4 (.tmp 57)) 4 none ?_
          refine wpAnyH_done (by kernel_rfl) ?_ _
          refine NoPanic.normal ?_
          clear BB R0 T0 RA RX TX RG kX oX hY
          obtain ⟨BB, R0, T0, RA, RX, TX, RG, kX, oX, hY⟩ := hHeld.2.2.2.2.2.2.2.2.2.2.2.2.2.2.2.2.2.2.out
          clear hHeld
          clear cR00 cR01 cR02 cR03 cR04 cR05 cR06 cR07 cR08 lR0 cRX0 cRX1 cRX2 cRX3 cRX4 cRX5 cRX6 cRX7 cRX8 lRX
          have cT00 := T0.cell 0 rfl
          have cT01 := T0.cell 1 rfl
          have cT02 := T0.cell 2 rfl
          have cT03 := T0.cell 3 rfl
          have cT04 := T0.cell 4 rfl
          have lT0 := T0.lt (by simp)
          have cTX0 := TX.cell 0 rfl
          have cTX1 := TX.cell 1 rfl
          have cTX2 := TX.cell 2 rfl
          have cTX3 := TX.cell 3 rfl
          have cTX4 := TX.cell 4 rfl
          have lTX := TX.lt (by simp)
          go_wp2_with fail
          refine wp_region_noPanic ?_
          refine wp_region_held_drew (S := (fun w' => w'.cell? ⟨w.heap.size + 1, 0, none⟩ = some (.slice aD nD cD) ∧ w'.cell? ⟨w.heap.size + 1, 1, none⟩ = some (.slice aE nE cE) ∧ w'.cell? ⟨w.heap.size + 1, 2, none⟩ = some (.slice aL nL cL) ∧ w'.cell? ⟨w.heap.size + 1, 3, none⟩ = some (.slice aF nF cF) ∧ w'.cell? ⟨w.heap.size + 1, 4, none⟩ = some (.slice aR nR cR) ∧ w'.cell? ⟨w6.heap.size, 0, none⟩ = some (.slice (some ⟨y0, 0, none⟩) nD nD) ∧ w'.cell? ⟨w6.heap.size, 1, none⟩ = some (.slice (some ⟨y1, 0, none⟩) nE nE) ∧ w'.cell? ⟨w6.heap.size, 2, none⟩ = some (.slice (some ⟨y2, 0, none⟩) nL nL) ∧ w'.cell? ⟨w6.heap.size, 3, none⟩ = some (.slice (some ⟨y3, 0, none⟩) nF nF) ∧ w'.cell? ⟨w6.heap.size, 4, none⟩ = some (.slice (some ⟨y4, 0, none⟩) nR nR) ∧ Hid (Below w.heap.size w w' ∧ Rm.Room w' (w.heap.size) [.int .i64 n, .int .i64 l, .int .i64 d, .int .i64 r, .int .i64 p, .int .i64 s, .slice a k ka, .slice b m mb, .int .i64 t] ∧ Rm.Room w' (w.heap.size + 1) [.slice aD nD cD, .slice aE nE cE, .slice aL nL cL, .slice aF nF cF, .slice aR nR cR] ∧ Rm.Room w' (XA) [.int .i64 0, .int .i64 0, .int .i64 0, .int .i64 0, .int .i64 0, .int .i64 0, .slice none 0 0, .slice none 0 0, .int .i64 0] ∧ Rm.Room w' (w5.heap.size) [.int .i64 n, .int .i64 l, .int .i64 d, .int .i64 r, .int .i64 p, .int .i64 s, .slice (some ⟨gX, 0, none⟩) k k, .slice (some ⟨hX, 0, none⟩) m m, .int .i64 t] ∧ Rm.Room w' (w6.heap.size) [.slice (some ⟨y0, 0, none⟩) nD nD, .slice (some ⟨y1, 0, none⟩) nE nE, .slice (some ⟨y2, 0, none⟩) nL nL, .slice (some ⟨y3, 0, none⟩) nF nF, .slice (some ⟨y4, 0, none⟩) nR nR] ∧ Rm.Room w' (w8.heap.size) [.int .i64 0, .int .i64 0, .int .i64 0, .int .i64 0, .int .i64 0, .int .i64 0, .slice none 0 0, .slice none 0 0, .int .i64 0] ∧ Ow.Has w' w4.heap.size gX 0 k ks ∧ Ow.Has w' w4.heap.size hX 0 m os ∧ Tu.HasT w' (w5.heap.size + 1) w6.heap.size y0 y1 y2 y3 y4 nD nE nL nF nR ds es ls fs rs))) (by kernel_rfl) ⟨T0.cell 0 rfl, T0.cell 1 rfl, T0.cell 2 rfl, T0.cell 3 rfl, T0.cell 4 rfl, TX.cell 0 rfl, TX.cell 1 rfl, TX.cell 2 rfl, TX.cell 3 rfl, TX.cell 4 rfl, ⟨BB.drew, R0.drew, T0.drew, RA.drew, RX.drew, TX.drew, RG.drew, kX.later (Below.refl _ _).drew kX.2.2.1, oX.later (Below.refl _ _).drew oX.2.2.1, hY.later (Below.refl _ _).drew⟩⟩ (fun hHeld => ?_)
          refine Tk.W 0 (some 59) (.load 32 (.tmp 9)) 32 none ?_
          refine Tk.W 1 (some 60) (.load 48 (.tmp 3)) 48 none ?_
          refine Tk.R 2 (some 61) (.call ⟨.value (.func 19), #[.tmp 60], #[48]⟩) 32 none (fun K hK => ?_)
          go_simp
          refine (Tu.toTurn aD aE aL aF aR nD cD nE cE nL cL nF cF nR cR ds es ls fs rs _ ((rD.later hHeld.2.2.2.2.2.2.2.2.2.2.out.1 (Nat.le_refl _)).more hHeld.2.2.2.2.2.2.2.2.2.2.out.1.size) ((rE.later hHeld.2.2.2.2.2.2.2.2.2.2.out.1 (Nat.le_refl _)).more hHeld.2.2.2.2.2.2.2.2.2.2.out.1.size) ((rL.later hHeld.2.2.2.2.2.2.2.2.2.2.out.1 (Nat.le_refl _)).more hHeld.2.2.2.2.2.2.2.2.2.2.out.1.size) ((rF.later hHeld.2.2.2.2.2.2.2.2.2.2.out.1 (Nat.le_refl _)).more hHeld.2.2.2.2.2.2.2.2.2.2.out.1.size) ((rR.later hHeld.2.2.2.2.2.2.2.2.2.2.out.1 (Nat.le_refl _)).more hHeld.2.2.2.2.2.2.2.2.2.2.out.1.size) hz).mono ?_
          rintro e vxf3 ⟨⟨e0, e1, e2, e3, e4, rfl, hN⟩, b_xf3⟩
          have ⟨BB_xf3, R0_xf3, T0_xf3, RA_xf3, RX_xf3, TX_xf3, RG_xf3, kX_xf3, oX_xf3, hY_xf3⟩ := hHeld.2.2.2.2.2.2.2.2.2.2.out
          have BB2_xf3 := BB_xf3.trans (b_xf3.mono BB_xf3.size)
          have R02_xf3 := R0_xf3.below b_xf3
          have T02_xf3 := T0_xf3.below b_xf3
          have RA2_xf3 := RA_xf3.below b_xf3
          have RX2_xf3 := RX_xf3.below b_xf3
          have TX2_xf3 := TX_xf3.below b_xf3
          have RG2_xf3 := RG_xf3.below b_xf3
          have kX2_xf3 := kX_xf3.later b_xf3 kX_xf3.2.2.1
          have oX2_xf3 := oX_xf3.later b_xf3 oX_xf3.2.2.1
          have hY2_xf3 := hY_xf3.later b_xf3
          have kvxf3 := Tk.kv hK (w := vxf3) ⟨T02_xf3.cell 0 rfl, T02_xf3.cell 1 rfl, T02_xf3.cell 2 rfl, T02_xf3.cell 3 rfl, T02_xf3.cell 4 rfl, TX2_xf3.cell 0 rfl, TX2_xf3.cell 1 rfl, TX2_xf3.cell 2 rfl, TX2_xf3.cell 3 rfl, TX2_xf3.cell 4 rfl, ⟨BB2_xf3, R02_xf3, T02_xf3, RA2_xf3, RX2_xf3, TX2_xf3, RG2_xf3, kX2_xf3, oX2_xf3, hY2_xf3⟩⟩
          have hNa := hN.all
          have hYa := hY2_xf3.all
          clear BB_xf3 R0_xf3 T0_xf3 RA_xf3 RX_xf3 TX_xf3 RG_xf3 kX_xf3 oX_xf3 hY_xf3 BB2_xf3 R02_xf3 T02_xf3 RA2_xf3 RX2_xf3 TX2_xf3 RG2_xf3 kX2_xf3 oX2_xf3 hY2_xf3
          try dsimp only
          refine hK.out _ _ kvxf3 ?_; clear hK K hHeld; intro hHeld; try simp only [Act.put, List.setIfInBounds_toArray, List.set_cons_zero, List.set_cons_succ]
          refine Tk.R 3 (some 62) (.call ⟨.value (.func 21), #[.tmp 59, .tmp 61], #[32, 32]⟩) 4 none (fun K hK => ?_)
          go_simp
          refine (Tu.eqTurn _ _ _ _ _ _ _ _ _ _ nD _ _ nE _ _ nL _ _ nF _ _ nR _ _ ds es ls fs rs _ hYa.1 hYa.2.1 hYa.2.2.1 hYa.2.2.2.1 hYa.2.2.2.2 hNa.1 hNa.2.1 hNa.2.2.1 hNa.2.2.2.1 hNa.2.2.2.2 hz).mono ?_
          rintro e vxf4 ⟨rfl, b_xf4⟩
          have ⟨BB_xf4, R0_xf4, T0_xf4, RA_xf4, RX_xf4, TX_xf4, RG_xf4, kX_xf4, oX_xf4, hY_xf4⟩ := hHeld.2.2.2.2.2.2.2.2.2.2.out
          have BB2_xf4 := BB_xf4.trans (b_xf4.mono BB_xf4.size)
          have R02_xf4 := R0_xf4.below b_xf4
          have T02_xf4 := T0_xf4.below b_xf4
          have RA2_xf4 := RA_xf4.below b_xf4
          have RX2_xf4 := RX_xf4.below b_xf4
          have TX2_xf4 := TX_xf4.below b_xf4
          have RG2_xf4 := RG_xf4.below b_xf4
          have kX2_xf4 := kX_xf4.later b_xf4 kX_xf4.2.2.1
          have oX2_xf4 := oX_xf4.later b_xf4 oX_xf4.2.2.1
          have hY2_xf4 := hY_xf4.later b_xf4
          have kvxf4 := Tk.kv hK (w := vxf4) ⟨T02_xf4.cell 0 rfl, T02_xf4.cell 1 rfl, T02_xf4.cell 2 rfl, T02_xf4.cell 3 rfl, T02_xf4.cell 4 rfl, TX2_xf4.cell 0 rfl, TX2_xf4.cell 1 rfl, TX2_xf4.cell 2 rfl, TX2_xf4.cell 3 rfl, TX2_xf4.cell 4 rfl, ⟨BB2_xf4, R02_xf4, T02_xf4, RA2_xf4, RX2_xf4, TX2_xf4, RG2_xf4, kX2_xf4, oX2_xf4, hY2_xf4⟩⟩
          clear BB_xf4 R0_xf4 T0_xf4 RA_xf4 RX_xf4 TX_xf4 RG_xf4 kX_xf4 oX_xf4 hY_xf4 BB2_xf4 R02_xf4 T02_xf4 RA2_xf4 RX2_xf4 TX2_xf4 RG2_xf4 kX2_xf4 oX2_xf4 hY2_xf4
          try dsimp only
          refine hK.out _ _ kvxf4 ?_; clear hK K hHeld; intro hHeld; try simp only [Act.put, List.setIfInBounds_toArray, List.set_cons_zero, List.set_cons_succ]
          refine Tk.W 4 (some 63) (.unOp .not 4 (.tmp 62)) 4 none ?_
          refine wpAnyH_done (by kernel_rfl) ?_ _
          refine NoPanic.normal ?_
          clear BB R0 T0 RA RX TX RG kX oX hY
          obtain ⟨BB, R0, T0, RA, RX, TX, RG, kX, oX, hY⟩ := hHeld.2.2.2.2.2.2.2.2.2.2.out
          clear hHeld
          clear cT00 cT01 cT02 cT03 cT04 lT0 cTX0 cTX1 cTX2 cTX3 cTX4 lTX
          have cRX0 := RX.cell 0 rfl
          have cRX1 := RX.cell 1 rfl
          have cRX2 := RX.cell 2 rfl
          have cRX3 := RX.cell 3 rfl
          have cRX4 := RX.cell 4 rfl
          have cRX5 := RX.cell 5 rfl
          have cRX6 := RX.cell 6 rfl
          have cRX7 := RX.cell 7 rfl
          have cRX8 := RX.cell 8 rfl
          have lRX := RX.lt (by simp)
          go_wp2_with fail
          refine (Wl.markWorld n l d r p s t w4.heap.size gX 0 hX 0 k k m m ks os _ kX oX (by omega) hk hm).mono ?_
          rintro e wm ⟨rfl, mK, mO, xm, ym, bm, em, fm⟩
          clear cRX0 cRX1 cRX2 cRX3 cRX4 cRX5 cRX6 cRX7 cRX8 lRX
          clear mK mO RX kX oX
          have mm := (((Ss.Mid.of_below (B := w4.heap.size) (C := w5.heap.size) bm).trans (Ss.Mid.of_grown em (by omega) (by omega))).trans (Ss.Mid.of_grown fm (by omega) (by omega)))
          clear bm em fm
          replace R0 := mm.room R0 (by simp) (by omega)
          replace T0 := mm.room T0 (by simp) (by omega)
          replace RA := mm.room RA (by simp) (by omega)
          replace TX := mm.room TX (by simp) (by omega)
          replace RG := mm.room RG (by simp) (by omega)
          replace hY := Tu.Mid.hasT mm hY (.inr (by omega))
          replace BB := BB.trans (mm.below (by omega) BB.size)
          have cTX0 := TX.cell 0 rfl
          have cTX1 := TX.cell 1 rfl
          have cTX2 := TX.cell 2 rfl
          have cTX3 := TX.cell 3 rfl
          have cTX4 := TX.cell 4 rfl
          have lTX := TX.lt (by simp)
          go_wp2_with fail
          refine (Tu.markTurn (1 + (k : Int) + (m : Int)) (w5.heap.size + 1) w6.heap.size y0 y1 y2 y3 y4 nD nE nL nF nR ds es ls fs rs _ hY hz (by omega) (by omega)).mono ?_
          rintro e wn ⟨rfl, mt⟩
          clear cTX0 cTX1 cTX2 cTX3 cTX4 lTX
          clear TX hY mm
          replace R0 := mt.room R0 (by simp) (by omega)
          replace T0 := mt.room T0 (by simp) (by omega)
          replace RA := mt.room RA (by simp) (by omega)
          replace RG := mt.room RG (by simp) (by omega)
          replace BB := BB.trans (mt.below (by omega) BB.size)
          have hx1b : decide ((1 : Int) + (k : Int) + (m : Int) + (nD : Int) + (Ss.tot es nE : Int) + (Ss.tot ls nL : Int) + (nF : Int) + (nR : Int) < 0) = false := by simp; omega
          clear mt
          have cRA0 := RA.cell 0 rfl
          have cRA1 := RA.cell 1 rfl
          have cRA2 := RA.cell 2 rfl
          have cRA3 := RA.cell 3 rfl
          have cRA4 := RA.cell 4 rfl
          have cRA5 := RA.cell 5 rfl
          have cRA6 := RA.cell 6 rfl
          have cRA7 := RA.cell 7 rfl
          have cRA8 := RA.cell 8 rfl
          have lRA := RA.lt (by simp)
          have cRG0 := RG.cell 0 rfl
          have cRG1 := RG.cell 1 rfl
          have cRG2 := RG.cell 2 rfl
          have cRG3 := RG.cell 3 rfl
          have cRG4 := RG.cell 4 rfl
          have cRG5 := RG.cell 5 rfl
          have cRG6 := RG.cell 6 rfl
          have cRG7 := RG.cell 7 rfl
          have cRG8 := RG.cell 8 rfl
          have lRG := RG.lt (by simp)
          go_wp2_with fail
          refine (Wl.eqWorld 0 0 0 0 0 0 0 none none none none 0 0 0 0 0 0 [] [] _ ⟨rfl, .inl rfl⟩ ⟨rfl, .inl rfl⟩ ⟨rfl, .inl rfl⟩ ⟨rfl, .inl rfl⟩ (by omega) (by omega)).mono ?_
          rintro e wq ⟨rfl, bb9⟩
          clear cRA0 cRA1 cRA2 cRA3 cRA4 cRA5 cRA6 cRA7 cRA8 lRA cRG0 cRG1 cRG2 cRG3 cRG4 cRG5 cRG6 cRG7 cRG8 lRG
          have z_bb9 := bb9.size
          (try simp at z_bb9)
          replace R0 := R0.below bb9
          replace T0 := T0.below bb9
          replace RA := RA.below bb9
          replace RG := RG.below bb9
          replace BB := BB.trans (bb9.mono BB.size)
          have cRG0 := RG.cell 0 rfl
          have cRG1 := RG.cell 1 rfl
          have cRG2 := RG.cell 2 rfl
          have cRG3 := RG.cell 3 rfl
          have cRG4 := RG.cell 4 rfl
          have cRG5 := RG.cell 5 rfl
          have cRG6 := RG.cell 6 rfl
          have cRG7 := RG.cell 7 rfl
          have cRG8 := RG.cell 8 rfl
          have lRG := RG.lt (by simp)
          go_wp2_with fail
          refine (Wl.markWorld0 0 0 0 0 0 0 0 _).mono ?_
          rintro e wg ⟨rfl, bg⟩
          clear cRG0 cRG1 cRG2 cRG3 cRG4 cRG5 cRG6 cRG7 cRG8 lRG
          replace R0 := R0.below bg
          replace T0 := T0.below bg
          replace RA := RA.below bg
          replace RG := RG.below bg
          replace BB := BB.trans (bg.mono BB.size)
          have cRG0 := RG.cell 0 rfl
          have cRG1 := RG.cell 1 rfl
          have cRG2 := RG.cell 2 rfl
          have cRG3 := RG.cell 3 rfl
          have cRG4 := RG.cell 4 rfl
          have cRG5 := RG.cell 5 rfl
          have cRG6 := RG.cell 6 rfl
          have cRG7 := RG.cell 7 rfl
          have cRG8 := RG.cell 8 rfl
          have lRG := RG.lt (by simp)
          go_wp2_with fail
          refine (Wl.heldWorld0 0 0 0 0 0 0 0 _).mono ?_
          rintro e wh ⟨rfl, bh⟩
          clear cRG0 cRG1 cRG2 cRG3 cRG4 cRG5 cRG6 cRG7 cRG8 lRG
          have z_bh := bh.size
          (try simp at z_bh)
          replace R0 := R0.below bh
          replace T0 := T0.below bh
          replace RA := RA.below bh
          replace RG := RG.below bh
          replace BB := BB.trans (bh.mono BB.size)
          have lo_R0H := R0.lt (by simp)
          have lo_T0H := T0.lt (by simp)
          have lo_RAH := RA.lt (by simp)
          have lo_RGH := RG.lt (by simp)
          have cR00 := R0.cell 0 rfl
          have cR01 := R0.cell 1 rfl
          have cR02 := R0.cell 2 rfl
          have cR03 := R0.cell 3 rfl
          have cR04 := R0.cell 4 rfl
          have cR05 := R0.cell 5 rfl
          have cR06 := R0.cell 6 rfl
          have cR07 := R0.cell 7 rfl
          have cR08 := R0.cell 8 rfl
          have lR0 := R0.lt (by simp)
          have cT00 := T0.cell 0 rfl
          have cT01 := T0.cell 1 rfl
          have cT02 := T0.cell 2 rfl
          have cT03 := T0.cell 3 rfl
          have cT04 := T0.cell 4 rfl
          have lT0 := T0.lt (by simp)
          go_wp2_with fail
          clear cR00 cR01 cR02 cR03 cR04 cR05 cR06 cR07 cR08 lR0 cT00 cT01 cT02 cT03 cT04 lT0
          go_cut [15, 16] from 17 (fun p6 v7 wc => ∃ XH : Nat, p6 = .pointer (some ⟨XH, 0, none⟩) ∧ v7 = .bool (false) ∧ Hid (Below w.heap.size w wc ∧ Rm.Room wc (w.heap.size) [.int .i64 n, .int .i64 l, .int .i64 d, .int .i64 r, .int .i64 p, .int .i64 s, .slice a k ka, .slice b m mb, .int .i64 t] ∧ Rm.Room wc (w.heap.size + 1) [.slice aD nD cD, .slice aE nE cE, .slice aL nL cL, .slice aF nF cF, .slice aR nR cR] ∧ Rm.Room wc (XA) [.int .i64 0, .int .i64 0, .int .i64 0, .int .i64 0, .int .i64 0, .int .i64 0, .slice none 0 0, .slice none 0 0, .int .i64 0] ∧ Rm.Room wc (w8.heap.size) [.int .i64 0, .int .i64 0, .int .i64 0, .int .i64 0, .int .i64 0, .int .i64 0, .slice none 0 0, .slice none 0 0, .int .i64 0] ∧ Rm.Room wc XH [.int .i64 0, .int .i64 0, .int .i64 0, .int .i64 0, .int .i64 0, .int .i64 0, .slice none 0 0, .slice none 0 0, .int .i64 0] ∧ wh.heap.size ≤ XH))
          case first =>
            have hd0 : wh.heap.size ≤ wh.drew.heap.size := Nat.le_refl _
            refine wp_region_noPanic ?_
            refine wp_region_held_drew (S := (fun w' => w'.cell? ⟨w.heap.size, 0, none⟩ = some (.int .i64 n) ∧ w'.cell? ⟨w.heap.size, 1, none⟩ = some (.int .i64 l) ∧ w'.cell? ⟨w.heap.size, 2, none⟩ = some (.int .i64 d) ∧ w'.cell? ⟨w.heap.size, 3, none⟩ = some (.int .i64 r) ∧ w'.cell? ⟨w.heap.size, 4, none⟩ = some (.int .i64 p) ∧ w'.cell? ⟨w.heap.size, 5, none⟩ = some (.int .i64 s) ∧ w'.cell? ⟨w.heap.size, 6, none⟩ = some (.slice a k ka) ∧ w'.cell? ⟨w.heap.size, 7, none⟩ = some (.slice b m mb) ∧ w'.cell? ⟨w.heap.size, 8, none⟩ = some (.int .i64 t) ∧ w'.cell? ⟨w.heap.size + 1, 0, none⟩ = some (.slice aD nD cD) ∧ w'.cell? ⟨w.heap.size + 1, 1, none⟩ = some (.slice aE nE cE) ∧ w'.cell? ⟨w.heap.size + 1, 2, none⟩ = some (.slice aL nL cL) ∧ w'.cell? ⟨w.heap.size + 1, 3, none⟩ = some (.slice aF nF cF) ∧ w'.cell? ⟨w.heap.size + 1, 4, none⟩ = some (.slice aR nR cR) ∧ Hid (Below w.heap.size w w' ∧ Rm.Room w' (w.heap.size) [.int .i64 n, .int .i64 l, .int .i64 d, .int .i64 r, .int .i64 p, .int .i64 s, .slice a k ka, .slice b m mb, .int .i64 t] ∧ Rm.Room w' (w.heap.size + 1) [.slice aD nD cD, .slice aE nE cE, .slice aL nL cL, .slice aF nF cF, .slice aR nR cR] ∧ Rm.Room w' (XA) [.int .i64 0, .int .i64 0, .int .i64 0, .int .i64 0, .int .i64 0, .int .i64 0, .slice none 0 0, .slice none 0 0, .int .i64 0] ∧ Rm.Room w' (w8.heap.size) [.int .i64 0, .int .i64 0, .int .i64 0, .int .i64 0, .int .i64 0, .int .i64 0, .slice none 0 0, .slice none 0 0, .int .i64 0]))) (by kernel_rfl) ⟨R0.cell 0 rfl, R0.cell 1 rfl, R0.cell 2 rfl, R0.cell 3 rfl, R0.cell 4 rfl, R0.cell 5 rfl, R0.cell 6 rfl, R0.cell 7 rfl, R0.cell 8 rfl, T0.cell 0 rfl, T0.cell 1 rfl, T0.cell 2 rfl, T0.cell 3 rfl, T0.cell 4 rfl, ⟨BB.drew, R0.drew, T0.drew, RA.drew, RG.drew⟩⟩ (fun hHeld => ?_)
            refine Tk.W 0 (some 95) (.load 47 (.tmp 2)) 47 none ?_
            refine Tk.W 2 (some 97) (.load 48 (.tmp 3)) 48 none ?_
            refine wpAnyH_ready (rs := [1, 8]) (by kernel_rfl) (by simp) ?_
            refine (AllReadyH.cons (o := ⟨some 96, .call ⟨.value (.func 18), #[.tmp 95], #[47]⟩, 28, _, _, none⟩) rfl (fun K hK => ?_) (AllReadyH.cons (o := ⟨some 15, .alloc 28, 0, _, _, none⟩) rfl (fun K hK => ?_) AllReadyH.nil))
            · go_simp
              refine (Wl.toWorld n l d r p s t a b k ka m mb ks os _ ((hr.later hHeld.2.2.2.2.2.2.2.2.2.2.2.2.2.2.out.1 (Nat.le_refl _)).more hHeld.2.2.2.2.2.2.2.2.2.2.2.2.2.2.out.1.size) ((hs.later hHeld.2.2.2.2.2.2.2.2.2.2.2.2.2.2.out.1 (Nat.le_refl _)).more hHeld.2.2.2.2.2.2.2.2.2.2.2.2.2.2.out.1.size) hk hm).mono ?_
              rintro e wTW ⟨⟨gk, go, rfl, kK, kO, _⟩, b_yf3⟩
              have ⟨BB_yf3, R0_yf3, T0_yf3, RA_yf3, RG_yf3⟩ := hHeld.2.2.2.2.2.2.2.2.2.2.2.2.2.2.out
              have BB2_yf3 := BB_yf3.trans (b_yf3.mono BB_yf3.size)
              have R02_yf3 := R0_yf3.below b_yf3
              have T02_yf3 := T0_yf3.below b_yf3
              have RA2_yf3 := RA_yf3.below b_yf3
              have RG2_yf3 := RG_yf3.below b_yf3
              have kvyf3 := Tk.kv hK (w := wTW) ⟨R02_yf3.cell 0 rfl, R02_yf3.cell 1 rfl, R02_yf3.cell 2 rfl, R02_yf3.cell 3 rfl, R02_yf3.cell 4 rfl, R02_yf3.cell 5 rfl, R02_yf3.cell 6 rfl, R02_yf3.cell 7 rfl, R02_yf3.cell 8 rfl, T02_yf3.cell 0 rfl, T02_yf3.cell 1 rfl, T02_yf3.cell 2 rfl, T02_yf3.cell 3 rfl, T02_yf3.cell 4 rfl, ⟨BB2_yf3, R02_yf3, T02_yf3, RA2_yf3, RG2_yf3⟩⟩
              have zz_yf3 := b_yf3.size
              clear BB_yf3 R0_yf3 T0_yf3 RA_yf3 RG_yf3 BB2_yf3 R02_yf3 T02_yf3 RA2_yf3 RG2_yf3
              try dsimp only
              refine hK.out _ _ kvyf3 ?_; clear hK K hHeld; intro hHeld; try simp only [Act.put, List.setIfInBounds_toArray, List.set_cons_zero, List.set_cons_succ]
              refine wpAnyH_ready (rs := [3, 8]) (by kernel_rfl) (by simp) ?_
              refine (AllReadyH.cons (o := ⟨some 98, .call ⟨.value (.func 19), #[.tmp 97], #[48]⟩, 32, _, _, none⟩) rfl (fun K hK => ?_) (AllReadyH.cons (o := ⟨some 15, .alloc 28, 0, _, _, none⟩) rfl (fun K hK => ?_) AllReadyH.nil))
              · go_simp
                refine (Tu.toTurn aD aE aL aF aR nD cD nE cE nL cL nF cF nR cR ds es ls fs rs _ ((rD.later hHeld.2.2.2.2.2.2.2.2.2.2.2.2.2.2.out.1 (Nat.le_refl _)).more hHeld.2.2.2.2.2.2.2.2.2.2.2.2.2.2.out.1.size) ((rE.later hHeld.2.2.2.2.2.2.2.2.2.2.2.2.2.2.out.1 (Nat.le_refl _)).more hHeld.2.2.2.2.2.2.2.2.2.2.2.2.2.2.out.1.size) ((rL.later hHeld.2.2.2.2.2.2.2.2.2.2.2.2.2.2.out.1 (Nat.le_refl _)).more hHeld.2.2.2.2.2.2.2.2.2.2.2.2.2.2.out.1.size) ((rF.later hHeld.2.2.2.2.2.2.2.2.2.2.2.2.2.2.out.1 (Nat.le_refl _)).more hHeld.2.2.2.2.2.2.2.2.2.2.2.2.2.2.out.1.size) ((rR.later hHeld.2.2.2.2.2.2.2.2.2.2.2.2.2.2.out.1 (Nat.le_refl _)).more hHeld.2.2.2.2.2.2.2.2.2.2.2.2.2.2.out.1.size) hz).mono ?_
                rintro e wTT ⟨⟨g0, g1, g2, g3, g4, rfl, hT⟩, b_yf4⟩
                have ⟨BB_yf4, R0_yf4, T0_yf4, RA_yf4, RG_yf4⟩ := hHeld.2.2.2.2.2.2.2.2.2.2.2.2.2.2.out
                have BB2_yf4 := BB_yf4.trans (b_yf4.mono BB_yf4.size)
                have R02_yf4 := R0_yf4.below b_yf4
                have T02_yf4 := T0_yf4.below b_yf4
                have RA2_yf4 := RA_yf4.below b_yf4
                have RG2_yf4 := RG_yf4.below b_yf4
                have kvyf4 := Tk.kv hK (w := wTT) ⟨R02_yf4.cell 0 rfl, R02_yf4.cell 1 rfl, R02_yf4.cell 2 rfl, R02_yf4.cell 3 rfl, R02_yf4.cell 4 rfl, R02_yf4.cell 5 rfl, R02_yf4.cell 6 rfl, R02_yf4.cell 7 rfl, R02_yf4.cell 8 rfl, T02_yf4.cell 0 rfl, T02_yf4.cell 1 rfl, T02_yf4.cell 2 rfl, T02_yf4.cell 3 rfl, T02_yf4.cell 4 rfl, ⟨BB2_yf4, R02_yf4, T02_yf4, RA2_yf4, RG2_yf4⟩⟩
                replace kK := kK.later b_yf4 kK.2.2.1
                replace kO := kO.later b_yf4 kO.2.2.1
                have hTa := hT.all
                have zz_yf4 := b_yf4.size
                clear BB_yf4 R0_yf4 T0_yf4 RA_yf4 RG_yf4 BB2_yf4 R02_yf4 T02_yf4 RA2_yf4 RG2_yf4
                try dsimp only
                refine hK.out _ _ kvyf4 ?_; clear hK K hHeld; intro hHeld; try simp only [Act.put, List.setIfInBounds_toArray, List.set_cons_zero, List.set_cons_succ]
                refine wpAnyH_ready (rs := [4, 8]) (by kernel_rfl) (by simp) ?_
                refine (AllReadyH.cons (o := ⟨some 99, .call ⟨.value (.func 7), #[.tmp 96, .tmp 98], #[28, 32]⟩, 35, _, _, none⟩) rfl (fun K hK => ?_) (AllReadyH.cons (o := ⟨some 15, .alloc 28, 0, _, _, none⟩) rfl (fun K hK => ?_) AllReadyH.nil))
                · go_simp
                  refine (Tu.i_Turned n l d r p s t _ 0 k k _ m m _ _ _ _ _ nD nD nE nE nL nL nF nF nR nR ks os ds es ls fs rs _ kK.1 kK.2.2.2.1 kK.2.2.1 kO.row hTa.1 hTa.2.1 hTa.2.2.1 hTa.2.2.2.1 hTa.2.2.2.2 hk hm hnF hnR hnD hnE hnL htE htL).mono ?_
                  rintro e wTD ⟨⟨hFa, hTr⟩, b_yf5⟩
                  have ⟨BB_yf5, R0_yf5, T0_yf5, RA_yf5, RG_yf5⟩ := hHeld.2.2.2.2.2.2.2.2.2.2.2.2.2.2.out
                  have BB2_yf5 := BB_yf5.trans (b_yf5.mono BB_yf5.size)
                  have R02_yf5 := R0_yf5.below b_yf5
                  have T02_yf5 := T0_yf5.below b_yf5
                  have RA2_yf5 := RA_yf5.below b_yf5
                  have RG2_yf5 := RG_yf5.below b_yf5
                  have kvyf5 := Tk.kv hK (w := wTD) ⟨R02_yf5.cell 0 rfl, R02_yf5.cell 1 rfl, R02_yf5.cell 2 rfl, R02_yf5.cell 3 rfl, R02_yf5.cell 4 rfl, R02_yf5.cell 5 rfl, R02_yf5.cell 6 rfl, R02_yf5.cell 7 rfl, R02_yf5.cell 8 rfl, T02_yf5.cell 0 rfl, T02_yf5.cell 1 rfl, T02_yf5.cell 2 rfl, T02_yf5.cell 3 rfl, T02_yf5.cell 4 rfl, ⟨BB2_yf5, R02_yf5, T02_yf5, RA2_yf5, RG2_yf5⟩⟩
                  obtain rfl := hFa hq
                  clear hFa hTr
                  clear kK kO hT hTa
                  have zz_yf5 := b_yf5.size
                  clear BB_yf5 R0_yf5 T0_yf5 RA_yf5 RG_yf5 BB2_yf5 R02_yf5 T02_yf5 RA2_yf5 RG2_yf5
                  try dsimp only
                  refine hK.out _ _ kvyf5 ?_; clear hK K hHeld; intro hHeld; try simp only [Act.put, List.setIfInBounds_toArray, List.set_cons_zero, List.set_cons_succ]
                  refine Tk.W 5 (some 94) (.move (.tmp 99)) 35 none ?_
                  refine Tk.W 6 (some 100) (.extract (.tmp 94) 0) 28 none ?_
                  refine Tk.W 7 (some 101) (.extract (.tmp 94) 1) 4 none ?_
                  refine Tk.R 8 (some 15) (.alloc 28) 0 none (fun K hK => ?_)
                  go_simp
                  have byf9 : Below wTD.heap.size wTD ((wTD.alloc (.cells #[.int .i64 0, .int .i64 0, .int .i64 0, .int .i64 0, .int .i64 0, .int .i64 0, .slice none 0 0, .slice none 0 0, .int .i64 0] 28))) := (Below.refl wTD.heap.size wTD).alloc (Nat.le_refl _) (.cells #[.int .i64 0, .int .i64 0, .int .i64 0, .int .i64 0, .int .i64 0, .int .i64 0, .slice none 0 0, .slice none 0 0, .int .i64 0] 28)
                  have RN : Rm.Room ((wTD.alloc (.cells #[.int .i64 0, .int .i64 0, .int .i64 0, .int .i64 0, .int .i64 0, .int .i64 0, .slice none 0 0, .slice none 0 0, .int .i64 0] 28))) wTD.heap.size [.int .i64 0, .int .i64 0, .int .i64 0, .int .i64 0, .int .i64 0, .int .i64 0, .slice none 0 0, .slice none 0 0, .int .i64 0] := Rm.Room.new wTD [.int .i64 0, .int .i64 0, .int .i64 0, .int .i64 0, .int .i64 0, .int .i64 0, .slice none 0 0, .slice none 0 0, .int .i64 0] 28
                  have ⟨BB_yf9, R0_yf9, T0_yf9, RA_yf9, RG_yf9⟩ := hHeld.2.2.2.2.2.2.2.2.2.2.2.2.2.2.out
                  have BB2_yf9 := BB_yf9.trans (byf9.mono BB_yf9.size)
                  have R02_yf9 := R0_yf9.below byf9
                  have T02_yf9 := T0_yf9.below byf9
                  have RA2_yf9 := RA_yf9.below byf9
                  have RG2_yf9 := RG_yf9.below byf9
                  have kvyf9 := Tk.kv hK (w := ((wTD.alloc (.cells #[.int .i64 0, .int .i64 0, .int .i64 0, .int .i64 0, .int .i64 0, .int .i64 0, .slice none 0 0, .slice none 0 0, .int .i64 0] 28)))) ⟨R02_yf9.cell 0 rfl, R02_yf9.cell 1 rfl, R02_yf9.cell 2 rfl, R02_yf9.cell 3 rfl, R02_yf9.cell 4 rfl, R02_yf9.cell 5 rfl, R02_yf9.cell 6 rfl, R02_yf9.cell 7 rfl, R02_yf9.cell 8 rfl, T02_yf9.cell 0 rfl, T02_yf9.cell 1 rfl, T02_yf9.cell 2 rfl, T02_yf9.cell 3 rfl, T02_yf9.cell 4 rfl, ⟨BB2_yf9, R02_yf9, T02_yf9, RA2_yf9, RG2_yf9⟩⟩
                  have zn := byf9.size
                  clear byf9
                  clear BB_yf9 R0_yf9 T0_yf9 RA_yf9 RG_yf9 BB2_yf9 R02_yf9 T02_yf9 RA2_yf9 RG2_yf9
                  obtain ⟨XH, hX⟩ : ∃ x, x = wTD.heap.size := ⟨_, rfl⟩
                  rw [← hX] at RN ⊢
                  have hX1 : XH ≤ wTD.heap.size := Nat.le_of_eq hX
                  have hX2 : wTD.heap.size ≤ XH := Nat.le_of_eq hX.symm
                  clear hX
                  have lX : XH < ((wTD.alloc (.cells #[.int .i64 0, .int .i64 0, .int .i64 0, .int .i64 0, .int .i64 0, .int .i64 0, .slice none 0 0, .slice none 0 0, .int .i64 0] 28))).heap.size := RN.lt (by simp)
                  generalize (wTD.alloc (.cells #[.int .i64 0, .int .i64 0, .int .i64 0, .int .i64 0, .int .i64 0, .int .i64 0, .slice none 0 0, .slice none 0 0, .int .i64 0] 28)) = wX at kvyf9 RN lX zn ⊢
                  try dsimp only
                  refine hK.out _ _ kvyf9 ?_; clear hK K hHeld; intro hHeld; try simp only [Act.put, List.setIfInBounds_toArray, List.set_cons_zero, List.set_cons_succ]
                  refine Tk.R 9 none (.store 28 (.tmp 15) (.tmp 100)) 0 none (fun K hK => ?_)
                  have zB := hHeld.2.2.2.2.2.2.2.2.2.2.2.2.2.2.out.1.size
                  have d0 := RN.cell 0 rfl
                  have d1 := RN.cell 1 rfl
                  have d2 := RN.cell 2 rfl
                  have d3 := RN.cell 3 rfl
                  have d4 := RN.cell 4 rfl
                  have d5 := RN.cell 5 rfl
                  have d6 := RN.cell 6 rfl
                  have d7 := RN.cell 7 rfl
                  have d8 := RN.cell 8 rfl
                  have f0 := RN.froz 0 rfl
                  have f1 := RN.froz 1 rfl
                  have f2 := RN.froz 2 rfl
                  have f3 := RN.froz 3 rfl
                  have f4 := RN.froz 4 rfl
                  have f5 := RN.froz 5 rfl
                  have f6 := RN.froz 6 rfl
                  have f7 := RN.froz 7 rfl
                  have f8 := RN.froz 8 rfl
                  go_simp
                  clear d0 f0 d1 f1 d2 f2 d3 f3 d4 f4 d5 f5 d6 f6 d7 f7 d8 f8
                  have bX := Tu.below_over9 (Below.refl XH wX) (g := XH) (Nat.le_refl _) (.int .i64 0) (.int .i64 0) (.int .i64 0) (.int .i64 0) (.int .i64 0) (.int .i64 0) (.slice none 0 0) (.slice none 0 0) (.int .i64 0)
                  have ⟨BB_yf10, R0_yf10, T0_yf10, RA_yf10, RG_yf10⟩ := hHeld.2.2.2.2.2.2.2.2.2.2.2.2.2.2.out
                  have BB2_yf10 := Tu.below_over9 BB_yf10 (g := XH) (by omega) (.int .i64 0) (.int .i64 0) (.int .i64 0) (.int .i64 0) (.int .i64 0) (.int .i64 0) (.slice none 0 0) (.slice none 0 0) (.int .i64 0)
                  have R02_yf10 := R0_yf10.block (bX.block _ (by omega))
                  have T02_yf10 := T0_yf10.block (bX.block _ (by omega))
                  have RA2_yf10 := RA_yf10.block (bX.block _ (by omega))
                  have RG2_yf10 := RG_yf10.block (bX.block _ (by omega))
                  have kvyf10 := Tk.kv hK (w := _) ⟨R02_yf10.cell 0 rfl, R02_yf10.cell 1 rfl, R02_yf10.cell 2 rfl, R02_yf10.cell 3 rfl, R02_yf10.cell 4 rfl, R02_yf10.cell 5 rfl, R02_yf10.cell 6 rfl, R02_yf10.cell 7 rfl, R02_yf10.cell 8 rfl, T02_yf10.cell 0 rfl, T02_yf10.cell 1 rfl, T02_yf10.cell 2 rfl, T02_yf10.cell 3 rfl, T02_yf10.cell 4 rfl, ⟨BB2_yf10, R02_yf10, T02_yf10, RA2_yf10, RG2_yf10⟩⟩
                  replace RN := Rm.over9 RN (.int .i64 0) (.int .i64 0) (.int .i64 0) (.int .i64 0) (.int .i64 0) (.int .i64 0) (.slice none 0 0) (.slice none 0 0) (.int .i64 0)
                  clear bX BB_yf10 R0_yf10 T0_yf10 RA_yf10 RG_yf10 BB2_yf10 R02_yf10 T02_yf10 RA2_yf10 RG2_yf10
                  try dsimp only
                  refine hK.out _ _ kvyf10 ?_; clear hK K hHeld; intro hHeld; try simp only [Act.put, List.setIfInBounds_toArray, List.set_cons_zero, List.set_cons_succ]
                  refine Tk.W 10 (some 16) (.assign (.tmp 101)) 4 none ?_
                  refine wpAnyH_done (by kernel_rfl) ?_ _
                  refine NoPanic.normal ?_
                  have qq := hHeld.2.2.2.2.2.2.2.2.2.2.2.2.2.2.out
                  clear hHeld
                  go_wp2_with fail
                  go_meet
                  case rel => exact ⟨XH, rfl, rfl, ⟨qq.1, qq.2.1, qq.2.2.1, qq.2.2.2.1, qq.2.2.2.2, RN, by omega⟩⟩
                · go_simp
                  have byf12 : Below wTT.heap.size wTT ((wTT.alloc (.cells #[.int .i64 0, .int .i64 0, .int .i64 0, .int .i64 0, .int .i64 0, .int .i64 0, .slice none 0 0, .slice none 0 0, .int .i64 0] 28))) := (Below.refl wTT.heap.size wTT).alloc (Nat.le_refl _) (.cells #[.int .i64 0, .int .i64 0, .int .i64 0, .int .i64 0, .int .i64 0, .int .i64 0, .slice none 0 0, .slice none 0 0, .int .i64 0] 28)
                  have RN : Rm.Room ((wTT.alloc (.cells #[.int .i64 0, .int .i64 0, .int .i64 0, .int .i64 0, .int .i64 0, .int .i64 0, .slice none 0 0, .slice none 0 0, .int .i64 0] 28))) wTT.heap.size [.int .i64 0, .int .i64 0, .int .i64 0, .int .i64 0, .int .i64 0, .int .i64 0, .slice none 0 0, .slice none 0 0, .int .i64 0] := Rm.Room.new wTT [.int .i64 0, .int .i64 0, .int .i64 0, .int .i64 0, .int .i64 0, .int .i64 0, .slice none 0 0, .slice none 0 0, .int .i64 0] 28
                  have ⟨BB_yf12, R0_yf12, T0_yf12, RA_yf12, RG_yf12⟩ := hHeld.2.2.2.2.2.2.2.2.2.2.2.2.2.2.out
                  have BB2_yf12 := BB_yf12.trans (byf12.mono BB_yf12.size)
                  have R02_yf12 := R0_yf12.below byf12
                  have T02_yf12 := T0_yf12.below byf12
                  have RA2_yf12 := RA_yf12.below byf12
                  have RG2_yf12 := RG_yf12.below byf12
                  have kvyf12 := Tk.kv hK (w := ((wTT.alloc (.cells #[.int .i64 0, .int .i64 0, .int .i64 0, .int .i64 0, .int .i64 0, .int .i64 0, .slice none 0 0, .slice none 0 0, .int .i64 0] 28)))) ⟨R02_yf12.cell 0 rfl, R02_yf12.cell 1 rfl, R02_yf12.cell 2 rfl, R02_yf12.cell 3 rfl, R02_yf12.cell 4 rfl, R02_yf12.cell 5 rfl, R02_yf12.cell 6 rfl, R02_yf12.cell 7 rfl, R02_yf12.cell 8 rfl, T02_yf12.cell 0 rfl, T02_yf12.cell 1 rfl, T02_yf12.cell 2 rfl, T02_yf12.cell 3 rfl, T02_yf12.cell 4 rfl, ⟨BB2_yf12, R02_yf12, T02_yf12, RA2_yf12, RG2_yf12⟩⟩
                  replace kK := kK.later byf12 kK.2.2.1
                  replace kO := kO.later byf12 kO.2.2.1
                  replace hT := hT.later byf12
                  clear hTa
                  have zn := byf12.size
                  clear byf12
                  clear BB_yf12 R0_yf12 T0_yf12 RA_yf12 RG_yf12 BB2_yf12 R02_yf12 T02_yf12 RA2_yf12 RG2_yf12
                  obtain ⟨XH, hX⟩ : ∃ x, x = wTT.heap.size := ⟨_, rfl⟩
                  rw [← hX] at RN ⊢
                  have hX1 : XH ≤ wTT.heap.size := Nat.le_of_eq hX
                  have hX2 : wTT.heap.size ≤ XH := Nat.le_of_eq hX.symm
                  clear hX
                  have lX : XH < ((wTT.alloc (.cells #[.int .i64 0, .int .i64 0, .int .i64 0, .int .i64 0, .int .i64 0, .int .i64 0, .slice none 0 0, .slice none 0 0, .int .i64 0] 28))).heap.size := RN.lt (by simp)
                  generalize (wTT.alloc (.cells #[.int .i64 0, .int .i64 0, .int .i64 0, .int .i64 0, .int .i64 0, .int .i64 0, .slice none 0 0, .slice none 0 0, .int .i64 0] 28)) = wX at kvyf12 RN kK kO hT lX zn ⊢
                  have hTa := hT.all
                  try dsimp only
                  refine hK.out _ _ kvyf12 ?_; clear hK K hHeld; intro hHeld; try simp only [Act.put, List.setIfInBounds_toArray, List.set_cons_zero, List.set_cons_succ]
                  refine Tk.R 4 (some 99) (.call ⟨.value (.func 7), #[.tmp 96, .tmp 98], #[28, 32]⟩) 35 none (fun K hK => ?_)
                  go_simp
                  refine (Tu.i_Turned n l d r p s t _ 0 k k _ m m _ _ _ _ _ nD nD nE nE nL nL nF nF nR nR ks os ds es ls fs rs _ kK.1 kK.2.2.2.1 kK.2.2.1 kO.row hTa.1 hTa.2.1 hTa.2.2.1 hTa.2.2.2.1 hTa.2.2.2.2 hk hm hnF hnR hnD hnE hnL htE htL).mono ?_
                  rintro e wTD ⟨⟨hFa, hTr⟩, b_yf13⟩
                  have ⟨BB_yf13, R0_yf13, T0_yf13, RA_yf13, RG_yf13⟩ := hHeld.2.2.2.2.2.2.2.2.2.2.2.2.2.2.out
                  have BB2_yf13 := BB_yf13.trans (b_yf13.mono BB_yf13.size)
                  have R02_yf13 := R0_yf13.below b_yf13
                  have T02_yf13 := T0_yf13.below b_yf13
                  have RA2_yf13 := RA_yf13.below b_yf13
                  have RG2_yf13 := RG_yf13.below b_yf13
                  have kvyf13 := Tk.kv hK (w := wTD) ⟨R02_yf13.cell 0 rfl, R02_yf13.cell 1 rfl, R02_yf13.cell 2 rfl, R02_yf13.cell 3 rfl, R02_yf13.cell 4 rfl, R02_yf13.cell 5 rfl, R02_yf13.cell 6 rfl, R02_yf13.cell 7 rfl, R02_yf13.cell 8 rfl, T02_yf13.cell 0 rfl, T02_yf13.cell 1 rfl, T02_yf13.cell 2 rfl, T02_yf13.cell 3 rfl, T02_yf13.cell 4 rfl, ⟨BB2_yf13, R02_yf13, T02_yf13, RA2_yf13, RG2_yf13⟩⟩
                  obtain rfl := hFa hq
                  clear hFa hTr
                  replace RN := RN.below b_yf13
                  clear kK kO hT hTa
                  have zz_yf13 := b_yf13.size
                  clear BB_yf13 R0_yf13 T0_yf13 RA_yf13 RG_yf13 BB2_yf13 R02_yf13 T02_yf13 RA2_yf13 RG2_yf13
                  try dsimp only
                  refine hK.out _ _ kvyf13 ?_; clear hK K hHeld; intro hHeld; try simp only [Act.put, List.setIfInBounds_toArray, List.set_cons_zero, List.set_cons_succ]
                  refine Tk.W 5 (some 94) (.move (.tmp 99)) 35 none ?_
                  refine Tk.W 6 (some 100) (.extract (.tmp 94) 0) 28 none ?_
                  refine Tk.W 7 (some 101) (.extract (.tmp 94) 1) 4 none ?_
                  refine Tk.R 9 none (.store 28 (.tmp 15) (.tmp 100)) 0 none (fun K hK => ?_)
                  have zB := hHeld.2.2.2.2.2.2.2.2.2.2.2.2.2.2.out.1.size
                  have d0 := RN.cell 0 rfl
                  have d1 := RN.cell 1 rfl
                  have d2 := RN.cell 2 rfl
                  have d3 := RN.cell 3 rfl
                  have d4 := RN.cell 4 rfl
                  have d5 := RN.cell 5 rfl
                  have d6 := RN.cell 6 rfl
                  have d7 := RN.cell 7 rfl
                  have d8 := RN.cell 8 rfl
                  have f0 := RN.froz 0 rfl
                  have f1 := RN.froz 1 rfl
                  have f2 := RN.froz 2 rfl
                  have f3 := RN.froz 3 rfl
                  have f4 := RN.froz 4 rfl
                  have f5 := RN.froz 5 rfl
                  have f6 := RN.froz 6 rfl
                  have f7 := RN.froz 7 rfl
                  have f8 := RN.froz 8 rfl
                  go_simp
                  clear d0 f0 d1 f1 d2 f2 d3 f3 d4 f4 d5 f5 d6 f6 d7 f7 d8 f8
                  have bX := Tu.below_over9 (Below.refl XH wTD) (g := XH) (Nat.le_refl _) (.int .i64 0) (.int .i64 0) (.int .i64 0) (.int .i64 0) (.int .i64 0) (.int .i64 0) (.slice none 0 0) (.slice none 0 0) (.int .i64 0)
                  have ⟨BB_yf17, R0_yf17, T0_yf17, RA_yf17, RG_yf17⟩ := hHeld.2.2.2.2.2.2.2.2.2.2.2.2.2.2.out
                  have BB2_yf17 := Tu.below_over9 BB_yf17 (g := XH) (by omega) (.int .i64 0) (.int .i64 0) (.int .i64 0) (.int .i64 0) (.int .i64 0) (.int .i64 0) (.slice none 0 0) (.slice none 0 0) (.int .i64 0)
                  have R02_yf17 := R0_yf17.block (bX.block _ (by omega))
                  have T02_yf17 := T0_yf17.block (bX.block _ (by omega))
                  have RA2_yf17 := RA_yf17.block (bX.block _ (by omega))
                  have RG2_yf17 := RG_yf17.block (bX.block _ (by omega))
                  have kvyf17 := Tk.kv hK (w := _) ⟨R02_yf17.cell 0 rfl, R02_yf17.cell 1 rfl, R02_yf17.cell 2 rfl, R02_yf17.cell 3 rfl, R02_yf17.cell 4 rfl, R02_yf17.cell 5 rfl, R02_yf17.cell 6 rfl, R02_yf17.cell 7 rfl, R02_yf17.cell 8 rfl, T02_yf17.cell 0 rfl, T02_yf17.cell 1 rfl, T02_yf17.cell 2 rfl, T02_yf17.cell 3 rfl, T02_yf17.cell 4 rfl, ⟨BB2_yf17, R02_yf17, T02_yf17, RA2_yf17, RG2_yf17⟩⟩
                  replace RN := Rm.over9 RN (.int .i64 0) (.int .i64 0) (.int .i64 0) (.int .i64 0) (.int .i64 0) (.int .i64 0) (.slice none 0 0) (.slice none 0 0) (.int .i64 0)
                  clear bX BB_yf17 R0_yf17 T0_yf17 RA_yf17 RG_yf17 BB2_yf17 R02_yf17 T02_yf17 RA2_yf17 RG2_yf17
                  try dsimp only
                  refine hK.out _ _ kvyf17 ?_; clear hK K hHeld; intro hHeld; try simp only [Act.put, List.setIfInBounds_toArray, List.set_cons_zero, List.set_cons_succ]
                  refine Tk.W 10 (some 16) (.assign (.tmp 101)) 4 none ?_
                  refine wpAnyH_done (by kernel_rfl) ?_ _
                  refine NoPanic.normal ?_
                  have qq := hHeld.2.2.2.2.2.2.2.2.2.2.2.2.2.2.out
                  clear hHeld
                  go_wp2_with fail
                  go_meet
                  case rel => exact ⟨XH, rfl, rfl, ⟨qq.1, qq.2.1, qq.2.2.1, qq.2.2.2.1, qq.2.2.2.2, RN, by omega⟩⟩
              · go_simp
                have byf19 : Below wTW.heap.size wTW ((wTW.alloc (.cells #[.int .i64 0, .int .i64 0, .int .i64 0, .int .i64 0, .int .i64 0, .int .i64 0, .slice none 0 0, .slice none 0 0, .int .i64 0] 28))) := (Below.refl wTW.heap.size wTW).alloc (Nat.le_refl _) (.cells #[.int .i64 0, .int .i64 0, .int .i64 0, .int .i64 0, .int .i64 0, .int .i64 0, .slice none 0 0, .slice none 0 0, .int .i64 0] 28)
                have RN : Rm.Room ((wTW.alloc (.cells #[.int .i64 0, .int .i64 0, .int .i64 0, .int .i64 0, .int .i64 0, .int .i64 0, .slice none 0 0, .slice none 0 0, .int .i64 0] 28))) wTW.heap.size [.int .i64 0, .int .i64 0, .int .i64 0, .int .i64 0, .int .i64 0, .int .i64 0, .slice none 0 0, .slice none 0 0, .int .i64 0] := Rm.Room.new wTW [.int .i64 0, .int .i64 0, .int .i64 0, .int .i64 0, .int .i64 0, .int .i64 0, .slice none 0 0, .slice none 0 0, .int .i64 0] 28
                have ⟨BB_yf19, R0_yf19, T0_yf19, RA_yf19, RG_yf19⟩ := hHeld.2.2.2.2.2.2.2.2.2.2.2.2.2.2.out
                have BB2_yf19 := BB_yf19.trans (byf19.mono BB_yf19.size)
                have R02_yf19 := R0_yf19.below byf19
                have T02_yf19 := T0_yf19.below byf19
                have RA2_yf19 := RA_yf19.below byf19
                have RG2_yf19 := RG_yf19.below byf19
                have kvyf19 := Tk.kv hK (w := ((wTW.alloc (.cells #[.int .i64 0, .int .i64 0, .int .i64 0, .int .i64 0, .int .i64 0, .int .i64 0, .slice none 0 0, .slice none 0 0, .int .i64 0] 28)))) ⟨R02_yf19.cell 0 rfl, R02_yf19.cell 1 rfl, R02_yf19.cell 2 rfl, R02_yf19.cell 3 rfl, R02_yf19.cell 4 rfl, R02_yf19.cell 5 rfl, R02_yf19.cell 6 rfl, R02_yf19.cell 7 rfl, R02_yf19.cell 8 rfl, T02_yf19.cell 0 rfl, T02_yf19.cell 1 rfl, T02_yf19.cell 2 rfl, T02_yf19.cell 3 rfl, T02_yf19.cell 4 rfl, ⟨BB2_yf19, R02_yf19, T02_yf19, RA2_yf19, RG2_yf19⟩⟩
                replace kK := kK.later byf19 kK.2.2.1
                replace kO := kO.later byf19 kO.2.2.1
                have zn := byf19.size
                clear byf19
                clear BB_yf19 R0_yf19 T0_yf19 RA_yf19 RG_yf19 BB2_yf19 R02_yf19 T02_yf19 RA2_yf19 RG2_yf19
                obtain ⟨XH, hX⟩ : ∃ x, x = wTW.heap.size := ⟨_, rfl⟩
                rw [← hX] at RN ⊢
                have hX1 : XH ≤ wTW.heap.size := Nat.le_of_eq hX
                have hX2 : wTW.heap.size ≤ XH := Nat.le_of_eq hX.symm
                clear hX
                have lX : XH < ((wTW.alloc (.cells #[.int .i64 0, .int .i64 0, .int .i64 0, .int .i64 0, .int .i64 0, .int .i64 0, .slice none 0 0, .slice none 0 0, .int .i64 0] 28))).heap.size := RN.lt (by simp)
                generalize (wTW.alloc (.cells #[.int .i64 0, .int .i64 0, .int .i64 0, .int .i64 0, .int .i64 0, .int .i64 0, .slice none 0 0, .slice none 0 0, .int .i64 0] 28)) = wX at kvyf19 RN kK kO lX zn ⊢
                try dsimp only
                refine hK.out _ _ kvyf19 ?_; clear hK K hHeld; intro hHeld; try simp only [Act.put, List.setIfInBounds_toArray, List.set_cons_zero, List.set_cons_succ]
                refine Tk.R 3 (some 98) (.call ⟨.value (.func 19), #[.tmp 97], #[48]⟩) 32 none (fun K hK => ?_)
                go_simp
                refine (Tu.toTurn aD aE aL aF aR nD cD nE cE nL cL nF cF nR cR ds es ls fs rs _ ((rD.later hHeld.2.2.2.2.2.2.2.2.2.2.2.2.2.2.out.1 (Nat.le_refl _)).more hHeld.2.2.2.2.2.2.2.2.2.2.2.2.2.2.out.1.size) ((rE.later hHeld.2.2.2.2.2.2.2.2.2.2.2.2.2.2.out.1 (Nat.le_refl _)).more hHeld.2.2.2.2.2.2.2.2.2.2.2.2.2.2.out.1.size) ((rL.later hHeld.2.2.2.2.2.2.2.2.2.2.2.2.2.2.out.1 (Nat.le_refl _)).more hHeld.2.2.2.2.2.2.2.2.2.2.2.2.2.2.out.1.size) ((rF.later hHeld.2.2.2.2.2.2.2.2.2.2.2.2.2.2.out.1 (Nat.le_refl _)).more hHeld.2.2.2.2.2.2.2.2.2.2.2.2.2.2.out.1.size) ((rR.later hHeld.2.2.2.2.2.2.2.2.2.2.2.2.2.2.out.1 (Nat.le_refl _)).more hHeld.2.2.2.2.2.2.2.2.2.2.2.2.2.2.out.1.size) hz).mono ?_
                rintro e wTT ⟨⟨g0, g1, g2, g3, g4, rfl, hT⟩, b_yf20⟩
                have ⟨BB_yf20, R0_yf20, T0_yf20, RA_yf20, RG_yf20⟩ := hHeld.2.2.2.2.2.2.2.2.2.2.2.2.2.2.out
                have BB2_yf20 := BB_yf20.trans (b_yf20.mono BB_yf20.size)
                have R02_yf20 := R0_yf20.below b_yf20
                have T02_yf20 := T0_yf20.below b_yf20
                have RA2_yf20 := RA_yf20.below b_yf20
                have RG2_yf20 := RG_yf20.below b_yf20
                have kvyf20 := Tk.kv hK (w := wTT) ⟨R02_yf20.cell 0 rfl, R02_yf20.cell 1 rfl, R02_yf20.cell 2 rfl, R02_yf20.cell 3 rfl, R02_yf20.cell 4 rfl, R02_yf20.cell 5 rfl, R02_yf20.cell 6 rfl, R02_yf20.cell 7 rfl, R02_yf20.cell 8 rfl, T02_yf20.cell 0 rfl, T02_yf20.cell 1 rfl, T02_yf20.cell 2 rfl, T02_yf20.cell 3 rfl, T02_yf20.cell 4 rfl, ⟨BB2_yf20, R02_yf20, T02_yf20, RA2_yf20, RG2_yf20⟩⟩
                replace RN := RN.below b_yf20
                replace kK := kK.later b_yf20 kK.2.2.1
                replace kO := kO.later b_yf20 kO.2.2.1
                have hTa := hT.all
                have zz_yf20 := b_yf20.size
                clear BB_yf20 R0_yf20 T0_yf20 RA_yf20 RG_yf20 BB2_yf20 R02_yf20 T02_yf20 RA2_yf20 RG2_yf20
                try dsimp only
                refine hK.out _ _ kvyf20 ?_; clear hK K hHeld; intro hHeld; try simp only [Act.put, List.setIfInBounds_toArray, List.set_cons_zero, List.set_cons_succ]
                refine Tk.R 4 (some 99) (.call ⟨.value (.func 7), #[.tmp 96, .tmp 98], #[28, 32]⟩) 35 none (fun K hK => ?_)
                go_simp
                refine (Tu.i_Turned n l d r p s t _ 0 k k _ m m _ _ _ _ _ nD nD nE nE nL nL nF nF nR nR ks os ds es ls fs rs _ kK.1 kK.2.2.2.1 kK.2.2.1 kO.row hTa.1 hTa.2.1 hTa.2.2.1 hTa.2.2.2.1 hTa.2.2.2.2 hk hm hnF hnR hnD hnE hnL htE htL).mono ?_
                rintro e wTD ⟨⟨hFa, hTr⟩, b_yf21⟩
                have ⟨BB_yf21, R0_yf21, T0_yf21, RA_yf21, RG_yf21⟩ := hHeld.2.2.2.2.2.2.2.2.2.2.2.2.2.2.out
                have BB2_yf21 := BB_yf21.trans (b_yf21.mono BB_yf21.size)
                have R02_yf21 := R0_yf21.below b_yf21
                have T02_yf21 := T0_yf21.below b_yf21
                have RA2_yf21 := RA_yf21.below b_yf21
                have RG2_yf21 := RG_yf21.below b_yf21
                have kvyf21 := Tk.kv hK (w := wTD) ⟨R02_yf21.cell 0 rfl, R02_yf21.cell 1 rfl, R02_yf21.cell 2 rfl, R02_yf21.cell 3 rfl, R02_yf21.cell 4 rfl, R02_yf21.cell 5 rfl, R02_yf21.cell 6 rfl, R02_yf21.cell 7 rfl, R02_yf21.cell 8 rfl, T02_yf21.cell 0 rfl, T02_yf21.cell 1 rfl, T02_yf21.cell 2 rfl, T02_yf21.cell 3 rfl, T02_yf21.cell 4 rfl, ⟨BB2_yf21, R02_yf21, T02_yf21, RA2_yf21, RG2_yf21⟩⟩
                obtain rfl := hFa hq
                clear hFa hTr
                replace RN := RN.below b_yf21
                clear kK kO hT hTa
                have zz_yf21 := b_yf21.size
                clear BB_yf21 R0_yf21 T0_yf21 RA_yf21 RG_yf21 BB2_yf21 R02_yf21 T02_yf21 RA2_yf21 RG2_yf21
                try dsimp only
                refine hK.out _ _ kvyf21 ?_; clear hK K hHeld; intro hHeld; try simp only [Act.put, List.setIfInBounds_toArray, List.set_cons_zero, List.set_cons_succ]
                refine Tk.W 5 (some 94) (.move (.tmp 99)) 35 none ?_
                refine Tk.W 6 (some 100) (.extract (.tmp 94) 0) 28 none ?_
                refine Tk.W 7 (some 101) (.extract (.tmp 94) 1) 4 none ?_
                refine Tk.R 9 none (.store 28 (.tmp 15) (.tmp 100)) 0 none (fun K hK => ?_)
                have zB := hHeld.2.2.2.2.2.2.2.2.2.2.2.2.2.2.out.1.size
                have d0 := RN.cell 0 rfl
                have d1 := RN.cell 1 rfl
                have d2 := RN.cell 2 rfl
                have d3 := RN.cell 3 rfl
                have d4 := RN.cell 4 rfl
                have d5 := RN.cell 5 rfl
                have d6 := RN.cell 6 rfl
                have d7 := RN.cell 7 rfl
                have d8 := RN.cell 8 rfl
                have f0 := RN.froz 0 rfl
                have f1 := RN.froz 1 rfl
                have f2 := RN.froz 2 rfl
                have f3 := RN.froz 3 rfl
                have f4 := RN.froz 4 rfl
                have f5 := RN.froz 5 rfl
                have f6 := RN.froz 6 rfl
                have f7 := RN.froz 7 rfl
                have f8 := RN.froz 8 rfl
                go_simp
                clear d0 f0 d1 f1 d2 f2 d3 f3 d4 f4 d5 f5 d6 f6 d7 f7 d8 f8
                have bX := Tu.below_over9 (Below.refl XH wTD) (g := XH) (Nat.le_refl _) (.int .i64 0) (.int .i64 0) (.int .i64 0) (.int .i64 0) (.int .i64 0) (.int .i64 0) (.slice none 0 0) (.slice none 0 0) (.int .i64 0)
                have ⟨BB_yf25, R0_yf25, T0_yf25, RA_yf25, RG_yf25⟩ := hHeld.2.2.2.2.2.2.2.2.2.2.2.2.2.2.out
                have BB2_yf25 := Tu.below_over9 BB_yf25 (g := XH) (by omega) (.int .i64 0) (.int .i64 0) (.int .i64 0) (.int .i64 0) (.int .i64 0) (.int .i64 0) (.slice none 0 0) (.slice none 0 0) (.int .i64 0)
                have R02_yf25 := R0_yf25.block (bX.block _ (by omega))
                have T02_yf25 := T0_yf25.block (bX.block _ (by omega))
                have RA2_yf25 := RA_yf25.block (bX.block _ (by omega))
                have RG2_yf25 := RG_yf25.block (bX.block _ (by omega))
                have kvyf25 := Tk.kv hK (w := _) ⟨R02_yf25.cell 0 rfl, R02_yf25.cell 1 rfl, R02_yf25.cell 2 rfl, R02_yf25.cell 3 rfl, R02_yf25.cell 4 rfl, R02_yf25.cell 5 rfl, R02_yf25.cell 6 rfl, R02_yf25.cell 7 rfl, R02_yf25.cell 8 rfl, T02_yf25.cell 0 rfl, T02_yf25.cell 1 rfl, T02_yf25.cell 2 rfl, T02_yf25.cell 3 rfl, T02_yf25.cell 4 rfl, ⟨BB2_yf25, R02_yf25, T02_yf25, RA2_yf25, RG2_yf25⟩⟩
                replace RN := Rm.over9 RN (.int .i64 0) (.int .i64 0) (.int .i64 0) (.int .i64 0) (.int .i64 0) (.int .i64 0) (.slice none 0 0) (.slice none 0 0) (.int .i64 0)
                clear bX BB_yf25 R0_yf25 T0_yf25 RA_yf25 RG_yf25 BB2_yf25 R02_yf25 T02_yf25 RA2_yf25 RG2_yf25
                try dsimp only
                refine hK.out _ _ kvyf25 ?_; clear hK K hHeld; intro hHeld; try simp only [Act.put, List.setIfInBounds_toArray, List.set_cons_zero, List.set_cons_succ]
                refine Tk.W 10 (some 16) (.assign (.tmp 101)) 4 none ?_
                refine wpAnyH_done (by kernel_rfl) ?_ _
                refine NoPanic.normal ?_
                have qq := hHeld.2.2.2.2.2.2.2.2.2.2.2.2.2.2.out
                clear hHeld
                go_wp2_with fail
                go_meet
                case rel => exact ⟨XH, rfl, rfl, ⟨qq.1, qq.2.1, qq.2.2.1, qq.2.2.2.1, qq.2.2.2.2, RN, by omega⟩⟩
            · go_simp
              have byf27 : Below wh.drew.heap.size wh.drew ((wh.alloc (.cells #[.int .i64 0, .int .i64 0, .int .i64 0, .int .i64 0, .int .i64 0, .int .i64 0, .slice none 0 0, .slice none 0 0, .int .i64 0] 28)).drew) := (Below.refl wh.drew.heap.size wh.drew).alloc (Nat.le_refl _) (.cells #[.int .i64 0, .int .i64 0, .int .i64 0, .int .i64 0, .int .i64 0, .int .i64 0, .slice none 0 0, .slice none 0 0, .int .i64 0] 28)
              have RN : Rm.Room ((wh.alloc (.cells #[.int .i64 0, .int .i64 0, .int .i64 0, .int .i64 0, .int .i64 0, .int .i64 0, .slice none 0 0, .slice none 0 0, .int .i64 0] 28)).drew) wh.heap.size [.int .i64 0, .int .i64 0, .int .i64 0, .int .i64 0, .int .i64 0, .int .i64 0, .slice none 0 0, .slice none 0 0, .int .i64 0] := Rm.Room.new wh.drew [.int .i64 0, .int .i64 0, .int .i64 0, .int .i64 0, .int .i64 0, .int .i64 0, .slice none 0 0, .slice none 0 0, .int .i64 0] 28
              have ⟨BB_yf27, R0_yf27, T0_yf27, RA_yf27, RG_yf27⟩ := hHeld.2.2.2.2.2.2.2.2.2.2.2.2.2.2.out
              have BB2_yf27 := BB_yf27.trans (byf27.mono BB_yf27.size)
              have R02_yf27 := R0_yf27.below byf27
              have T02_yf27 := T0_yf27.below byf27
              have RA2_yf27 := RA_yf27.below byf27
              have RG2_yf27 := RG_yf27.below byf27
              have kvyf27 := Tk.kv hK (w := ((wh.alloc (.cells #[.int .i64 0, .int .i64 0, .int .i64 0, .int .i64 0, .int .i64 0, .int .i64 0, .slice none 0 0, .slice none 0 0, .int .i64 0] 28)).drew)) ⟨R02_yf27.cell 0 rfl, R02_yf27.cell 1 rfl, R02_yf27.cell 2 rfl, R02_yf27.cell 3 rfl, R02_yf27.cell 4 rfl, R02_yf27.cell 5 rfl, R02_yf27.cell 6 rfl, R02_yf27.cell 7 rfl, R02_yf27.cell 8 rfl, T02_yf27.cell 0 rfl, T02_yf27.cell 1 rfl, T02_yf27.cell 2 rfl, T02_yf27.cell 3 rfl, T02_yf27.cell 4 rfl, ⟨BB2_yf27, R02_yf27, T02_yf27, RA2_yf27, RG2_yf27⟩⟩
              have zn := byf27.size
              clear byf27
              clear BB_yf27 R0_yf27 T0_yf27 RA_yf27 RG_yf27 BB2_yf27 R02_yf27 T02_yf27 RA2_yf27 RG2_yf27
              obtain ⟨XH, hX⟩ : ∃ x, x = wh.heap.size := ⟨_, rfl⟩
              rw [← hX] at RN ⊢
              have hX1 : XH ≤ wh.heap.size := Nat.le_of_eq hX
              have hX2 : wh.heap.size ≤ XH := Nat.le_of_eq hX.symm
              clear hX
              have lX : XH < ((wh.alloc (.cells #[.int .i64 0, .int .i64 0, .int .i64 0, .int .i64 0, .int .i64 0, .int .i64 0, .slice none 0 0, .slice none 0 0, .int .i64 0] 28)).drew).heap.size := RN.lt (by simp)
              generalize (wh.alloc (.cells #[.int .i64 0, .int .i64 0, .int .i64 0, .int .i64 0, .int .i64 0, .int .i64 0, .slice none 0 0, .slice none 0 0, .int .i64 0] 28)).drew = wX at kvyf27 RN lX zn ⊢
              try dsimp only
              refine hK.out _ _ kvyf27 ?_; clear hK K hHeld; intro hHeld; try simp only [Act.put, List.setIfInBounds_toArray, List.set_cons_zero, List.set_cons_succ]
              refine Tk.R 1 (some 96) (.call ⟨.value (.func 18), #[.tmp 95], #[47]⟩) 28 none (fun K hK => ?_)
              go_simp
              refine (Wl.toWorld n l d r p s t a b k ka m mb ks os _ ((hr.later hHeld.2.2.2.2.2.2.2.2.2.2.2.2.2.2.out.1 (Nat.le_refl _)).more hHeld.2.2.2.2.2.2.2.2.2.2.2.2.2.2.out.1.size) ((hs.later hHeld.2.2.2.2.2.2.2.2.2.2.2.2.2.2.out.1 (Nat.le_refl _)).more hHeld.2.2.2.2.2.2.2.2.2.2.2.2.2.2.out.1.size) hk hm).mono ?_
              rintro e wTW ⟨⟨gk, go, rfl, kK, kO, _⟩, b_yf28⟩
              have ⟨BB_yf28, R0_yf28, T0_yf28, RA_yf28, RG_yf28⟩ := hHeld.2.2.2.2.2.2.2.2.2.2.2.2.2.2.out
              have BB2_yf28 := BB_yf28.trans (b_yf28.mono BB_yf28.size)
              have R02_yf28 := R0_yf28.below b_yf28
              have T02_yf28 := T0_yf28.below b_yf28
              have RA2_yf28 := RA_yf28.below b_yf28
              have RG2_yf28 := RG_yf28.below b_yf28
              have kvyf28 := Tk.kv hK (w := wTW) ⟨R02_yf28.cell 0 rfl, R02_yf28.cell 1 rfl, R02_yf28.cell 2 rfl, R02_yf28.cell 3 rfl, R02_yf28.cell 4 rfl, R02_yf28.cell 5 rfl, R02_yf28.cell 6 rfl, R02_yf28.cell 7 rfl, R02_yf28.cell 8 rfl, T02_yf28.cell 0 rfl, T02_yf28.cell 1 rfl, T02_yf28.cell 2 rfl, T02_yf28.cell 3 rfl, T02_yf28.cell 4 rfl, ⟨BB2_yf28, R02_yf28, T02_yf28, RA2_yf28, RG2_yf28⟩⟩
              replace RN := RN.below b_yf28
              have zz_yf28 := b_yf28.size
              clear BB_yf28 R0_yf28 T0_yf28 RA_yf28 RG_yf28 BB2_yf28 R02_yf28 T02_yf28 RA2_yf28 RG2_yf28
              try dsimp only
              refine hK.out _ _ kvyf28 ?_; clear hK K hHeld; intro hHeld; try simp only [Act.put, List.setIfInBounds_toArray, List.set_cons_zero, List.set_cons_succ]
              refine Tk.R 3 (some 98) (.call ⟨.value (.func 19), #[.tmp 97], #[48]⟩) 32 none (fun K hK => ?_)
              go_simp
              refine (Tu.toTurn aD aE aL aF aR nD cD nE cE nL cL nF cF nR cR ds es ls fs rs _ ((rD.later hHeld.2.2.2.2.2.2.2.2.2.2.2.2.2.2.out.1 (Nat.le_refl _)).more hHeld.2.2.2.2.2.2.2.2.2.2.2.2.2.2.out.1.size) ((rE.later hHeld.2.2.2.2.2.2.2.2.2.2.2.2.2.2.out.1 (Nat.le_refl _)).more hHeld.2.2.2.2.2.2.2.2.2.2.2.2.2.2.out.1.size) ((rL.later hHeld.2.2.2.2.2.2.2.2.2.2.2.2.2.2.out.1 (Nat.le_refl _)).more hHeld.2.2.2.2.2.2.2.2.2.2.2.2.2.2.out.1.size) ((rF.later hHeld.2.2.2.2.2.2.2.2.2.2.2.2.2.2.out.1 (Nat.le_refl _)).more hHeld.2.2.2.2.2.2.2.2.2.2.2.2.2.2.out.1.size) ((rR.later hHeld.2.2.2.2.2.2.2.2.2.2.2.2.2.2.out.1 (Nat.le_refl _)).more hHeld.2.2.2.2.2.2.2.2.2.2.2.2.2.2.out.1.size) hz).mono ?_
              rintro e wTT ⟨⟨g0, g1, g2, g3, g4, rfl, hT⟩, b_yf29⟩
              have ⟨BB_yf29, R0_yf29, T0_yf29, RA_yf29, RG_yf29⟩ := hHeld.2.2.2.2.2.2.2.2.2.2.2.2.2.2.out
              have BB2_yf29 := BB_yf29.trans (b_yf29.mono BB_yf29.size)
              have R02_yf29 := R0_yf29.below b_yf29
              have T02_yf29 := T0_yf29.below b_yf29
              have RA2_yf29 := RA_yf29.below b_yf29
              have RG2_yf29 := RG_yf29.below b_yf29
              have kvyf29 := Tk.kv hK (w := wTT) ⟨R02_yf29.cell 0 rfl, R02_yf29.cell 1 rfl, R02_yf29.cell 2 rfl, R02_yf29.cell 3 rfl, R02_yf29.cell 4 rfl, R02_yf29.cell 5 rfl, R02_yf29.cell 6 rfl, R02_yf29.cell 7 rfl, R02_yf29.cell 8 rfl, T02_yf29.cell 0 rfl, T02_yf29.cell 1 rfl, T02_yf29.cell 2 rfl, T02_yf29.cell 3 rfl, T02_yf29.cell 4 rfl, ⟨BB2_yf29, R02_yf29, T02_yf29, RA2_yf29, RG2_yf29⟩⟩
              replace RN := RN.below b_yf29
              replace kK := kK.later b_yf29 kK.2.2.1
              replace kO := kO.later b_yf29 kO.2.2.1
              have hTa := hT.all
              have zz_yf29 := b_yf29.size
              clear BB_yf29 R0_yf29 T0_yf29 RA_yf29 RG_yf29 BB2_yf29 R02_yf29 T02_yf29 RA2_yf29 RG2_yf29
              try dsimp only
              refine hK.out _ _ kvyf29 ?_; clear hK K hHeld; intro hHeld; try simp only [Act.put, List.setIfInBounds_toArray, List.set_cons_zero, List.set_cons_succ]
              refine Tk.R 4 (some 99) (.call ⟨.value (.func 7), #[.tmp 96, .tmp 98], #[28, 32]⟩) 35 none (fun K hK => ?_)
              go_simp
              refine (Tu.i_Turned n l d r p s t _ 0 k k _ m m _ _ _ _ _ nD nD nE nE nL nL nF nF nR nR ks os ds es ls fs rs _ kK.1 kK.2.2.2.1 kK.2.2.1 kO.row hTa.1 hTa.2.1 hTa.2.2.1 hTa.2.2.2.1 hTa.2.2.2.2 hk hm hnF hnR hnD hnE hnL htE htL).mono ?_
              rintro e wTD ⟨⟨hFa, hTr⟩, b_yf30⟩
              have ⟨BB_yf30, R0_yf30, T0_yf30, RA_yf30, RG_yf30⟩ := hHeld.2.2.2.2.2.2.2.2.2.2.2.2.2.2.out
              have BB2_yf30 := BB_yf30.trans (b_yf30.mono BB_yf30.size)
              have R02_yf30 := R0_yf30.below b_yf30
              have T02_yf30 := T0_yf30.below b_yf30
              have RA2_yf30 := RA_yf30.below b_yf30
              have RG2_yf30 := RG_yf30.below b_yf30
              have kvyf30 := Tk.kv hK (w := wTD) ⟨R02_yf30.cell 0 rfl, R02_yf30.cell 1 rfl, R02_yf30.cell 2 rfl, R02_yf30.cell 3 rfl, R02_yf30.cell 4 rfl, R02_yf30.cell 5 rfl, R02_yf30.cell 6 rfl, R02_yf30.cell 7 rfl, R02_yf30.cell 8 rfl, T02_yf30.cell 0 rfl, T02_yf30.cell 1 rfl, T02_yf30.cell 2 rfl, T02_yf30.cell 3 rfl, T02_yf30.cell 4 rfl, ⟨BB2_yf30, R02_yf30, T02_yf30, RA2_yf30, RG2_yf30⟩⟩
              obtain rfl := hFa hq
              clear hFa hTr
              replace RN := RN.below b_yf30
              clear kK kO hT hTa
              have zz_yf30 := b_yf30.size
              clear BB_yf30 R0_yf30 T0_yf30 RA_yf30 RG_yf30 BB2_yf30 R02_yf30 T02_yf30 RA2_yf30 RG2_yf30
              try dsimp only
              refine hK.out _ _ kvyf30 ?_; clear hK K hHeld; intro hHeld; try simp only [Act.put, List.setIfInBounds_toArray, List.set_cons_zero, List.set_cons_succ]
              refine Tk.W 5 (some 94) (.move (.tmp 99)) 35 none ?_
              refine Tk.W 6 (some 100) (.extract (.tmp 94) 0) 28 none ?_
              refine Tk.W 7 (some 101) (.extract (.tmp 94) 1) 4 none ?_
              refine Tk.R 9 none (.store 28 (.tmp 15) (.tmp 100)) 0 none (fun K hK => ?_)
              have zB := hHeld.2.2.2.2.2.2.2.2.2.2.2.2.2.2.out.1.size
              have d0 := RN.cell 0 rfl
              have d1 := RN.cell 1 rfl
              have d2 := RN.cell 2 rfl
              have d3 := RN.cell 3 rfl
              have d4 := RN.cell 4 rfl
              have d5 := RN.cell 5 rfl
              have d6 := RN.cell 6 rfl
              have d7 := RN.cell 7 rfl
              have d8 := RN.cell 8 rfl
              have f0 := RN.froz 0 rfl
              have f1 := RN.froz 1 rfl
              have f2 := RN.froz 2 rfl
              have f3 := RN.froz 3 rfl
              have f4 := RN.froz 4 rfl
              have f5 := RN.froz 5 rfl
              have f6 := RN.froz 6 rfl
              have f7 := RN.froz 7 rfl
              have f8 := RN.froz 8 rfl
              go_simp
              clear d0 f0 d1 f1 d2 f2 d3 f3 d4 f4 d5 f5 d6 f6 d7 f7 d8 f8
              have bX := Tu.below_over9 (Below.refl XH wTD) (g := XH) (Nat.le_refl _) (.int .i64 0) (.int .i64 0) (.int .i64 0) (.int .i64 0) (.int .i64 0) (.int .i64 0) (.slice none 0 0) (.slice none 0 0) (.int .i64 0)
              have ⟨BB_yf34, R0_yf34, T0_yf34, RA_yf34, RG_yf34⟩ := hHeld.2.2.2.2.2.2.2.2.2.2.2.2.2.2.out
              have BB2_yf34 := Tu.below_over9 BB_yf34 (g := XH) (by omega) (.int .i64 0) (.int .i64 0) (.int .i64 0) (.int .i64 0) (.int .i64 0) (.int .i64 0) (.slice none 0 0) (.slice none 0 0) (.int .i64 0)
              have R02_yf34 := R0_yf34.block (bX.block _ (by omega))
              have T02_yf34 := T0_yf34.block (bX.block _ (by omega))
              have RA2_yf34 := RA_yf34.block (bX.block _ (by omega))
              have RG2_yf34 := RG_yf34.block (bX.block _ (by omega))
              have kvyf34 := Tk.kv hK (w := _) ⟨R02_yf34.cell 0 rfl, R02_yf34.cell 1 rfl, R02_yf34.cell 2 rfl, R02_yf34.cell 3 rfl, R02_yf34.cell 4 rfl, R02_yf34.cell 5 rfl, R02_yf34.cell 6 rfl, R02_yf34.cell 7 rfl, R02_yf34.cell 8 rfl, T02_yf34.cell 0 rfl, T02_yf34.cell 1 rfl, T02_yf34.cell 2 rfl, T02_yf34.cell 3 rfl, T02_yf34.cell 4 rfl, ⟨BB2_yf34, R02_yf34, T02_yf34, RA2_yf34, RG2_yf34⟩⟩
              replace RN := Rm.over9 RN (.int .i64 0) (.int .i64 0) (.int .i64 0) (.int .i64 0) (.int .i64 0) (.int .i64 0) (.slice none 0 0) (.slice none 0 0) (.int .i64 0)
              clear bX BB_yf34 R0_yf34 T0_yf34 RA_yf34 RG_yf34 BB2_yf34 R02_yf34 T02_yf34 RA2_yf34 RG2_yf34
              try dsimp only
              refine hK.out _ _ kvyf34 ?_; clear hK K hHeld; intro hHeld; try simp only [Act.put, List.setIfInBounds_toArray, List.set_cons_zero, List.set_cons_succ]
              refine Tk.W 10 (some 16) (.assign (.tmp 101)) 4 none ?_
              refine wpAnyH_done (by kernel_rfl) ?_ _
              refine NoPanic.normal ?_
              have qq := hHeld.2.2.2.2.2.2.2.2.2.2.2.2.2.2.out
              clear hHeld
              go_wp2_with fail
              go_meet
              case rel => exact ⟨XH, rfl, rfl, ⟨qq.1, qq.2.1, qq.2.2.1, qq.2.2.2.1, qq.2.2.2.2, RN, by omega⟩⟩
          case rest =>
            obtain ⟨XH, rfl, rfl, Hc⟩ := hcut
            clear BB R0 T0 RA RG
            obtain ⟨BB, R0, T0, RA, RG, RH, l5H⟩ := Hc.out
            clear Hc
            have hi3H := RH.lt (by simp)
            have cRA0 := RA.cell 0 rfl
            have cRA1 := RA.cell 1 rfl
            have cRA2 := RA.cell 2 rfl
            have cRA3 := RA.cell 3 rfl
            have cRA4 := RA.cell 4 rfl
            have cRA5 := RA.cell 5 rfl
            have cRA6 := RA.cell 6 rfl
            have cRA7 := RA.cell 7 rfl
            have cRA8 := RA.cell 8 rfl
            have lRA := RA.lt (by simp)
            have cRH0 := RH.cell 0 rfl
            have cRH1 := RH.cell 1 rfl
            have cRH2 := RH.cell 2 rfl
            have cRH3 := RH.cell 3 rfl
            have cRH4 := RH.cell 4 rfl
            have cRH5 := RH.cell 5 rfl
            have cRH6 := RH.cell 6 rfl
            have cRH7 := RH.cell 7 rfl
            have cRH8 := RH.cell 8 rfl
            have lRH := RH.lt (by simp)
            go_wp2_with fail
            refine (Wl.eqWorld 0 0 0 0 0 0 0 none none none none 0 0 0 0 0 0 [] [] _ ⟨rfl, .inl rfl⟩ ⟨rfl, .inl rfl⟩ ⟨rfl, .inl rfl⟩ ⟨rfl, .inl rfl⟩ (by omega) (by omega)).mono ?_
            rintro e wz ⟨rfl, bz⟩
            clear cRA0 cRA1 cRA2 cRA3 cRA4 cRA5 cRA6 cRA7 cRA8 lRA cRH0 cRH1 cRH2 cRH3 cRH4 cRH5 cRH6 cRH7 cRH8 lRH
            have z_bz := bz.size
            (try simp at z_bz)
            replace R0 := R0.below bz
            replace T0 := T0.below bz
            replace RA := RA.below bz
            replace RG := RG.below bz
            replace RH := RH.below bz
            replace BB := BB.trans (bz.mono BB.size)
            have cRG0 := RG.cell 0 rfl
            have cRG1 := RG.cell 1 rfl
            have cRG2 := RG.cell 2 rfl
            have cRG3 := RG.cell 3 rfl
            have cRG4 := RG.cell 4 rfl
            have cRG5 := RG.cell 5 rfl
            have cRG6 := RG.cell 6 rfl
            have cRG7 := RG.cell 7 rfl
            have cRG8 := RG.cell 8 rfl
            have lRG := RG.lt (by simp)
            go_wp2_with fail
            refine (Wl.heldWorld0 0 0 0 0 0 0 0 _).mono ?_
            rintro e wy ⟨rfl, by_⟩
            clear cRG0 cRG1 cRG2 cRG3 cRG4 cRG5 cRG6 cRG7 cRG8 lRG
            have z_by_ := by_.size
            (try simp at z_by_)
            replace R0 := R0.below by_
            replace T0 := T0.below by_
            replace RA := RA.below by_
            replace RG := RG.below by_
            replace RH := RH.below by_
            replace BB := BB.trans (by_.mono BB.size)
            go_wp2
            go_ret
            exact ⟨rfl, BB⟩
      | true =>
        have lo_R0A := R0.lt (by simp)
        have lo_T0A := T0.lt (by simp)
        have cR00 := R0.cell 0 rfl
        have cR01 := R0.cell 1 rfl
        have cR02 := R0.cell 2 rfl
        have cR03 := R0.cell 3 rfl
        have cR04 := R0.cell 4 rfl
        have cR05 := R0.cell 5 rfl
        have cR06 := R0.cell 6 rfl
        have cR07 := R0.cell 7 rfl
        have cR08 := R0.cell 8 rfl
        have lR0 := R0.lt (by simp)
        have cT00 := T0.cell 0 rfl
        have cT01 := T0.cell 1 rfl
        have cT02 := T0.cell 2 rfl
        have cT03 := T0.cell 3 rfl
        have cT04 := T0.cell 4 rfl
        have lT0 := T0.lt (by simp)
        go_wp2_with fail
        clear cR00 cR01 cR02 cR03 cR04 cR05 cR06 cR07 cR08 lR0 cT00 cT01 cT02 cT03 cT04 lT0
        go_cut [6, 7] from 17 (fun p6 v7 wc => ∃ XA gAk cAk gAo cAo : Nat, p6 = .pointer (some ⟨XA, 0, none⟩) ∧ v7 = .bool (Tu.RB n l d r p s ks k os m t ds es ls fs rs nF nR) ∧ Hid (Below w.heap.size w wc ∧ Rm.Room wc (w.heap.size) [.int .i64 n, .int .i64 l, .int .i64 d, .int .i64 r, .int .i64 p, .int .i64 s, .slice a k ka, .slice b m mb, .int .i64 t] ∧ Rm.Room wc (w.heap.size + 1) [.slice aD nD cD, .slice aE nE cE, .slice aL nL cL, .slice aF nF cF, .slice aR nR cR] ∧ Rm.Room wc XA [.int .i64 n, .int .i64 l, .int .i64 d, .int .i64 r, .int .i64 p, .int .i64 s, .slice (some ⟨gAk, 0, none⟩) k cAk, .slice (some ⟨gAo, 0, none⟩) m cAo, .int .i64 (Tu.RU n l d r p s ks k os m t ds es ls fs rs nF nR)] ∧ Ow.Has wc 0 gAk 0 k (Tu.RK n l d r p s ks k os m t ds es ls fs rs nF nR) ∧ Ow.Has wc 0 gAo 0 m (Tu.RO n l d r p s ks k os m t ds es ls fs rs nF nR) ∧ gAk ≠ gAo ∧ w3.heap.size ≤ gAk ∧ w3.heap.size ≤ gAo ∧ XA ≠ gAk ∧ XA ≠ gAo ∧ w3.heap.size ≤ XA))
        case first =>
          have hd0 : w3.heap.size ≤ w3.drew.heap.size := Nat.le_refl _
          refine wp_region_noPanic ?_
          refine wp_region_held_drew (S := (fun w' => w'.cell? ⟨w.heap.size, 0, none⟩ = some (.int .i64 n) ∧ w'.cell? ⟨w.heap.size, 1, none⟩ = some (.int .i64 l) ∧ w'.cell? ⟨w.heap.size, 2, none⟩ = some (.int .i64 d) ∧ w'.cell? ⟨w.heap.size, 3, none⟩ = some (.int .i64 r) ∧ w'.cell? ⟨w.heap.size, 4, none⟩ = some (.int .i64 p) ∧ w'.cell? ⟨w.heap.size, 5, none⟩ = some (.int .i64 s) ∧ w'.cell? ⟨w.heap.size, 6, none⟩ = some (.slice a k ka) ∧ w'.cell? ⟨w.heap.size, 7, none⟩ = some (.slice b m mb) ∧ w'.cell? ⟨w.heap.size, 8, none⟩ = some (.int .i64 t) ∧ w'.cell? ⟨w.heap.size + 1, 0, none⟩ = some (.slice aD nD cD) ∧ w'.cell? ⟨w.heap.size + 1, 1, none⟩ = some (.slice aE nE cE) ∧ w'.cell? ⟨w.heap.size + 1, 2, none⟩ = some (.slice aL nL cL) ∧ w'.cell? ⟨w.heap.size + 1, 3, none⟩ = some (.slice aF nF cF) ∧ w'.cell? ⟨w.heap.size + 1, 4, none⟩ = some (.slice aR nR cR) ∧ Hid (Below w.heap.size w w' ∧ Rm.Room w' (w.heap.size) [.int .i64 n, .int .i64 l, .int .i64 d, .int .i64 r, .int .i64 p, .int .i64 s, .slice a k ka, .slice b m mb, .int .i64 t] ∧ Rm.Room w' (w.heap.size + 1) [.slice aD nD cD, .slice aE nE cE, .slice aL nL cL, .slice aF nF cF, .slice aR nR cR]))) (by kernel_rfl) ⟨R0.cell 0 rfl, R0.cell 1 rfl, R0.cell 2 rfl, R0.cell 3 rfl, R0.cell 4 rfl, R0.cell 5 rfl, R0.cell 6 rfl, R0.cell 7 rfl, R0.cell 8 rfl, T0.cell 0 rfl, T0.cell 1 rfl, T0.cell 2 rfl, T0.cell 3 rfl, T0.cell 4 rfl, ⟨BB.drew, R0.drew, T0.drew⟩⟩ (fun hHeld => ?_)
          refine Tk.W 0 (some 28) (.load 47 (.tmp 2)) 47 none ?_
          refine Tk.W 2 (some 30) (.load 48 (.tmp 3)) 48 none ?_
          refine wpAnyH_ready (rs := [1, 8]) (by kernel_rfl) (by simp) ?_
          refine (AllReadyH.cons (o := ⟨some 29, .call ⟨.value (.func 18), #[.tmp 28], #[47]⟩, 28, _, _, none⟩) rfl (fun K hK => ?_) (AllReadyH.cons (o := ⟨some 6, .alloc 28, 0, _, _, none⟩) rfl (fun K hK => ?_) AllReadyH.nil))
          · go_simp
            refine (Wl.toWorld n l d r p s t a b k ka m mb ks os _ ((hr.later hHeld.2.2.2.2.2.2.2.2.2.2.2.2.2.2.out.1 (Nat.le_refl _)).more hHeld.2.2.2.2.2.2.2.2.2.2.2.2.2.2.out.1.size) ((hs.later hHeld.2.2.2.2.2.2.2.2.2.2.2.2.2.2.out.1 (Nat.le_refl _)).more hHeld.2.2.2.2.2.2.2.2.2.2.2.2.2.2.out.1.size) hk hm).mono ?_
            rintro e wTW ⟨⟨gk, go, rfl, kK, kO, _⟩, b_qt3⟩
            have ⟨BB_qt3, R0_qt3, T0_qt3⟩ := hHeld.2.2.2.2.2.2.2.2.2.2.2.2.2.2.out
            have BB2_qt3 := BB_qt3.trans (b_qt3.mono BB_qt3.size)
            have R02_qt3 := R0_qt3.below b_qt3
            have T02_qt3 := T0_qt3.below b_qt3
            have kvqt3 := Tk.kv hK (w := wTW) ⟨R02_qt3.cell 0 rfl, R02_qt3.cell 1 rfl, R02_qt3.cell 2 rfl, R02_qt3.cell 3 rfl, R02_qt3.cell 4 rfl, R02_qt3.cell 5 rfl, R02_qt3.cell 6 rfl, R02_qt3.cell 7 rfl, R02_qt3.cell 8 rfl, T02_qt3.cell 0 rfl, T02_qt3.cell 1 rfl, T02_qt3.cell 2 rfl, T02_qt3.cell 3 rfl, T02_qt3.cell 4 rfl, ⟨BB2_qt3, R02_qt3, T02_qt3⟩⟩
            have zz_qt3 := b_qt3.size
            clear BB_qt3 R0_qt3 T0_qt3 BB2_qt3 R02_qt3 T02_qt3
            try dsimp only
            refine hK.out _ _ kvqt3 ?_; clear hK K hHeld; intro hHeld; try simp only [Act.put, List.setIfInBounds_toArray, List.set_cons_zero, List.set_cons_succ]
            refine wpAnyH_ready (rs := [3, 8]) (by kernel_rfl) (by simp) ?_
            refine (AllReadyH.cons (o := ⟨some 31, .call ⟨.value (.func 19), #[.tmp 30], #[48]⟩, 32, _, _, none⟩) rfl (fun K hK => ?_) (AllReadyH.cons (o := ⟨some 6, .alloc 28, 0, _, _, none⟩) rfl (fun K hK => ?_) AllReadyH.nil))
            · go_simp
              refine (Tu.toTurn aD aE aL aF aR nD cD nE cE nL cL nF cF nR cR ds es ls fs rs _ ((rD.later hHeld.2.2.2.2.2.2.2.2.2.2.2.2.2.2.out.1 (Nat.le_refl _)).more hHeld.2.2.2.2.2.2.2.2.2.2.2.2.2.2.out.1.size) ((rE.later hHeld.2.2.2.2.2.2.2.2.2.2.2.2.2.2.out.1 (Nat.le_refl _)).more hHeld.2.2.2.2.2.2.2.2.2.2.2.2.2.2.out.1.size) ((rL.later hHeld.2.2.2.2.2.2.2.2.2.2.2.2.2.2.out.1 (Nat.le_refl _)).more hHeld.2.2.2.2.2.2.2.2.2.2.2.2.2.2.out.1.size) ((rF.later hHeld.2.2.2.2.2.2.2.2.2.2.2.2.2.2.out.1 (Nat.le_refl _)).more hHeld.2.2.2.2.2.2.2.2.2.2.2.2.2.2.out.1.size) ((rR.later hHeld.2.2.2.2.2.2.2.2.2.2.2.2.2.2.out.1 (Nat.le_refl _)).more hHeld.2.2.2.2.2.2.2.2.2.2.2.2.2.2.out.1.size) hz).mono ?_
              rintro e wTT ⟨⟨g0, g1, g2, g3, g4, rfl, hT⟩, b_qt4⟩
              have ⟨BB_qt4, R0_qt4, T0_qt4⟩ := hHeld.2.2.2.2.2.2.2.2.2.2.2.2.2.2.out
              have BB2_qt4 := BB_qt4.trans (b_qt4.mono BB_qt4.size)
              have R02_qt4 := R0_qt4.below b_qt4
              have T02_qt4 := T0_qt4.below b_qt4
              have kvqt4 := Tk.kv hK (w := wTT) ⟨R02_qt4.cell 0 rfl, R02_qt4.cell 1 rfl, R02_qt4.cell 2 rfl, R02_qt4.cell 3 rfl, R02_qt4.cell 4 rfl, R02_qt4.cell 5 rfl, R02_qt4.cell 6 rfl, R02_qt4.cell 7 rfl, R02_qt4.cell 8 rfl, T02_qt4.cell 0 rfl, T02_qt4.cell 1 rfl, T02_qt4.cell 2 rfl, T02_qt4.cell 3 rfl, T02_qt4.cell 4 rfl, ⟨BB2_qt4, R02_qt4, T02_qt4⟩⟩
              replace kK := kK.later b_qt4 kK.2.2.1
              replace kO := kO.later b_qt4 kO.2.2.1
              have hTa := hT.all
              have zz_qt4 := b_qt4.size
              clear BB_qt4 R0_qt4 T0_qt4 BB2_qt4 R02_qt4 T02_qt4
              try dsimp only
              refine hK.out _ _ kvqt4 ?_; clear hK K hHeld; intro hHeld; try simp only [Act.put, List.setIfInBounds_toArray, List.set_cons_zero, List.set_cons_succ]
              refine wpAnyH_ready (rs := [4, 8]) (by kernel_rfl) (by simp) ?_
              refine (AllReadyH.cons (o := ⟨some 32, .call ⟨.value (.func 8), #[.tmp 29, .tmp 31], #[28, 32]⟩, 35, _, _, none⟩) rfl (fun K hK => ?_) (AllReadyH.cons (o := ⟨some 6, .alloc 28, 0, _, _, none⟩) rfl (fun K hK => ?_) AllReadyH.nil))
              · go_simp
                refine (Tu.s_Turned n l d r p s t _ 0 k k _ m m _ _ _ _ _ nD nD nE nE nL nL nF nF nR nR ks os ds es ls fs rs _ kK.1 kK.2.2.2.1 kK.2.2.1 kO.row hTa.1 hTa.2.1 hTa.2.2.1 hTa.2.2.2.1 hTa.2.2.2.2 hk hm hnF hnR hnD hnE hnL htE htL).mono ?_
                rintro e wTD ⟨⟨hFa, hTr⟩, b_qt5⟩
                have ⟨BB_qt5, R0_qt5, T0_qt5⟩ := hHeld.2.2.2.2.2.2.2.2.2.2.2.2.2.2.out
                have BB2_qt5 := BB_qt5.trans (b_qt5.mono BB_qt5.size)
                have R02_qt5 := R0_qt5.below b_qt5
                have T02_qt5 := T0_qt5.below b_qt5
                have kvqt5 := Tk.kv hK (w := wTD) ⟨R02_qt5.cell 0 rfl, R02_qt5.cell 1 rfl, R02_qt5.cell 2 rfl, R02_qt5.cell 3 rfl, R02_qt5.cell 4 rfl, R02_qt5.cell 5 rfl, R02_qt5.cell 6 rfl, R02_qt5.cell 7 rfl, R02_qt5.cell 8 rfl, T02_qt5.cell 0 rfl, T02_qt5.cell 1 rfl, T02_qt5.cell 2 rfl, T02_qt5.cell 3 rfl, T02_qt5.cell 4 rfl, ⟨BB2_qt5, R02_qt5, T02_qt5⟩⟩
                obtain ⟨gAk, cAk, gAo, cAo, rfl, oA, oB, gne⟩ := hTr hq
                clear hFa hTr
                have loA := oA.data.2.1
                have loB := oB.data.2.1
                have hiA := oA.lt
                have hiB := oB.lt
                clear kK kO hT hTa
                have zz_qt5 := b_qt5.size
                clear BB_qt5 R0_qt5 T0_qt5 BB2_qt5 R02_qt5 T02_qt5
                try dsimp only
                refine hK.out _ _ kvqt5 ?_; clear hK K hHeld; intro hHeld; try simp only [Act.put, List.setIfInBounds_toArray, List.set_cons_zero, List.set_cons_succ]
                refine Tk.W 5 (some 27) (.move (.tmp 32)) 35 none ?_
                refine Tk.W 6 (some 33) (.extract (.tmp 27) 0) 28 none ?_
                refine Tk.W 7 (some 34) (.extract (.tmp 27) 1) 4 none ?_
                refine Tk.R 8 (some 6) (.alloc 28) 0 none (fun K hK => ?_)
                go_simp
                have bqt9 : Below wTD.heap.size wTD ((wTD.alloc (.cells #[.int .i64 0, .int .i64 0, .int .i64 0, .int .i64 0, .int .i64 0, .int .i64 0, .slice none 0 0, .slice none 0 0, .int .i64 0] 28))) := (Below.refl wTD.heap.size wTD).alloc (Nat.le_refl _) (.cells #[.int .i64 0, .int .i64 0, .int .i64 0, .int .i64 0, .int .i64 0, .int .i64 0, .slice none 0 0, .slice none 0 0, .int .i64 0] 28)
                have RN : Rm.Room ((wTD.alloc (.cells #[.int .i64 0, .int .i64 0, .int .i64 0, .int .i64 0, .int .i64 0, .int .i64 0, .slice none 0 0, .slice none 0 0, .int .i64 0] 28))) wTD.heap.size [.int .i64 0, .int .i64 0, .int .i64 0, .int .i64 0, .int .i64 0, .int .i64 0, .slice none 0 0, .slice none 0 0, .int .i64 0] := Rm.Room.new wTD [.int .i64 0, .int .i64 0, .int .i64 0, .int .i64 0, .int .i64 0, .int .i64 0, .slice none 0 0, .slice none 0 0, .int .i64 0] 28
                have ⟨BB_qt9, R0_qt9, T0_qt9⟩ := hHeld.2.2.2.2.2.2.2.2.2.2.2.2.2.2.out
                have BB2_qt9 := BB_qt9.trans (bqt9.mono BB_qt9.size)
                have R02_qt9 := R0_qt9.below bqt9
                have T02_qt9 := T0_qt9.below bqt9
                have kvqt9 := Tk.kv hK (w := ((wTD.alloc (.cells #[.int .i64 0, .int .i64 0, .int .i64 0, .int .i64 0, .int .i64 0, .int .i64 0, .slice none 0 0, .slice none 0 0, .int .i64 0] 28)))) ⟨R02_qt9.cell 0 rfl, R02_qt9.cell 1 rfl, R02_qt9.cell 2 rfl, R02_qt9.cell 3 rfl, R02_qt9.cell 4 rfl, R02_qt9.cell 5 rfl, R02_qt9.cell 6 rfl, R02_qt9.cell 7 rfl, R02_qt9.cell 8 rfl, T02_qt9.cell 0 rfl, T02_qt9.cell 1 rfl, T02_qt9.cell 2 rfl, T02_qt9.cell 3 rfl, T02_qt9.cell 4 rfl, ⟨BB2_qt9, R02_qt9, T02_qt9⟩⟩
                replace oA := oA.later bqt9 oA.lt
                replace oB := oB.later bqt9 oB.lt
                have zn := bqt9.size
                clear bqt9
                clear BB_qt9 R0_qt9 T0_qt9 BB2_qt9 R02_qt9 T02_qt9
                obtain ⟨XA, hX⟩ : ∃ x, x = wTD.heap.size := ⟨_, rfl⟩
                rw [← hX] at RN ⊢
                have hX1 : XA ≤ wTD.heap.size := Nat.le_of_eq hX
                have hX2 : wTD.heap.size ≤ XA := Nat.le_of_eq hX.symm
                clear hX
                have lX : XA < ((wTD.alloc (.cells #[.int .i64 0, .int .i64 0, .int .i64 0, .int .i64 0, .int .i64 0, .int .i64 0, .slice none 0 0, .slice none 0 0, .int .i64 0] 28))).heap.size := RN.lt (by simp)
                generalize (wTD.alloc (.cells #[.int .i64 0, .int .i64 0, .int .i64 0, .int .i64 0, .int .i64 0, .int .i64 0, .slice none 0 0, .slice none 0 0, .int .i64 0] 28)) = wX at kvqt9 RN oA oB lX zn ⊢
                try dsimp only
                refine hK.out _ _ kvqt9 ?_; clear hK K hHeld; intro hHeld; try simp only [Act.put, List.setIfInBounds_toArray, List.set_cons_zero, List.set_cons_succ]
                refine Tk.R 9 none (.store 28 (.tmp 6) (.tmp 33)) 0 none (fun K hK => ?_)
                have zB := hHeld.2.2.2.2.2.2.2.2.2.2.2.2.2.2.out.1.size
                have d0 := RN.cell 0 rfl
                have d1 := RN.cell 1 rfl
                have d2 := RN.cell 2 rfl
                have d3 := RN.cell 3 rfl
                have d4 := RN.cell 4 rfl
                have d5 := RN.cell 5 rfl
                have d6 := RN.cell 6 rfl
                have d7 := RN.cell 7 rfl
                have d8 := RN.cell 8 rfl
                have f0 := RN.froz 0 rfl
                have f1 := RN.froz 1 rfl
                have f2 := RN.froz 2 rfl
                have f3 := RN.froz 3 rfl
                have f4 := RN.froz 4 rfl
                have f5 := RN.froz 5 rfl
                have f6 := RN.froz 6 rfl
                have f7 := RN.froz 7 rfl
                have f8 := RN.froz 8 rfl
                go_simp
                clear d0 f0 d1 f1 d2 f2 d3 f3 d4 f4 d5 f5 d6 f6 d7 f7 d8 f8
                have bX := Tu.below_over9 (Below.refl XA wX) (g := XA) (Nat.le_refl _) (.int .i64 n) (.int .i64 l) (.int .i64 d) (.int .i64 r) (.int .i64 p) (.int .i64 s) (.slice (some ⟨gAk, 0, none⟩) k cAk) (.slice (some ⟨gAo, 0, none⟩) m cAo) (.int .i64 (Tu.RU n l d r p s ks k os m t ds es ls fs rs nF nR))
                have ⟨BB_qt10, R0_qt10, T0_qt10⟩ := hHeld.2.2.2.2.2.2.2.2.2.2.2.2.2.2.out
                have BB2_qt10 := Tu.below_over9 BB_qt10 (g := XA) (by omega) (.int .i64 n) (.int .i64 l) (.int .i64 d) (.int .i64 r) (.int .i64 p) (.int .i64 s) (.slice (some ⟨gAk, 0, none⟩) k cAk) (.slice (some ⟨gAo, 0, none⟩) m cAo) (.int .i64 (Tu.RU n l d r p s ks k os m t ds es ls fs rs nF nR))
                have R02_qt10 := R0_qt10.block (bX.block _ (by omega))
                have T02_qt10 := T0_qt10.block (bX.block _ (by omega))
                have kvqt10 := Tk.kv hK (w := _) ⟨R02_qt10.cell 0 rfl, R02_qt10.cell 1 rfl, R02_qt10.cell 2 rfl, R02_qt10.cell 3 rfl, R02_qt10.cell 4 rfl, R02_qt10.cell 5 rfl, R02_qt10.cell 6 rfl, R02_qt10.cell 7 rfl, R02_qt10.cell 8 rfl, T02_qt10.cell 0 rfl, T02_qt10.cell 1 rfl, T02_qt10.cell 2 rfl, T02_qt10.cell 3 rfl, T02_qt10.cell 4 rfl, ⟨BB2_qt10, R02_qt10, T02_qt10⟩⟩
                replace RN := Rm.over9 RN (.int .i64 n) (.int .i64 l) (.int .i64 d) (.int .i64 r) (.int .i64 p) (.int .i64 s) (.slice (some ⟨gAk, 0, none⟩) k cAk) (.slice (some ⟨gAo, 0, none⟩) m cAo) (.int .i64 (Tu.RU n l d r p s ks k os m t ds es ls fs rs nF nR))
                replace oA := Tu.own_over9 oA (g := XA) (by omega) (.int .i64 n) (.int .i64 l) (.int .i64 d) (.int .i64 r) (.int .i64 p) (.int .i64 s) (.slice (some ⟨gAk, 0, none⟩) k cAk) (.slice (some ⟨gAo, 0, none⟩) m cAo) (.int .i64 (Tu.RU n l d r p s ks k os m t ds es ls fs rs nF nR))
                replace oB := Tu.own_over9 oB (g := XA) (by omega) (.int .i64 n) (.int .i64 l) (.int .i64 d) (.int .i64 r) (.int .i64 p) (.int .i64 s) (.slice (some ⟨gAk, 0, none⟩) k cAk) (.slice (some ⟨gAo, 0, none⟩) m cAo) (.int .i64 (Tu.RU n l d r p s ks k os m t ds es ls fs rs nF nR))
                clear bX BB_qt10 R0_qt10 T0_qt10 BB2_qt10 R02_qt10 T02_qt10
                try dsimp only
                refine hK.out _ _ kvqt10 ?_; clear hK K hHeld; intro hHeld; try simp only [Act.put, List.setIfInBounds_toArray, List.set_cons_zero, List.set_cons_succ]
                refine Tk.W 10 (some 7) (.assign (.tmp 34)) 4 none ?_
                refine wpAnyH_done (by kernel_rfl) ?_ _
                refine NoPanic.normal ?_
                have qq := hHeld.2.2.2.2.2.2.2.2.2.2.2.2.2.2.out
                clear hHeld
                go_wp2_with fail
                go_meet
                case rel => exact ⟨XA, gAk, cAk, gAo, cAo, rfl, rfl, ⟨qq.1, qq.2.1, qq.2.2, RN, ⟨oA.has.1, Nat.zero_le _, oA.has.2.2⟩, ⟨oB.has.1, Nat.zero_le _, oB.has.2.2⟩, gne, by omega, by omega, by omega, by omega, by omega⟩⟩
              · go_simp
                have bqt12 : Below wTT.heap.size wTT ((wTT.alloc (.cells #[.int .i64 0, .int .i64 0, .int .i64 0, .int .i64 0, .int .i64 0, .int .i64 0, .slice none 0 0, .slice none 0 0, .int .i64 0] 28))) := (Below.refl wTT.heap.size wTT).alloc (Nat.le_refl _) (.cells #[.int .i64 0, .int .i64 0, .int .i64 0, .int .i64 0, .int .i64 0, .int .i64 0, .slice none 0 0, .slice none 0 0, .int .i64 0] 28)
                have RN : Rm.Room ((wTT.alloc (.cells #[.int .i64 0, .int .i64 0, .int .i64 0, .int .i64 0, .int .i64 0, .int .i64 0, .slice none 0 0, .slice none 0 0, .int .i64 0] 28))) wTT.heap.size [.int .i64 0, .int .i64 0, .int .i64 0, .int .i64 0, .int .i64 0, .int .i64 0, .slice none 0 0, .slice none 0 0, .int .i64 0] := Rm.Room.new wTT [.int .i64 0, .int .i64 0, .int .i64 0, .int .i64 0, .int .i64 0, .int .i64 0, .slice none 0 0, .slice none 0 0, .int .i64 0] 28
                have ⟨BB_qt12, R0_qt12, T0_qt12⟩ := hHeld.2.2.2.2.2.2.2.2.2.2.2.2.2.2.out
                have BB2_qt12 := BB_qt12.trans (bqt12.mono BB_qt12.size)
                have R02_qt12 := R0_qt12.below bqt12
                have T02_qt12 := T0_qt12.below bqt12
                have kvqt12 := Tk.kv hK (w := ((wTT.alloc (.cells #[.int .i64 0, .int .i64 0, .int .i64 0, .int .i64 0, .int .i64 0, .int .i64 0, .slice none 0 0, .slice none 0 0, .int .i64 0] 28)))) ⟨R02_qt12.cell 0 rfl, R02_qt12.cell 1 rfl, R02_qt12.cell 2 rfl, R02_qt12.cell 3 rfl, R02_qt12.cell 4 rfl, R02_qt12.cell 5 rfl, R02_qt12.cell 6 rfl, R02_qt12.cell 7 rfl, R02_qt12.cell 8 rfl, T02_qt12.cell 0 rfl, T02_qt12.cell 1 rfl, T02_qt12.cell 2 rfl, T02_qt12.cell 3 rfl, T02_qt12.cell 4 rfl, ⟨BB2_qt12, R02_qt12, T02_qt12⟩⟩
                replace kK := kK.later bqt12 kK.2.2.1
                replace kO := kO.later bqt12 kO.2.2.1
                replace hT := hT.later bqt12
                clear hTa
                have zn := bqt12.size
                clear bqt12
                clear BB_qt12 R0_qt12 T0_qt12 BB2_qt12 R02_qt12 T02_qt12
                obtain ⟨XA, hX⟩ : ∃ x, x = wTT.heap.size := ⟨_, rfl⟩
                rw [← hX] at RN ⊢
                have hX1 : XA ≤ wTT.heap.size := Nat.le_of_eq hX
                have hX2 : wTT.heap.size ≤ XA := Nat.le_of_eq hX.symm
                clear hX
                have lX : XA < ((wTT.alloc (.cells #[.int .i64 0, .int .i64 0, .int .i64 0, .int .i64 0, .int .i64 0, .int .i64 0, .slice none 0 0, .slice none 0 0, .int .i64 0] 28))).heap.size := RN.lt (by simp)
                generalize (wTT.alloc (.cells #[.int .i64 0, .int .i64 0, .int .i64 0, .int .i64 0, .int .i64 0, .int .i64 0, .slice none 0 0, .slice none 0 0, .int .i64 0] 28)) = wX at kvqt12 RN kK kO hT lX zn ⊢
                have hTa := hT.all
                try dsimp only
                refine hK.out _ _ kvqt12 ?_; clear hK K hHeld; intro hHeld; try simp only [Act.put, List.setIfInBounds_toArray, List.set_cons_zero, List.set_cons_succ]
                refine Tk.R 4 (some 32) (.call ⟨.value (.func 8), #[.tmp 29, .tmp 31], #[28, 32]⟩) 35 none (fun K hK => ?_)
                go_simp
                refine (Tu.s_Turned n l d r p s t _ 0 k k _ m m _ _ _ _ _ nD nD nE nE nL nL nF nF nR nR ks os ds es ls fs rs _ kK.1 kK.2.2.2.1 kK.2.2.1 kO.row hTa.1 hTa.2.1 hTa.2.2.1 hTa.2.2.2.1 hTa.2.2.2.2 hk hm hnF hnR hnD hnE hnL htE htL).mono ?_
                rintro e wTD ⟨⟨hFa, hTr⟩, b_qt13⟩
                have ⟨BB_qt13, R0_qt13, T0_qt13⟩ := hHeld.2.2.2.2.2.2.2.2.2.2.2.2.2.2.out
                have BB2_qt13 := BB_qt13.trans (b_qt13.mono BB_qt13.size)
                have R02_qt13 := R0_qt13.below b_qt13
                have T02_qt13 := T0_qt13.below b_qt13
                have kvqt13 := Tk.kv hK (w := wTD) ⟨R02_qt13.cell 0 rfl, R02_qt13.cell 1 rfl, R02_qt13.cell 2 rfl, R02_qt13.cell 3 rfl, R02_qt13.cell 4 rfl, R02_qt13.cell 5 rfl, R02_qt13.cell 6 rfl, R02_qt13.cell 7 rfl, R02_qt13.cell 8 rfl, T02_qt13.cell 0 rfl, T02_qt13.cell 1 rfl, T02_qt13.cell 2 rfl, T02_qt13.cell 3 rfl, T02_qt13.cell 4 rfl, ⟨BB2_qt13, R02_qt13, T02_qt13⟩⟩
                obtain ⟨gAk, cAk, gAo, cAo, rfl, oA, oB, gne⟩ := hTr hq
                clear hFa hTr
                have loA := oA.data.2.1
                have loB := oB.data.2.1
                have hiA := oA.lt
                have hiB := oB.lt
                replace RN := RN.below b_qt13
                clear kK kO hT hTa
                have zz_qt13 := b_qt13.size
                clear BB_qt13 R0_qt13 T0_qt13 BB2_qt13 R02_qt13 T02_qt13
                try dsimp only
                refine hK.out _ _ kvqt13 ?_; clear hK K hHeld; intro hHeld; try simp only [Act.put, List.setIfInBounds_toArray, List.set_cons_zero, List.set_cons_succ]
                refine Tk.W 5 (some 27) (.move (.tmp 32)) 35 none ?_
                refine Tk.W 6 (some 33) (.extract (.tmp 27) 0) 28 none ?_
                refine Tk.W 7 (some 34) (.extract (.tmp 27) 1) 4 none ?_
                refine Tk.R 9 none (.store 28 (.tmp 6) (.tmp 33)) 0 none (fun K hK => ?_)
                have zB := hHeld.2.2.2.2.2.2.2.2.2.2.2.2.2.2.out.1.size
                have d0 := RN.cell 0 rfl
                have d1 := RN.cell 1 rfl
                have d2 := RN.cell 2 rfl
                have d3 := RN.cell 3 rfl
                have d4 := RN.cell 4 rfl
                have d5 := RN.cell 5 rfl
                have d6 := RN.cell 6 rfl
                have d7 := RN.cell 7 rfl
                have d8 := RN.cell 8 rfl
                have f0 := RN.froz 0 rfl
                have f1 := RN.froz 1 rfl
                have f2 := RN.froz 2 rfl
                have f3 := RN.froz 3 rfl
                have f4 := RN.froz 4 rfl
                have f5 := RN.froz 5 rfl
                have f6 := RN.froz 6 rfl
                have f7 := RN.froz 7 rfl
                have f8 := RN.froz 8 rfl
                go_simp
                clear d0 f0 d1 f1 d2 f2 d3 f3 d4 f4 d5 f5 d6 f6 d7 f7 d8 f8
                have bX := Tu.below_over9 (Below.refl XA wTD) (g := XA) (Nat.le_refl _) (.int .i64 n) (.int .i64 l) (.int .i64 d) (.int .i64 r) (.int .i64 p) (.int .i64 s) (.slice (some ⟨gAk, 0, none⟩) k cAk) (.slice (some ⟨gAo, 0, none⟩) m cAo) (.int .i64 (Tu.RU n l d r p s ks k os m t ds es ls fs rs nF nR))
                have ⟨BB_qt17, R0_qt17, T0_qt17⟩ := hHeld.2.2.2.2.2.2.2.2.2.2.2.2.2.2.out
                have BB2_qt17 := Tu.below_over9 BB_qt17 (g := XA) (by omega) (.int .i64 n) (.int .i64 l) (.int .i64 d) (.int .i64 r) (.int .i64 p) (.int .i64 s) (.slice (some ⟨gAk, 0, none⟩) k cAk) (.slice (some ⟨gAo, 0, none⟩) m cAo) (.int .i64 (Tu.RU n l d r p s ks k os m t ds es ls fs rs nF nR))
                have R02_qt17 := R0_qt17.block (bX.block _ (by omega))
                have T02_qt17 := T0_qt17.block (bX.block _ (by omega))
                have kvqt17 := Tk.kv hK (w := _) ⟨R02_qt17.cell 0 rfl, R02_qt17.cell 1 rfl, R02_qt17.cell 2 rfl, R02_qt17.cell 3 rfl, R02_qt17.cell 4 rfl, R02_qt17.cell 5 rfl, R02_qt17.cell 6 rfl, R02_qt17.cell 7 rfl, R02_qt17.cell 8 rfl, T02_qt17.cell 0 rfl, T02_qt17.cell 1 rfl, T02_qt17.cell 2 rfl, T02_qt17.cell 3 rfl, T02_qt17.cell 4 rfl, ⟨BB2_qt17, R02_qt17, T02_qt17⟩⟩
                replace RN := Rm.over9 RN (.int .i64 n) (.int .i64 l) (.int .i64 d) (.int .i64 r) (.int .i64 p) (.int .i64 s) (.slice (some ⟨gAk, 0, none⟩) k cAk) (.slice (some ⟨gAo, 0, none⟩) m cAo) (.int .i64 (Tu.RU n l d r p s ks k os m t ds es ls fs rs nF nR))
                replace oA := Tu.own_over9 oA (g := XA) (by omega) (.int .i64 n) (.int .i64 l) (.int .i64 d) (.int .i64 r) (.int .i64 p) (.int .i64 s) (.slice (some ⟨gAk, 0, none⟩) k cAk) (.slice (some ⟨gAo, 0, none⟩) m cAo) (.int .i64 (Tu.RU n l d r p s ks k os m t ds es ls fs rs nF nR))
                replace oB := Tu.own_over9 oB (g := XA) (by omega) (.int .i64 n) (.int .i64 l) (.int .i64 d) (.int .i64 r) (.int .i64 p) (.int .i64 s) (.slice (some ⟨gAk, 0, none⟩) k cAk) (.slice (some ⟨gAo, 0, none⟩) m cAo) (.int .i64 (Tu.RU n l d r p s ks k os m t ds es ls fs rs nF nR))
                clear bX BB_qt17 R0_qt17 T0_qt17 BB2_qt17 R02_qt17 T02_qt17
                try dsimp only
                refine hK.out _ _ kvqt17 ?_; clear hK K hHeld; intro hHeld; try simp only [Act.put, List.setIfInBounds_toArray, List.set_cons_zero, List.set_cons_succ]
                refine Tk.W 10 (some 7) (.assign (.tmp 34)) 4 none ?_
                refine wpAnyH_done (by kernel_rfl) ?_ _
                refine NoPanic.normal ?_
                have qq := hHeld.2.2.2.2.2.2.2.2.2.2.2.2.2.2.out
                clear hHeld
                go_wp2_with fail
                go_meet
                case rel => exact ⟨XA, gAk, cAk, gAo, cAo, rfl, rfl, ⟨qq.1, qq.2.1, qq.2.2, RN, ⟨oA.has.1, Nat.zero_le _, oA.has.2.2⟩, ⟨oB.has.1, Nat.zero_le _, oB.has.2.2⟩, gne, by omega, by omega, by omega, by omega, by omega⟩⟩
            · go_simp
              have bqt19 : Below wTW.heap.size wTW ((wTW.alloc (.cells #[.int .i64 0, .int .i64 0, .int .i64 0, .int .i64 0, .int .i64 0, .int .i64 0, .slice none 0 0, .slice none 0 0, .int .i64 0] 28))) := (Below.refl wTW.heap.size wTW).alloc (Nat.le_refl _) (.cells #[.int .i64 0, .int .i64 0, .int .i64 0, .int .i64 0, .int .i64 0, .int .i64 0, .slice none 0 0, .slice none 0 0, .int .i64 0] 28)
              have RN : Rm.Room ((wTW.alloc (.cells #[.int .i64 0, .int .i64 0, .int .i64 0, .int .i64 0, .int .i64 0, .int .i64 0, .slice none 0 0, .slice none 0 0, .int .i64 0] 28))) wTW.heap.size [.int .i64 0, .int .i64 0, .int .i64 0, .int .i64 0, .int .i64 0, .int .i64 0, .slice none 0 0, .slice none 0 0, .int .i64 0] := Rm.Room.new wTW [.int .i64 0, .int .i64 0, .int .i64 0, .int .i64 0, .int .i64 0, .int .i64 0, .slice none 0 0, .slice none 0 0, .int .i64 0] 28
              have ⟨BB_qt19, R0_qt19, T0_qt19⟩ := hHeld.2.2.2.2.2.2.2.2.2.2.2.2.2.2.out
              have BB2_qt19 := BB_qt19.trans (bqt19.mono BB_qt19.size)
              have R02_qt19 := R0_qt19.below bqt19
              have T02_qt19 := T0_qt19.below bqt19
              have kvqt19 := Tk.kv hK (w := ((wTW.alloc (.cells #[.int .i64 0, .int .i64 0, .int .i64 0, .int .i64 0, .int .i64 0, .int .i64 0, .slice none 0 0, .slice none 0 0, .int .i64 0] 28)))) ⟨R02_qt19.cell 0 rfl, R02_qt19.cell 1 rfl, R02_qt19.cell 2 rfl, R02_qt19.cell 3 rfl, R02_qt19.cell 4 rfl, R02_qt19.cell 5 rfl, R02_qt19.cell 6 rfl, R02_qt19.cell 7 rfl, R02_qt19.cell 8 rfl, T02_qt19.cell 0 rfl, T02_qt19.cell 1 rfl, T02_qt19.cell 2 rfl, T02_qt19.cell 3 rfl, T02_qt19.cell 4 rfl, ⟨BB2_qt19, R02_qt19, T02_qt19⟩⟩
              replace kK := kK.later bqt19 kK.2.2.1
              replace kO := kO.later bqt19 kO.2.2.1
              have zn := bqt19.size
              clear bqt19
              clear BB_qt19 R0_qt19 T0_qt19 BB2_qt19 R02_qt19 T02_qt19
              obtain ⟨XA, hX⟩ : ∃ x, x = wTW.heap.size := ⟨_, rfl⟩
              rw [← hX] at RN ⊢
              have hX1 : XA ≤ wTW.heap.size := Nat.le_of_eq hX
              have hX2 : wTW.heap.size ≤ XA := Nat.le_of_eq hX.symm
              clear hX
              have lX : XA < ((wTW.alloc (.cells #[.int .i64 0, .int .i64 0, .int .i64 0, .int .i64 0, .int .i64 0, .int .i64 0, .slice none 0 0, .slice none 0 0, .int .i64 0] 28))).heap.size := RN.lt (by simp)
              generalize (wTW.alloc (.cells #[.int .i64 0, .int .i64 0, .int .i64 0, .int .i64 0, .int .i64 0, .int .i64 0, .slice none 0 0, .slice none 0 0, .int .i64 0] 28)) = wX at kvqt19 RN kK kO lX zn ⊢
              try dsimp only
              refine hK.out _ _ kvqt19 ?_; clear hK K hHeld; intro hHeld; try simp only [Act.put, List.setIfInBounds_toArray, List.set_cons_zero, List.set_cons_succ]
              refine Tk.R 3 (some 31) (.call ⟨.value (.func 19), #[.tmp 30], #[48]⟩) 32 none (fun K hK => ?_)
              go_simp
              refine (Tu.toTurn aD aE aL aF aR nD cD nE cE nL cL nF cF nR cR ds es ls fs rs _ ((rD.later hHeld.2.2.2.2.2.2.2.2.2.2.2.2.2.2.out.1 (Nat.le_refl _)).more hHeld.2.2.2.2.2.2.2.2.2.2.2.2.2.2.out.1.size) ((rE.later hHeld.2.2.2.2.2.2.2.2.2.2.2.2.2.2.out.1 (Nat.le_refl _)).more hHeld.2.2.2.2.2.2.2.2.2.2.2.2.2.2.out.1.size) ((rL.later hHeld.2.2.2.2.2.2.2.2.2.2.2.2.2.2.out.1 (Nat.le_refl _)).more hHeld.2.2.2.2.2.2.2.2.2.2.2.2.2.2.out.1.size) ((rF.later hHeld.2.2.2.2.2.2.2.2.2.2.2.2.2.2.out.1 (Nat.le_refl _)).more hHeld.2.2.2.2.2.2.2.2.2.2.2.2.2.2.out.1.size) ((rR.later hHeld.2.2.2.2.2.2.2.2.2.2.2.2.2.2.out.1 (Nat.le_refl _)).more hHeld.2.2.2.2.2.2.2.2.2.2.2.2.2.2.out.1.size) hz).mono ?_
              rintro e wTT ⟨⟨g0, g1, g2, g3, g4, rfl, hT⟩, b_qt20⟩
              have ⟨BB_qt20, R0_qt20, T0_qt20⟩ := hHeld.2.2.2.2.2.2.2.2.2.2.2.2.2.2.out
              have BB2_qt20 := BB_qt20.trans (b_qt20.mono BB_qt20.size)
              have R02_qt20 := R0_qt20.below b_qt20
              have T02_qt20 := T0_qt20.below b_qt20
              have kvqt20 := Tk.kv hK (w := wTT) ⟨R02_qt20.cell 0 rfl, R02_qt20.cell 1 rfl, R02_qt20.cell 2 rfl, R02_qt20.cell 3 rfl, R02_qt20.cell 4 rfl, R02_qt20.cell 5 rfl, R02_qt20.cell 6 rfl, R02_qt20.cell 7 rfl, R02_qt20.cell 8 rfl, T02_qt20.cell 0 rfl, T02_qt20.cell 1 rfl, T02_qt20.cell 2 rfl, T02_qt20.cell 3 rfl, T02_qt20.cell 4 rfl, ⟨BB2_qt20, R02_qt20, T02_qt20⟩⟩
              replace RN := RN.below b_qt20
              replace kK := kK.later b_qt20 kK.2.2.1
              replace kO := kO.later b_qt20 kO.2.2.1
              have hTa := hT.all
              have zz_qt20 := b_qt20.size
              clear BB_qt20 R0_qt20 T0_qt20 BB2_qt20 R02_qt20 T02_qt20
              try dsimp only
              refine hK.out _ _ kvqt20 ?_; clear hK K hHeld; intro hHeld; try simp only [Act.put, List.setIfInBounds_toArray, List.set_cons_zero, List.set_cons_succ]
              refine Tk.R 4 (some 32) (.call ⟨.value (.func 8), #[.tmp 29, .tmp 31], #[28, 32]⟩) 35 none (fun K hK => ?_)
              go_simp
              refine (Tu.s_Turned n l d r p s t _ 0 k k _ m m _ _ _ _ _ nD nD nE nE nL nL nF nF nR nR ks os ds es ls fs rs _ kK.1 kK.2.2.2.1 kK.2.2.1 kO.row hTa.1 hTa.2.1 hTa.2.2.1 hTa.2.2.2.1 hTa.2.2.2.2 hk hm hnF hnR hnD hnE hnL htE htL).mono ?_
              rintro e wTD ⟨⟨hFa, hTr⟩, b_qt21⟩
              have ⟨BB_qt21, R0_qt21, T0_qt21⟩ := hHeld.2.2.2.2.2.2.2.2.2.2.2.2.2.2.out
              have BB2_qt21 := BB_qt21.trans (b_qt21.mono BB_qt21.size)
              have R02_qt21 := R0_qt21.below b_qt21
              have T02_qt21 := T0_qt21.below b_qt21
              have kvqt21 := Tk.kv hK (w := wTD) ⟨R02_qt21.cell 0 rfl, R02_qt21.cell 1 rfl, R02_qt21.cell 2 rfl, R02_qt21.cell 3 rfl, R02_qt21.cell 4 rfl, R02_qt21.cell 5 rfl, R02_qt21.cell 6 rfl, R02_qt21.cell 7 rfl, R02_qt21.cell 8 rfl, T02_qt21.cell 0 rfl, T02_qt21.cell 1 rfl, T02_qt21.cell 2 rfl, T02_qt21.cell 3 rfl, T02_qt21.cell 4 rfl, ⟨BB2_qt21, R02_qt21, T02_qt21⟩⟩
              obtain ⟨gAk, cAk, gAo, cAo, rfl, oA, oB, gne⟩ := hTr hq
              clear hFa hTr
              have loA := oA.data.2.1
              have loB := oB.data.2.1
              have hiA := oA.lt
              have hiB := oB.lt
              replace RN := RN.below b_qt21
              clear kK kO hT hTa
              have zz_qt21 := b_qt21.size
              clear BB_qt21 R0_qt21 T0_qt21 BB2_qt21 R02_qt21 T02_qt21
              try dsimp only
              refine hK.out _ _ kvqt21 ?_; clear hK K hHeld; intro hHeld; try simp only [Act.put, List.setIfInBounds_toArray, List.set_cons_zero, List.set_cons_succ]
              refine Tk.W 5 (some 27) (.move (.tmp 32)) 35 none ?_
              refine Tk.W 6 (some 33) (.extract (.tmp 27) 0) 28 none ?_
              refine Tk.W 7 (some 34) (.extract (.tmp 27) 1) 4 none ?_
              refine Tk.R 9 none (.store 28 (.tmp 6) (.tmp 33)) 0 none (fun K hK => ?_)
              have zB := hHeld.2.2.2.2.2.2.2.2.2.2.2.2.2.2.out.1.size
              have d0 := RN.cell 0 rfl
              have d1 := RN.cell 1 rfl
              have d2 := RN.cell 2 rfl
              have d3 := RN.cell 3 rfl
              have d4 := RN.cell 4 rfl
              have d5 := RN.cell 5 rfl
              have d6 := RN.cell 6 rfl
              have d7 := RN.cell 7 rfl
              have d8 := RN.cell 8 rfl
              have f0 := RN.froz 0 rfl
              have f1 := RN.froz 1 rfl
              have f2 := RN.froz 2 rfl
              have f3 := RN.froz 3 rfl
              have f4 := RN.froz 4 rfl
              have f5 := RN.froz 5 rfl
              have f6 := RN.froz 6 rfl
              have f7 := RN.froz 7 rfl
              have f8 := RN.froz 8 rfl
              go_simp
              clear d0 f0 d1 f1 d2 f2 d3 f3 d4 f4 d5 f5 d6 f6 d7 f7 d8 f8
              have bX := Tu.below_over9 (Below.refl XA wTD) (g := XA) (Nat.le_refl _) (.int .i64 n) (.int .i64 l) (.int .i64 d) (.int .i64 r) (.int .i64 p) (.int .i64 s) (.slice (some ⟨gAk, 0, none⟩) k cAk) (.slice (some ⟨gAo, 0, none⟩) m cAo) (.int .i64 (Tu.RU n l d r p s ks k os m t ds es ls fs rs nF nR))
              have ⟨BB_qt25, R0_qt25, T0_qt25⟩ := hHeld.2.2.2.2.2.2.2.2.2.2.2.2.2.2.out
              have BB2_qt25 := Tu.below_over9 BB_qt25 (g := XA) (by omega) (.int .i64 n) (.int .i64 l) (.int .i64 d) (.int .i64 r) (.int .i64 p) (.int .i64 s) (.slice (some ⟨gAk, 0, none⟩) k cAk) (.slice (some ⟨gAo, 0, none⟩) m cAo) (.int .i64 (Tu.RU n l d r p s ks k os m t ds es ls fs rs nF nR))
              have R02_qt25 := R0_qt25.block (bX.block _ (by omega))
              have T02_qt25 := T0_qt25.block (bX.block _ (by omega))
              have kvqt25 := Tk.kv hK (w := _) ⟨R02_qt25.cell 0 rfl, R02_qt25.cell 1 rfl, R02_qt25.cell 2 rfl, R02_qt25.cell 3 rfl, R02_qt25.cell 4 rfl, R02_qt25.cell 5 rfl, R02_qt25.cell 6 rfl, R02_qt25.cell 7 rfl, R02_qt25.cell 8 rfl, T02_qt25.cell 0 rfl, T02_qt25.cell 1 rfl, T02_qt25.cell 2 rfl, T02_qt25.cell 3 rfl, T02_qt25.cell 4 rfl, ⟨BB2_qt25, R02_qt25, T02_qt25⟩⟩
              replace RN := Rm.over9 RN (.int .i64 n) (.int .i64 l) (.int .i64 d) (.int .i64 r) (.int .i64 p) (.int .i64 s) (.slice (some ⟨gAk, 0, none⟩) k cAk) (.slice (some ⟨gAo, 0, none⟩) m cAo) (.int .i64 (Tu.RU n l d r p s ks k os m t ds es ls fs rs nF nR))
              replace oA := Tu.own_over9 oA (g := XA) (by omega) (.int .i64 n) (.int .i64 l) (.int .i64 d) (.int .i64 r) (.int .i64 p) (.int .i64 s) (.slice (some ⟨gAk, 0, none⟩) k cAk) (.slice (some ⟨gAo, 0, none⟩) m cAo) (.int .i64 (Tu.RU n l d r p s ks k os m t ds es ls fs rs nF nR))
              replace oB := Tu.own_over9 oB (g := XA) (by omega) (.int .i64 n) (.int .i64 l) (.int .i64 d) (.int .i64 r) (.int .i64 p) (.int .i64 s) (.slice (some ⟨gAk, 0, none⟩) k cAk) (.slice (some ⟨gAo, 0, none⟩) m cAo) (.int .i64 (Tu.RU n l d r p s ks k os m t ds es ls fs rs nF nR))
              clear bX BB_qt25 R0_qt25 T0_qt25 BB2_qt25 R02_qt25 T02_qt25
              try dsimp only
              refine hK.out _ _ kvqt25 ?_; clear hK K hHeld; intro hHeld; try simp only [Act.put, List.setIfInBounds_toArray, List.set_cons_zero, List.set_cons_succ]
              refine Tk.W 10 (some 7) (.assign (.tmp 34)) 4 none ?_
              refine wpAnyH_done (by kernel_rfl) ?_ _
              refine NoPanic.normal ?_
              have qq := hHeld.2.2.2.2.2.2.2.2.2.2.2.2.2.2.out
              clear hHeld
              go_wp2_with fail
              go_meet
              case rel => exact ⟨XA, gAk, cAk, gAo, cAo, rfl, rfl, ⟨qq.1, qq.2.1, qq.2.2, RN, ⟨oA.has.1, Nat.zero_le _, oA.has.2.2⟩, ⟨oB.has.1, Nat.zero_le _, oB.has.2.2⟩, gne, by omega, by omega, by omega, by omega, by omega⟩⟩
          · go_simp
            have bqt27 : Below w3.drew.heap.size w3.drew ((w3.alloc (.cells #[.int .i64 0, .int .i64 0, .int .i64 0, .int .i64 0, .int .i64 0, .int .i64 0, .slice none 0 0, .slice none 0 0, .int .i64 0] 28)).drew) := (Below.refl w3.drew.heap.size w3.drew).alloc (Nat.le_refl _) (.cells #[.int .i64 0, .int .i64 0, .int .i64 0, .int .i64 0, .int .i64 0, .int .i64 0, .slice none 0 0, .slice none 0 0, .int .i64 0] 28)
            have RN : Rm.Room ((w3.alloc (.cells #[.int .i64 0, .int .i64 0, .int .i64 0, .int .i64 0, .int .i64 0, .int .i64 0, .slice none 0 0, .slice none 0 0, .int .i64 0] 28)).drew) w3.heap.size [.int .i64 0, .int .i64 0, .int .i64 0, .int .i64 0, .int .i64 0, .int .i64 0, .slice none 0 0, .slice none 0 0, .int .i64 0] := Rm.Room.new w3.drew [.int .i64 0, .int .i64 0, .int .i64 0, .int .i64 0, .int .i64 0, .int .i64 0, .slice none 0 0, .slice none 0 0, .int .i64 0] 28
            have ⟨BB_qt27, R0_qt27, T0_qt27⟩ := hHeld.2.2.2.2.2.2.2.2.2.2.2.2.2.2.out
            have BB2_qt27 := BB_qt27.trans (bqt27.mono BB_qt27.size)
            have R02_qt27 := R0_qt27.below bqt27
            have T02_qt27 := T0_qt27.below bqt27
            have kvqt27 := Tk.kv hK (w := ((w3.alloc (.cells #[.int .i64 0, .int .i64 0, .int .i64 0, .int .i64 0, .int .i64 0, .int .i64 0, .slice none 0 0, .slice none 0 0, .int .i64 0] 28)).drew)) ⟨R02_qt27.cell 0 rfl, R02_qt27.cell 1 rfl, R02_qt27.cell 2 rfl, R02_qt27.cell 3 rfl, R02_qt27.cell 4 rfl, R02_qt27.cell 5 rfl, R02_qt27.cell 6 rfl, R02_qt27.cell 7 rfl, R02_qt27.cell 8 rfl, T02_qt27.cell 0 rfl, T02_qt27.cell 1 rfl, T02_qt27.cell 2 rfl, T02_qt27.cell 3 rfl, T02_qt27.cell 4 rfl, ⟨BB2_qt27, R02_qt27, T02_qt27⟩⟩
            have zn := bqt27.size
            clear bqt27
            clear BB_qt27 R0_qt27 T0_qt27 BB2_qt27 R02_qt27 T02_qt27
            obtain ⟨XA, hX⟩ : ∃ x, x = w3.heap.size := ⟨_, rfl⟩
            rw [← hX] at RN ⊢
            have hX1 : XA ≤ w3.heap.size := Nat.le_of_eq hX
            have hX2 : w3.heap.size ≤ XA := Nat.le_of_eq hX.symm
            clear hX
            have lX : XA < ((w3.alloc (.cells #[.int .i64 0, .int .i64 0, .int .i64 0, .int .i64 0, .int .i64 0, .int .i64 0, .slice none 0 0, .slice none 0 0, .int .i64 0] 28)).drew).heap.size := RN.lt (by simp)
            generalize (w3.alloc (.cells #[.int .i64 0, .int .i64 0, .int .i64 0, .int .i64 0, .int .i64 0, .int .i64 0, .slice none 0 0, .slice none 0 0, .int .i64 0] 28)).drew = wX at kvqt27 RN lX zn ⊢
            try dsimp only
            refine hK.out _ _ kvqt27 ?_; clear hK K hHeld; intro hHeld; try simp only [Act.put, List.setIfInBounds_toArray, List.set_cons_zero, List.set_cons_succ]
            refine Tk.R 1 (some 29) (.call ⟨.value (.func 18), #[.tmp 28], #[47]⟩) 28 none (fun K hK => ?_)
            go_simp
            refine (Wl.toWorld n l d r p s t a b k ka m mb ks os _ ((hr.later hHeld.2.2.2.2.2.2.2.2.2.2.2.2.2.2.out.1 (Nat.le_refl _)).more hHeld.2.2.2.2.2.2.2.2.2.2.2.2.2.2.out.1.size) ((hs.later hHeld.2.2.2.2.2.2.2.2.2.2.2.2.2.2.out.1 (Nat.le_refl _)).more hHeld.2.2.2.2.2.2.2.2.2.2.2.2.2.2.out.1.size) hk hm).mono ?_
            rintro e wTW ⟨⟨gk, go, rfl, kK, kO, _⟩, b_qt28⟩
            have ⟨BB_qt28, R0_qt28, T0_qt28⟩ := hHeld.2.2.2.2.2.2.2.2.2.2.2.2.2.2.out
            have BB2_qt28 := BB_qt28.trans (b_qt28.mono BB_qt28.size)
            have R02_qt28 := R0_qt28.below b_qt28
            have T02_qt28 := T0_qt28.below b_qt28
            have kvqt28 := Tk.kv hK (w := wTW) ⟨R02_qt28.cell 0 rfl, R02_qt28.cell 1 rfl, R02_qt28.cell 2 rfl, R02_qt28.cell 3 rfl, R02_qt28.cell 4 rfl, R02_qt28.cell 5 rfl, R02_qt28.cell 6 rfl, R02_qt28.cell 7 rfl, R02_qt28.cell 8 rfl, T02_qt28.cell 0 rfl, T02_qt28.cell 1 rfl, T02_qt28.cell 2 rfl, T02_qt28.cell 3 rfl, T02_qt28.cell 4 rfl, ⟨BB2_qt28, R02_qt28, T02_qt28⟩⟩
            replace RN := RN.below b_qt28
            have zz_qt28 := b_qt28.size
            clear BB_qt28 R0_qt28 T0_qt28 BB2_qt28 R02_qt28 T02_qt28
            try dsimp only
            refine hK.out _ _ kvqt28 ?_; clear hK K hHeld; intro hHeld; try simp only [Act.put, List.setIfInBounds_toArray, List.set_cons_zero, List.set_cons_succ]
            refine Tk.R 3 (some 31) (.call ⟨.value (.func 19), #[.tmp 30], #[48]⟩) 32 none (fun K hK => ?_)
            go_simp
            refine (Tu.toTurn aD aE aL aF aR nD cD nE cE nL cL nF cF nR cR ds es ls fs rs _ ((rD.later hHeld.2.2.2.2.2.2.2.2.2.2.2.2.2.2.out.1 (Nat.le_refl _)).more hHeld.2.2.2.2.2.2.2.2.2.2.2.2.2.2.out.1.size) ((rE.later hHeld.2.2.2.2.2.2.2.2.2.2.2.2.2.2.out.1 (Nat.le_refl _)).more hHeld.2.2.2.2.2.2.2.2.2.2.2.2.2.2.out.1.size) ((rL.later hHeld.2.2.2.2.2.2.2.2.2.2.2.2.2.2.out.1 (Nat.le_refl _)).more hHeld.2.2.2.2.2.2.2.2.2.2.2.2.2.2.out.1.size) ((rF.later hHeld.2.2.2.2.2.2.2.2.2.2.2.2.2.2.out.1 (Nat.le_refl _)).more hHeld.2.2.2.2.2.2.2.2.2.2.2.2.2.2.out.1.size) ((rR.later hHeld.2.2.2.2.2.2.2.2.2.2.2.2.2.2.out.1 (Nat.le_refl _)).more hHeld.2.2.2.2.2.2.2.2.2.2.2.2.2.2.out.1.size) hz).mono ?_
            rintro e wTT ⟨⟨g0, g1, g2, g3, g4, rfl, hT⟩, b_qt29⟩
            have ⟨BB_qt29, R0_qt29, T0_qt29⟩ := hHeld.2.2.2.2.2.2.2.2.2.2.2.2.2.2.out
            have BB2_qt29 := BB_qt29.trans (b_qt29.mono BB_qt29.size)
            have R02_qt29 := R0_qt29.below b_qt29
            have T02_qt29 := T0_qt29.below b_qt29
            have kvqt29 := Tk.kv hK (w := wTT) ⟨R02_qt29.cell 0 rfl, R02_qt29.cell 1 rfl, R02_qt29.cell 2 rfl, R02_qt29.cell 3 rfl, R02_qt29.cell 4 rfl, R02_qt29.cell 5 rfl, R02_qt29.cell 6 rfl, R02_qt29.cell 7 rfl, R02_qt29.cell 8 rfl, T02_qt29.cell 0 rfl, T02_qt29.cell 1 rfl, T02_qt29.cell 2 rfl, T02_qt29.cell 3 rfl, T02_qt29.cell 4 rfl, ⟨BB2_qt29, R02_qt29, T02_qt29⟩⟩
            replace RN := RN.below b_qt29
            replace kK := kK.later b_qt29 kK.2.2.1
            replace kO := kO.later b_qt29 kO.2.2.1
            have hTa := hT.all
            have zz_qt29 := b_qt29.size
            clear BB_qt29 R0_qt29 T0_qt29 BB2_qt29 R02_qt29 T02_qt29
            try dsimp only
            refine hK.out _ _ kvqt29 ?_; clear hK K hHeld; intro hHeld; try simp only [Act.put, List.setIfInBounds_toArray, List.set_cons_zero, List.set_cons_succ]
            refine Tk.R 4 (some 32) (.call ⟨.value (.func 8), #[.tmp 29, .tmp 31], #[28, 32]⟩) 35 none (fun K hK => ?_)
            go_simp
            refine (Tu.s_Turned n l d r p s t _ 0 k k _ m m _ _ _ _ _ nD nD nE nE nL nL nF nF nR nR ks os ds es ls fs rs _ kK.1 kK.2.2.2.1 kK.2.2.1 kO.row hTa.1 hTa.2.1 hTa.2.2.1 hTa.2.2.2.1 hTa.2.2.2.2 hk hm hnF hnR hnD hnE hnL htE htL).mono ?_
            rintro e wTD ⟨⟨hFa, hTr⟩, b_qt30⟩
            have ⟨BB_qt30, R0_qt30, T0_qt30⟩ := hHeld.2.2.2.2.2.2.2.2.2.2.2.2.2.2.out
            have BB2_qt30 := BB_qt30.trans (b_qt30.mono BB_qt30.size)
            have R02_qt30 := R0_qt30.below b_qt30
            have T02_qt30 := T0_qt30.below b_qt30
            have kvqt30 := Tk.kv hK (w := wTD) ⟨R02_qt30.cell 0 rfl, R02_qt30.cell 1 rfl, R02_qt30.cell 2 rfl, R02_qt30.cell 3 rfl, R02_qt30.cell 4 rfl, R02_qt30.cell 5 rfl, R02_qt30.cell 6 rfl, R02_qt30.cell 7 rfl, R02_qt30.cell 8 rfl, T02_qt30.cell 0 rfl, T02_qt30.cell 1 rfl, T02_qt30.cell 2 rfl, T02_qt30.cell 3 rfl, T02_qt30.cell 4 rfl, ⟨BB2_qt30, R02_qt30, T02_qt30⟩⟩
            obtain ⟨gAk, cAk, gAo, cAo, rfl, oA, oB, gne⟩ := hTr hq
            clear hFa hTr
            have loA := oA.data.2.1
            have loB := oB.data.2.1
            have hiA := oA.lt
            have hiB := oB.lt
            replace RN := RN.below b_qt30
            clear kK kO hT hTa
            have zz_qt30 := b_qt30.size
            clear BB_qt30 R0_qt30 T0_qt30 BB2_qt30 R02_qt30 T02_qt30
            try dsimp only
            refine hK.out _ _ kvqt30 ?_; clear hK K hHeld; intro hHeld; try simp only [Act.put, List.setIfInBounds_toArray, List.set_cons_zero, List.set_cons_succ]
            refine Tk.W 5 (some 27) (.move (.tmp 32)) 35 none ?_
            refine Tk.W 6 (some 33) (.extract (.tmp 27) 0) 28 none ?_
            refine Tk.W 7 (some 34) (.extract (.tmp 27) 1) 4 none ?_
            refine Tk.R 9 none (.store 28 (.tmp 6) (.tmp 33)) 0 none (fun K hK => ?_)
            have zB := hHeld.2.2.2.2.2.2.2.2.2.2.2.2.2.2.out.1.size
            have d0 := RN.cell 0 rfl
            have d1 := RN.cell 1 rfl
            have d2 := RN.cell 2 rfl
            have d3 := RN.cell 3 rfl
            have d4 := RN.cell 4 rfl
            have d5 := RN.cell 5 rfl
            have d6 := RN.cell 6 rfl
            have d7 := RN.cell 7 rfl
            have d8 := RN.cell 8 rfl
            have f0 := RN.froz 0 rfl
            have f1 := RN.froz 1 rfl
            have f2 := RN.froz 2 rfl
            have f3 := RN.froz 3 rfl
            have f4 := RN.froz 4 rfl
            have f5 := RN.froz 5 rfl
            have f6 := RN.froz 6 rfl
            have f7 := RN.froz 7 rfl
            have f8 := RN.froz 8 rfl
            go_simp
            clear d0 f0 d1 f1 d2 f2 d3 f3 d4 f4 d5 f5 d6 f6 d7 f7 d8 f8
            have bX := Tu.below_over9 (Below.refl XA wTD) (g := XA) (Nat.le_refl _) (.int .i64 n) (.int .i64 l) (.int .i64 d) (.int .i64 r) (.int .i64 p) (.int .i64 s) (.slice (some ⟨gAk, 0, none⟩) k cAk) (.slice (some ⟨gAo, 0, none⟩) m cAo) (.int .i64 (Tu.RU n l d r p s ks k os m t ds es ls fs rs nF nR))
            have ⟨BB_qt34, R0_qt34, T0_qt34⟩ := hHeld.2.2.2.2.2.2.2.2.2.2.2.2.2.2.out
            have BB2_qt34 := Tu.below_over9 BB_qt34 (g := XA) (by omega) (.int .i64 n) (.int .i64 l) (.int .i64 d) (.int .i64 r) (.int .i64 p) (.int .i64 s) (.slice (some ⟨gAk, 0, none⟩) k cAk) (.slice (some ⟨gAo, 0, none⟩) m cAo) (.int .i64 (Tu.RU n l d r p s ks k os m t ds es ls fs rs nF nR))
            have R02_qt34 := R0_qt34.block (bX.block _ (by omega))
            have T02_qt34 := T0_qt34.block (bX.block _ (by omega))
            have kvqt34 := Tk.kv hK (w := _) ⟨R02_qt34.cell 0 rfl, R02_qt34.cell 1 rfl, R02_qt34.cell 2 rfl, R02_qt34.cell 3 rfl, R02_qt34.cell 4 rfl, R02_qt34.cell 5 rfl, R02_qt34.cell 6 rfl, R02_qt34.cell 7 rfl, R02_qt34.cell 8 rfl, T02_qt34.cell 0 rfl, T02_qt34.cell 1 rfl, T02_qt34.cell 2 rfl, T02_qt34.cell 3 rfl, T02_qt34.cell 4 rfl, ⟨BB2_qt34, R02_qt34, T02_qt34⟩⟩
            replace RN := Rm.over9 RN (.int .i64 n) (.int .i64 l) (.int .i64 d) (.int .i64 r) (.int .i64 p) (.int .i64 s) (.slice (some ⟨gAk, 0, none⟩) k cAk) (.slice (some ⟨gAo, 0, none⟩) m cAo) (.int .i64 (Tu.RU n l d r p s ks k os m t ds es ls fs rs nF nR))
            replace oA := Tu.own_over9 oA (g := XA) (by omega) (.int .i64 n) (.int .i64 l) (.int .i64 d) (.int .i64 r) (.int .i64 p) (.int .i64 s) (.slice (some ⟨gAk, 0, none⟩) k cAk) (.slice (some ⟨gAo, 0, none⟩) m cAo) (.int .i64 (Tu.RU n l d r p s ks k os m t ds es ls fs rs nF nR))
            replace oB := Tu.own_over9 oB (g := XA) (by omega) (.int .i64 n) (.int .i64 l) (.int .i64 d) (.int .i64 r) (.int .i64 p) (.int .i64 s) (.slice (some ⟨gAk, 0, none⟩) k cAk) (.slice (some ⟨gAo, 0, none⟩) m cAo) (.int .i64 (Tu.RU n l d r p s ks k os m t ds es ls fs rs nF nR))
            clear bX BB_qt34 R0_qt34 T0_qt34 BB2_qt34 R02_qt34 T02_qt34
            try dsimp only
            refine hK.out _ _ kvqt34 ?_; clear hK K hHeld; intro hHeld; try simp only [Act.put, List.setIfInBounds_toArray, List.set_cons_zero, List.set_cons_succ]
            refine Tk.W 10 (some 7) (.assign (.tmp 34)) 4 none ?_
            refine wpAnyH_done (by kernel_rfl) ?_ _
            refine NoPanic.normal ?_
            have qq := hHeld.2.2.2.2.2.2.2.2.2.2.2.2.2.2.out
            clear hHeld
            go_wp2_with fail
            go_meet
            case rel => exact ⟨XA, gAk, cAk, gAo, cAo, rfl, rfl, ⟨qq.1, qq.2.1, qq.2.2, RN, ⟨oA.has.1, Nat.zero_le _, oA.has.2.2⟩, ⟨oB.has.1, Nat.zero_le _, oB.has.2.2⟩, gne, by omega, by omega, by omega, by omega, by omega⟩⟩
        case rest =>
          obtain ⟨XA, gAk, cAk, gAo, cAo, rfl, rfl, Hc⟩ := hcut
          clear BB R0 T0
          obtain ⟨BB, R0, T0, RA, hAk, hAo, neA, l1A, l2A, l3A, l4A, l5A⟩ := Hc.out
          clear Hc
          have hi1A := hAk.2.2.1
          have hi2A := hAo.2.2.1
          have hi3A := RA.lt (by simp)
          obtain ⟨w4, e4⟩ : ∃ w4, w4 = wc := ⟨_, rfl⟩
          subst e4
          have lT4 := T0.lt (by simp)
          have cR00 := R0.cell 0 rfl
          have cR01 := R0.cell 1 rfl
          have cR02 := R0.cell 2 rfl
          have cR03 := R0.cell 3 rfl
          have cR04 := R0.cell 4 rfl
          have cR05 := R0.cell 5 rfl
          have cR06 := R0.cell 6 rfl
          have cR07 := R0.cell 7 rfl
          have cR08 := R0.cell 8 rfl
          have lR0 := R0.lt (by simp)
          go_wp2_with fail
          refine (Wl.toWorld n l d r p s t a b k ka m mb ks os _ ((hr.later BB (Nat.le_refl _)).more BB.size) ((hs.later BB (Nat.le_refl _)).more BB.size) hk hm).mono ?_
          rintro e w5 ⟨⟨gX, hX, rfl, kX, oX, ghX⟩, b5⟩
          clear cR00 cR01 cR02 cR03 cR04 cR05 cR06 cR07 cR08 lR0
          have z_b5 := b5.size
          (try simp at z_b5)
          replace R0 := R0.below b5
          replace T0 := T0.below b5
          replace RA := RA.below b5
          replace hAk := hAk.later b5 hAk.2.2.1
          replace hAo := hAo.later b5 hAo.2.2.1
          replace BB := BB.trans (b5.mono BB.size)
          have loK := kX.2.1
          have hiK := kX.2.2.1
          have loO := oX.2.1
          have hiO := oX.2.2.1
          have cR00 := R0.cell 0 rfl
          have cR01 := R0.cell 1 rfl
          have cR02 := R0.cell 2 rfl
          have cR03 := R0.cell 3 rfl
          have cR04 := R0.cell 4 rfl
          have cR05 := R0.cell 5 rfl
          have cR06 := R0.cell 6 rfl
          have cR07 := R0.cell 7 rfl
          have cR08 := R0.cell 8 rfl
          have lR0 := R0.lt (by simp)
          have cT00 := T0.cell 0 rfl
          have cT01 := T0.cell 1 rfl
          have cT02 := T0.cell 2 rfl
          have cT03 := T0.cell 3 rfl
          have cT04 := T0.cell 4 rfl
          have lT0 := T0.lt (by simp)
          have cRA0 := RA.cell 0 rfl
          have cRA1 := RA.cell 1 rfl
          have cRA2 := RA.cell 2 rfl
          have cRA3 := RA.cell 3 rfl
          have cRA4 := RA.cell 4 rfl
          have cRA5 := RA.cell 5 rfl
          have cRA6 := RA.cell 6 rfl
          have cRA7 := RA.cell 7 rfl
          have cRA8 := RA.cell 8 rfl
          have lRA := RA.lt (by simp)
          go_wp2_with fail
          have bn1 := (Below.refl w5.heap.size w5).alloc (Nat.le_refl _) (.cells #[.int .i64 n, .int .i64 l, .int .i64 d, .int .i64 r, .int .i64 p, .int .i64 s, .slice (some ⟨gX, 0, none⟩) k k, .slice (some ⟨hX, 0, none⟩) m m, .int .i64 t] 28)
          have z_bn1 := bn1.size
          have RX := Rm.Room.new w5 [.int .i64 n, .int .i64 l, .int .i64 d, .int .i64 r, .int .i64 p, .int .i64 s, .slice (some ⟨gX, 0, none⟩) k k, .slice (some ⟨hX, 0, none⟩) m m, .int .i64 t] 28
          replace R0 := R0.below bn1
          replace T0 := T0.below bn1
          replace RA := RA.below bn1
          replace hAk := hAk.later bn1 hAk.2.2.1
          replace hAo := hAo.later bn1 hAo.2.2.1
          replace kX := kX.later bn1 kX.2.2.1
          replace oX := oX.later bn1 oX.2.2.1
          replace BB := BB.trans (bn1.mono BB.size)
          clear cR00 cR01 cR02 cR03 cR04 cR05 cR06 cR07 cR08 lR0 cT00 cT01 cT02 cT03 cT04 lT0 cRA0 cRA1 cRA2 cRA3 cRA4 cRA5 cRA6 cRA7 cRA8 lRA
          refine (Tu.toTurn aD aE aL aF aR nD cD nE cE nL cL nF cF nR cR ds es ls fs rs _ ((rD.later BB (Nat.le_refl _)).more BB.size) ((rE.later BB (Nat.le_refl _)).more BB.size) ((rL.later BB (Nat.le_refl _)).more BB.size) ((rF.later BB (Nat.le_refl _)).more BB.size) ((rR.later BB (Nat.le_refl _)).more BB.size) hz).mono ?_
          rintro e w6 ⟨⟨y0, y1, y2, y3, y4, rfl, hY⟩, b6⟩
          have z_b6 := b6.size
          (try simp at z_b6)
          replace R0 := R0.below b6
          replace T0 := T0.below b6
          replace RA := RA.below b6
          replace RX := RX.below b6
          replace hAk := hAk.later b6 hAk.2.2.1
          replace hAo := hAo.later b6 hAo.2.2.1
          replace kX := kX.later b6 kX.2.2.1
          replace oX := oX.later b6 oX.2.2.1
          replace BB := BB.trans (b6.mono BB.size)
          replace hY : Tu.HasT w6 (w5.heap.size + 1) w6.heap.size y0 y1 y2 y3 y4 nD nE nL nF nR ds es ls fs rs := by simpa using hY
          have cR00 := R0.cell 0 rfl
          have cR01 := R0.cell 1 rfl
          have cR02 := R0.cell 2 rfl
          have cR03 := R0.cell 3 rfl
          have cR04 := R0.cell 4 rfl
          have cR05 := R0.cell 5 rfl
          have cR06 := R0.cell 6 rfl
          have cR07 := R0.cell 7 rfl
          have cR08 := R0.cell 8 rfl
          have lR0 := R0.lt (by simp)
          have cT00 := T0.cell 0 rfl
          have cT01 := T0.cell 1 rfl
          have cT02 := T0.cell 2 rfl
          have cT03 := T0.cell 3 rfl
          have cT04 := T0.cell 4 rfl
          have lT0 := T0.lt (by simp)
          have cRA0 := RA.cell 0 rfl
          have cRA1 := RA.cell 1 rfl
          have cRA2 := RA.cell 2 rfl
          have cRA3 := RA.cell 3 rfl
          have cRA4 := RA.cell 4 rfl
          have cRA5 := RA.cell 5 rfl
          have cRA6 := RA.cell 6 rfl
          have cRA7 := RA.cell 7 rfl
          have cRA8 := RA.cell 8 rfl
          have lRA := RA.lt (by simp)
          have cRX0 := RX.cell 0 rfl
          have cRX1 := RX.cell 1 rfl
          have cRX2 := RX.cell 2 rfl
          have cRX3 := RX.cell 3 rfl
          have cRX4 := RX.cell 4 rfl
          have cRX5 := RX.cell 5 rfl
          have cRX6 := RX.cell 6 rfl
          have cRX7 := RX.cell 7 rfl
          have cRX8 := RX.cell 8 rfl
          have lRX := RX.lt (by simp)
          go_wp2_with fail
          have bn2 := (Below.refl w6.heap.size w6).alloc (Nat.le_refl _) (.cells #[.slice (some ⟨y0, 0, none⟩) nD nD, .slice (some ⟨y1, 0, none⟩) nE nE, .slice (some ⟨y2, 0, none⟩) nL nL, .slice (some ⟨y3, 0, none⟩) nF nF, .slice (some ⟨y4, 0, none⟩) nR nR] 32)
          have z_bn2 := bn2.size
          have TX := Rm.Room.new w6 [.slice (some ⟨y0, 0, none⟩) nD nD, .slice (some ⟨y1, 0, none⟩) nE nE, .slice (some ⟨y2, 0, none⟩) nL nL, .slice (some ⟨y3, 0, none⟩) nF nF, .slice (some ⟨y4, 0, none⟩) nR nR] 32
          replace R0 := R0.below bn2
          replace T0 := T0.below bn2
          replace RA := RA.below bn2
          replace RX := RX.below bn2
          replace hAk := hAk.later bn2 hAk.2.2.1
          replace hAo := hAo.later bn2 hAo.2.2.1
          replace kX := kX.later bn2 kX.2.2.1
          replace oX := oX.later bn2 oX.2.2.1
          replace hY := hY.later bn2
          replace BB := BB.trans (bn2.mono BB.size)
          clear cR00 cR01 cR02 cR03 cR04 cR05 cR06 cR07 cR08 lR0 cT00 cT01 cT02 cT03 cT04 lT0 cRA0 cRA1 cRA2 cRA3 cRA4 cRA5 cRA6 cRA7 cRA8 lRA cRX0 cRX1 cRX2 cRX3 cRX4 cRX5 cRX6 cRX7 cRX8 lRX
          have hYa := hY.all
          refine (Tu.i_Turned n l d r p s t _ 0 k k _ m m _ _ _ _ _ nD nD nE nE nL nL nF nF nR nR ks os ds es ls fs rs _ kX.1 kX.2.2.2.1 kX.2.2.1 oX.row hYa.1 hYa.2.1 hYa.2.2.1 hYa.2.2.2.1 hYa.2.2.2.2 hk hm hnF hnR hnD hnE hnL htE htL).mono ?_
          rintro e w8 ⟨⟨hFa, hTr⟩, b8⟩
          obtain ⟨gGk, cGk, gGo, cGo, rfl, oG, oH, neG⟩ := hTr hq
          clear hFa hTr
          have loG := oG.has.2.1
          have loH := oH.has.2.1
          simp at loG loH
          have hGk : Ow.Has w8 0 gGk 0 k (Tu.RK n l d r p s ks k os m t ds es ls fs rs nF nR) := ⟨oG.has.1, Nat.zero_le _, oG.has.2.2⟩
          have hGo : Ow.Has w8 0 gGo 0 m (Tu.RO n l d r p s ks k os m t ds es ls fs rs nF nR) := ⟨oH.has.1, Nat.zero_le _, oH.has.2.2⟩
          clear oG oH
          clear hYa
          have z_b8 := b8.size
          (try simp at z_b8)
          replace R0 := R0.below b8
          replace T0 := T0.below b8
          replace RA := RA.below b8
          replace RX := RX.below b8
          replace TX := TX.below b8
          replace hAk := hAk.later b8 hAk.2.2.1
          replace hAo := hAo.later b8 hAo.2.2.1
          replace kX := kX.later b8 kX.2.2.1
          replace oX := oX.later b8 oX.2.2.1
          replace hY := hY.later b8
          replace BB := BB.trans (b8.mono BB.size)
          have hi1G := hGk.2.2.1
          have hi2G := hGo.2.2.1
          have cRA0 := RA.cell 0 rfl
          have cRA1 := RA.cell 1 rfl
          have cRA2 := RA.cell 2 rfl
          have cRA3 := RA.cell 3 rfl
          have cRA4 := RA.cell 4 rfl
          have cRA5 := RA.cell 5 rfl
          have cRA6 := RA.cell 6 rfl
          have cRA7 := RA.cell 7 rfl
          have cRA8 := RA.cell 8 rfl
          have lRA := RA.lt (by simp)
          go_wp2_with fail
          have bn3 := (Below.refl w8.heap.size w8).alloc (Nat.le_refl _) (.cells #[.int .i64 n, .int .i64 l, .int .i64 d, .int .i64 r, .int .i64 p, .int .i64 s, .slice (some ⟨gGk, 0, none⟩) k cGk, .slice (some ⟨gGo, 0, none⟩) m cGo, .int .i64 (Tu.RU n l d r p s ks k os m t ds es ls fs rs nF nR)] 28)
          have z_bn3 := bn3.size
          have RG := Rm.Room.new w8 [.int .i64 n, .int .i64 l, .int .i64 d, .int .i64 r, .int .i64 p, .int .i64 s, .slice (some ⟨gGk, 0, none⟩) k cGk, .slice (some ⟨gGo, 0, none⟩) m cGo, .int .i64 (Tu.RU n l d r p s ks k os m t ds es ls fs rs nF nR)] 28
          replace R0 := R0.below bn3
          replace T0 := T0.below bn3
          replace RA := RA.below bn3
          replace RX := RX.below bn3
          replace TX := TX.below bn3
          replace hAk := hAk.later bn3 hAk.2.2.1
          replace hAo := hAo.later bn3 hAo.2.2.1
          replace kX := kX.later bn3 kX.2.2.1
          replace oX := oX.later bn3 oX.2.2.1
          replace hY := hY.later bn3
          replace hGk := hGk.later bn3 hGk.2.2.1
          replace hGo := hGo.later bn3 hGo.2.2.1
          replace BB := BB.trans (bn3.mono BB.size)
          clear cRA0 cRA1 cRA2 cRA3 cRA4 cRA5 cRA6 cRA7 cRA8 lRA
          refine (Wl.eqWorld n l d r p s (Tu.RU n l d r p s ks k os m t ds es ls fs rs nF nR) _ _ _ _ k _ _ m _ _ (Tu.RK n l d r p s ks k os m t ds es ls fs rs nF nR) (Tu.RO n l d r p s ks k os m t ds es ls fs rs nF nR) _ hGk.row hAk.row hGo.row hAo.row hk hm).mono ?_
          rintro e w9 ⟨rfl, b9⟩
          have z_b9 := b9.size
          (try simp at z_b9)
          replace R0 := R0.below b9
          replace T0 := T0.below b9
          replace RA := RA.below b9
          replace RX := RX.below b9
          replace TX := TX.below b9
          replace RG := RG.below b9
          replace hAk := hAk.later b9 hAk.2.2.1
          replace hAo := hAo.later b9 hAo.2.2.1
          replace kX := kX.later b9 kX.2.2.1
          replace oX := oX.later b9 oX.2.2.1
          replace hY := hY.later b9
          replace hGk := hGk.later b9 hGk.2.2.1
          replace hGo := hGo.later b9 hGo.2.2.1
          replace BB := BB.trans (b9.mono BB.size)
          have cR00 := R0.cell 0 rfl
          have cR01 := R0.cell 1 rfl
          have cR02 := R0.cell 2 rfl
          have cR03 := R0.cell 3 rfl
          have cR04 := R0.cell 4 rfl
          have cR05 := R0.cell 5 rfl
          have cR06 := R0.cell 6 rfl
          have cR07 := R0.cell 7 rfl
          have cR08 := R0.cell 8 rfl
          have lR0 := R0.lt (by simp)
          have cRX0 := RX.cell 0 rfl
          have cRX1 := RX.cell 1 rfl
          have cRX2 := RX.cell 2 rfl
          have cRX3 := RX.cell 3 rfl
          have cRX4 := RX.cell 4 rfl
          have cRX5 := RX.cell 5 rfl
          have cRX6 := RX.cell 6 rfl
          have cRX7 := RX.cell 7 rfl
          have cRX8 := RX.cell 8 rfl
          have lRX := RX.lt (by simp)
          go_wp2_with fail
          refine wp_region_noPanic ?_
          refine wp_region_held_drew (S := (fun w' => w'.cell? ⟨w.heap.size, 0, none⟩ = some (.int .i64 n) ∧ w'.cell? ⟨w.heap.size, 1, none⟩ = some (.int .i64 l) ∧ w'.cell? ⟨w.heap.size, 2, none⟩ = some (.int .i64 d) ∧ w'.cell? ⟨w.heap.size, 3, none⟩ = some (.int .i64 r) ∧ w'.cell? ⟨w.heap.size, 4, none⟩ = some (.int .i64 p) ∧ w'.cell? ⟨w.heap.size, 5, none⟩ = some (.int .i64 s) ∧ w'.cell? ⟨w.heap.size, 6, none⟩ = some (.slice a k ka) ∧ w'.cell? ⟨w.heap.size, 7, none⟩ = some (.slice b m mb) ∧ w'.cell? ⟨w.heap.size, 8, none⟩ = some (.int .i64 t) ∧ w'.cell? ⟨w5.heap.size, 0, none⟩ = some (.int .i64 n) ∧ w'.cell? ⟨w5.heap.size, 1, none⟩ = some (.int .i64 l) ∧ w'.cell? ⟨w5.heap.size, 2, none⟩ = some (.int .i64 d) ∧ w'.cell? ⟨w5.heap.size, 3, none⟩ = some (.int .i64 r) ∧ w'.cell? ⟨w5.heap.size, 4, none⟩ = some (.int .i64 p) ∧ w'.cell? ⟨w5.heap.size, 5, none⟩ = some (.int .i64 s) ∧ w'.cell? ⟨w5.heap.size, 6, none⟩ = some (.slice (some ⟨gX, 0, none⟩) k k) ∧ w'.cell? ⟨w5.heap.size, 7, none⟩ = some (.slice (some ⟨hX, 0, none⟩) m m) ∧ w'.cell? ⟨w5.heap.size, 8, none⟩ = some (.int .i64 t) ∧ Hid (Below w.heap.size w w' ∧ Rm.Room w' (w.heap.size) [.int .i64 n, .int .i64 l, .int .i64 d, .int .i64 r, .int .i64 p, .int .i64 s, .slice a k ka, .slice b m mb, .int .i64 t] ∧ Rm.Room w' (w.heap.size + 1) [.slice aD nD cD, .slice aE nE cE, .slice aL nL cL, .slice aF nF cF, .slice aR nR cR] ∧ Rm.Room w' (XA) [.int .i64 n, .int .i64 l, .int .i64 d, .int .i64 r, .int .i64 p, .int .i64 s, .slice (some ⟨gAk, 0, none⟩) k cAk, .slice (some ⟨gAo, 0, none⟩) m cAo, .int .i64 (Tu.RU n l d r p s ks k os m t ds es ls fs rs nF nR)] ∧ Rm.Room w' (w5.heap.size) [.int .i64 n, .int .i64 l, .int .i64 d, .int .i64 r, .int .i64 p, .int .i64 s, .slice (some ⟨gX, 0, none⟩) k k, .slice (some ⟨hX, 0, none⟩) m m, .int .i64 t] ∧ Rm.Room w' (w6.heap.size) [.slice (some ⟨y0, 0, none⟩) nD nD, .slice (some ⟨y1, 0, none⟩) nE nE, .slice (some ⟨y2, 0, none⟩) nL nL, .slice (some ⟨y3, 0, none⟩) nF nF, .slice (some ⟨y4, 0, none⟩) nR nR] ∧ Rm.Room w' (w8.heap.size) [.int .i64 n, .int .i64 l, .int .i64 d, .int .i64 r, .int .i64 p, .int .i64 s, .slice (some ⟨gGk, 0, none⟩) k cGk, .slice (some ⟨gGo, 0, none⟩) m cGo, .int .i64 (Tu.RU n l d r p s ks k os m t ds es ls fs rs nF nR)] ∧ Ow.Has w' 0 gAk 0 k (Tu.RK n l d r p s ks k os m t ds es ls fs rs nF nR) ∧ Ow.Has w' 0 gAo 0 m (Tu.RO n l d r p s ks k os m t ds es ls fs rs nF nR) ∧ Ow.Has w' w4.heap.size gX 0 k ks ∧ Ow.Has w' w4.heap.size hX 0 m os ∧ Tu.HasT w' (w5.heap.size + 1) w6.heap.size y0 y1 y2 y3 y4 nD nE nL nF nR ds es ls fs rs ∧ Ow.Has w' 0 gGk 0 k (Tu.RK n l d r p s ks k os m t ds es ls fs rs nF nR) ∧ Ow.Has w' 0 gGo 0 m (Tu.RO n l d r p s ks k os m t ds es ls fs rs nF nR)))) (by kernel_rfl) ⟨R0.cell 0 rfl, R0.cell 1 rfl, R0.cell 2 rfl, R0.cell 3 rfl, R0.cell 4 rfl, R0.cell 5 rfl, R0.cell 6 rfl, R0.cell 7 rfl, R0.cell 8 rfl, RX.cell 0 rfl, RX.cell 1 rfl, RX.cell 2 rfl, RX.cell 3 rfl, RX.cell 4 rfl, RX.cell 5 rfl, RX.cell 6 rfl, RX.cell 7 rfl, RX.cell 8 rfl, ⟨BB.drew, R0.drew, T0.drew, RA.drew, RX.drew, TX.drew, RG.drew, hAk.later (Below.refl _ _).drew hAk.2.2.1, hAo.later (Below.refl _ _).drew hAo.2.2.1, kX.later (Below.refl _ _).drew kX.2.2.1, oX.later (Below.refl _ _).drew oX.2.2.1, hY.later (Below.refl _ _).drew, hGk.later (Below.refl _ _).drew hGk.2.2.1, hGo.later (Below.refl _ _).drew hGo.2.2.1⟩⟩ (fun hHeld => ?_)
          refine Tk.W 0 (some 54) (.load 28 (.tmp 8)) 28 none ?_
          refine Tk.W 1 (some 55) (.load 47 (.tmp 2)) 47 none ?_
          refine Tk.R 2 (some 56) (.call ⟨.value (.func 18), #[.tmp 55], #[47]⟩) 28 none (fun K hK => ?_)
          go_simp
          refine (Wl.toWorld n l d r p s t a b k ka m mb ks os _ ((hr.later hHeld.2.2.2.2.2.2.2.2.2.2.2.2.2.2.2.2.2.2.out.1 (Nat.le_refl _)).more hHeld.2.2.2.2.2.2.2.2.2.2.2.2.2.2.2.2.2.2.out.1.size) ((hs.later hHeld.2.2.2.2.2.2.2.2.2.2.2.2.2.2.2.2.2.2.out.1 (Nat.le_refl _)).more hHeld.2.2.2.2.2.2.2.2.2.2.2.2.2.2.2.2.2.2.out.1.size) hk hm).mono ?_
          rintro e vut3 ⟨⟨gn, hn, rfl, kN, oN, _⟩, b_ut3⟩
          have ⟨BB_ut3, R0_ut3, T0_ut3, RA_ut3, RX_ut3, TX_ut3, RG_ut3, hAk_ut3, hAo_ut3, kX_ut3, oX_ut3, hY_ut3, hGk_ut3, hGo_ut3⟩ := hHeld.2.2.2.2.2.2.2.2.2.2.2.2.2.2.2.2.2.2.out
          have BB2_ut3 := BB_ut3.trans (b_ut3.mono BB_ut3.size)
          have R02_ut3 := R0_ut3.below b_ut3
          have T02_ut3 := T0_ut3.below b_ut3
          have RA2_ut3 := RA_ut3.below b_ut3
          have RX2_ut3 := RX_ut3.below b_ut3
          have TX2_ut3 := TX_ut3.below b_ut3
          have RG2_ut3 := RG_ut3.below b_ut3
          have hAk2_ut3 := hAk_ut3.later b_ut3 hAk_ut3.2.2.1
          have hAo2_ut3 := hAo_ut3.later b_ut3 hAo_ut3.2.2.1
          have kX2_ut3 := kX_ut3.later b_ut3 kX_ut3.2.2.1
          have oX2_ut3 := oX_ut3.later b_ut3 oX_ut3.2.2.1
          have hY2_ut3 := hY_ut3.later b_ut3
          have hGk2_ut3 := hGk_ut3.later b_ut3 hGk_ut3.2.2.1
          have hGo2_ut3 := hGo_ut3.later b_ut3 hGo_ut3.2.2.1
          have kvut3 := Tk.kv hK (w := vut3) ⟨R02_ut3.cell 0 rfl, R02_ut3.cell 1 rfl, R02_ut3.cell 2 rfl, R02_ut3.cell 3 rfl, R02_ut3.cell 4 rfl, R02_ut3.cell 5 rfl, R02_ut3.cell 6 rfl, R02_ut3.cell 7 rfl, R02_ut3.cell 8 rfl, RX2_ut3.cell 0 rfl, RX2_ut3.cell 1 rfl, RX2_ut3.cell 2 rfl, RX2_ut3.cell 3 rfl, RX2_ut3.cell 4 rfl, RX2_ut3.cell 5 rfl, RX2_ut3.cell 6 rfl, RX2_ut3.cell 7 rfl, RX2_ut3.cell 8 rfl, ⟨BB2_ut3, R02_ut3, T02_ut3, RA2_ut3, RX2_ut3, TX2_ut3, RG2_ut3, hAk2_ut3, hAo2_ut3, kX2_ut3, oX2_ut3, hY2_ut3, hGk2_ut3, hGo2_ut3⟩⟩
          have kNr := kN.row
          have oNr := oN.row
          have kXr := kX2_ut3.row
          have oXr := oX2_ut3.row
          clear BB_ut3 R0_ut3 T0_ut3 RA_ut3 RX_ut3 TX_ut3 RG_ut3 hAk_ut3 hAo_ut3 kX_ut3 oX_ut3 hY_ut3 hGk_ut3 hGo_ut3 BB2_ut3 R02_ut3 T02_ut3 RA2_ut3 RX2_ut3 TX2_ut3 RG2_ut3 hAk2_ut3 hAo2_ut3 kX2_ut3 oX2_ut3 hY2_ut3 hGk2_ut3 hGo2_ut3
          try dsimp only
          refine hK.out _ _ kvut3 ?_; clear hK K hHeld; intro hHeld; try simp only [Act.put, List.setIfInBounds_toArray, List.set_cons_zero, List.set_cons_succ]
          refine Tk.R 3 (some 57) (.call ⟨.value (.func 20), #[.tmp 54, .tmp 56], #[28, 28]⟩) 4 none (fun K hK => ?_)
          go_simp
          refine (Wl.eqWorld n l d r p s t _ _ _ _ k _ _ m _ _ ks os _ kXr kNr oXr oNr hk hm).mono ?_
          rintro e vut4 ⟨rfl, b_ut4⟩
          have ⟨BB_ut4, R0_ut4, T0_ut4, RA_ut4, RX_ut4, TX_ut4, RG_ut4, hAk_ut4, hAo_ut4, kX_ut4, oX_ut4, hY_ut4, hGk_ut4, hGo_ut4⟩ := hHeld.2.2.2.2.2.2.2.2.2.2.2.2.2.2.2.2.2.2.out
          have BB2_ut4 := BB_ut4.trans (b_ut4.mono BB_ut4.size)
          have R02_ut4 := R0_ut4.below b_ut4
          have T02_ut4 := T0_ut4.below b_ut4
          have RA2_ut4 := RA_ut4.below b_ut4
          have RX2_ut4 := RX_ut4.below b_ut4
          have TX2_ut4 := TX_ut4.below b_ut4
          have RG2_ut4 := RG_ut4.below b_ut4
          have hAk2_ut4 := hAk_ut4.later b_ut4 hAk_ut4.2.2.1
          have hAo2_ut4 := hAo_ut4.later b_ut4 hAo_ut4.2.2.1
          have kX2_ut4 := kX_ut4.later b_ut4 kX_ut4.2.2.1
          have oX2_ut4 := oX_ut4.later b_ut4 oX_ut4.2.2.1
          have hY2_ut4 := hY_ut4.later b_ut4
          have hGk2_ut4 := hGk_ut4.later b_ut4 hGk_ut4.2.2.1
          have hGo2_ut4 := hGo_ut4.later b_ut4 hGo_ut4.2.2.1
          have kvut4 := Tk.kv hK (w := vut4) ⟨R02_ut4.cell 0 rfl, R02_ut4.cell 1 rfl, R02_ut4.cell 2 rfl, R02_ut4.cell 3 rfl, R02_ut4.cell 4 rfl, R02_ut4.cell 5 rfl, R02_ut4.cell 6 rfl, R02_ut4.cell 7 rfl, R02_ut4.cell 8 rfl, RX2_ut4.cell 0 rfl, RX2_ut4.cell 1 rfl, RX2_ut4.cell 2 rfl, RX2_ut4.cell 3 rfl, RX2_ut4.cell 4 rfl, RX2_ut4.cell 5 rfl, RX2_ut4.cell 6 rfl, RX2_ut4.cell 7 rfl, RX2_ut4.cell 8 rfl, ⟨BB2_ut4, R02_ut4, T02_ut4, RA2_ut4, RX2_ut4, TX2_ut4, RG2_ut4, hAk2_ut4, hAo2_ut4, kX2_ut4, oX2_ut4, hY2_ut4, hGk2_ut4, hGo2_ut4⟩⟩
          clear BB_ut4 R0_ut4 T0_ut4 RA_ut4 RX_ut4 TX_ut4 RG_ut4 hAk_ut4 hAo_ut4 kX_ut4 oX_ut4 hY_ut4 hGk_ut4 hGo_ut4 BB2_ut4 R02_ut4 T02_ut4 RA2_ut4 RX2_ut4 TX2_ut4 RG2_ut4 hAk2_ut4 hAo2_ut4 kX2_ut4 oX2_ut4 hY2_ut4 hGk2_ut4 hGo2_ut4
          try dsimp only
          refine hK.out _ _ kvut4 ?_; clear hK K hHeld; intro hHeld; try simp only [Act.put, List.setIfInBounds_toArray, List.set_cons_zero, List.set_cons_succ]
          refine Tk.W 4 (some 58) (.unOp .not 4 (.tmp 57)) 4 none ?_
          refine wpAnyH_done (by kernel_rfl) ?_ _
          refine NoPanic.normal ?_
          clear BB R0 T0 RA RX TX RG hAk hAo kX oX hY hGk hGo
          obtain ⟨BB, R0, T0, RA, RX, TX, RG, hAk, hAo, kX, oX, hY, hGk, hGo⟩ := hHeld.2.2.2.2.2.2.2.2.2.2.2.2.2.2.2.2.2.2.out
          clear hHeld
          clear cR00 cR01 cR02 cR03 cR04 cR05 cR06 cR07 cR08 lR0 cRX0 cRX1 cRX2 cRX3 cRX4 cRX5 cRX6 cRX7 cRX8 lRX
          have cT00 := T0.cell 0 rfl
          have cT01 := T0.cell 1 rfl
          have cT02 := T0.cell 2 rfl
          have cT03 := T0.cell 3 rfl
          have cT04 := T0.cell 4 rfl
          have lT0 := T0.lt (by simp)
          have cTX0 := TX.cell 0 rfl
          have cTX1 := TX.cell 1 rfl
          have cTX2 := TX.cell 2 rfl
          have cTX3 := TX.cell 3 rfl
          have cTX4 := TX.cell 4 rfl
          have lTX := TX.lt (by simp)
          go_wp2_with fail
          refine wp_region_noPanic ?_
          refine wp_region_held_drew (S := (fun w' => w'.cell? ⟨w.heap.size + 1, 0, none⟩ = some (.slice aD nD cD) ∧ w'.cell? ⟨w.heap.size + 1, 1, none⟩ = some (.slice aE nE cE) ∧ w'.cell? ⟨w.heap.size + 1, 2, none⟩ = some (.slice aL nL cL) ∧ w'.cell? ⟨w.heap.size + 1, 3, none⟩ = some (.slice aF nF cF) ∧ w'.cell? ⟨w.heap.size + 1, 4, none⟩ = some (.slice aR nR cR) ∧ w'.cell? ⟨w6.heap.size, 0, none⟩ = some (.slice (some ⟨y0, 0, none⟩) nD nD) ∧ w'.cell? ⟨w6.heap.size, 1, none⟩ = some (.slice (some ⟨y1, 0, none⟩) nE nE) ∧ w'.cell? ⟨w6.heap.size, 2, none⟩ = some (.slice (some ⟨y2, 0, none⟩) nL nL) ∧ w'.cell? ⟨w6.heap.size, 3, none⟩ = some (.slice (some ⟨y3, 0, none⟩) nF nF) ∧ w'.cell? ⟨w6.heap.size, 4, none⟩ = some (.slice (some ⟨y4, 0, none⟩) nR nR) ∧ Hid (Below w.heap.size w w' ∧ Rm.Room w' (w.heap.size) [.int .i64 n, .int .i64 l, .int .i64 d, .int .i64 r, .int .i64 p, .int .i64 s, .slice a k ka, .slice b m mb, .int .i64 t] ∧ Rm.Room w' (w.heap.size + 1) [.slice aD nD cD, .slice aE nE cE, .slice aL nL cL, .slice aF nF cF, .slice aR nR cR] ∧ Rm.Room w' (XA) [.int .i64 n, .int .i64 l, .int .i64 d, .int .i64 r, .int .i64 p, .int .i64 s, .slice (some ⟨gAk, 0, none⟩) k cAk, .slice (some ⟨gAo, 0, none⟩) m cAo, .int .i64 (Tu.RU n l d r p s ks k os m t ds es ls fs rs nF nR)] ∧ Rm.Room w' (w5.heap.size) [.int .i64 n, .int .i64 l, .int .i64 d, .int .i64 r, .int .i64 p, .int .i64 s, .slice (some ⟨gX, 0, none⟩) k k, .slice (some ⟨hX, 0, none⟩) m m, .int .i64 t] ∧ Rm.Room w' (w6.heap.size) [.slice (some ⟨y0, 0, none⟩) nD nD, .slice (some ⟨y1, 0, none⟩) nE nE, .slice (some ⟨y2, 0, none⟩) nL nL, .slice (some ⟨y3, 0, none⟩) nF nF, .slice (some ⟨y4, 0, none⟩) nR nR] ∧ Rm.Room w' (w8.heap.size) [.int .i64 n, .int .i64 l, .int .i64 d, .int .i64 r, .int .i64 p, .int .i64 s, .slice (some ⟨gGk, 0, none⟩) k cGk, .slice (some ⟨gGo, 0, none⟩) m cGo, .int .i64 (Tu.RU n l d r p s ks k os m t ds es ls fs rs nF nR)] ∧ Ow.Has w' 0 gAk 0 k (Tu.RK n l d r p s ks k os m t ds es ls fs rs nF nR) ∧ Ow.Has w' 0 gAo 0 m (Tu.RO n l d r p s ks k os m t ds es ls fs rs nF nR) ∧ Ow.Has w' w4.heap.size gX 0 k ks ∧ Ow.Has w' w4.heap.size hX 0 m os ∧ Tu.HasT w' (w5.heap.size + 1) w6.heap.size y0 y1 y2 y3 y4 nD nE nL nF nR ds es ls fs rs ∧ Ow.Has w' 0 gGk 0 k (Tu.RK n l d r p s ks k os m t ds es ls fs rs nF nR) ∧ Ow.Has w' 0 gGo 0 m (Tu.RO n l d r p s ks k os m t ds es ls fs rs nF nR)))) (by kernel_rfl) ⟨T0.cell 0 rfl, T0.cell 1 rfl, T0.cell 2 rfl, T0.cell 3 rfl, T0.cell 4 rfl, TX.cell 0 rfl, TX.cell 1 rfl, TX.cell 2 rfl, TX.cell 3 rfl, TX.cell 4 rfl, ⟨BB.drew, R0.drew, T0.drew, RA.drew, RX.drew, TX.drew, RG.drew, hAk.later (Below.refl _ _).drew hAk.2.2.1, hAo.later (Below.refl _ _).drew hAo.2.2.1, kX.later (Below.refl _ _).drew kX.2.2.1, oX.later (Below.refl _ _).drew oX.2.2.1, hY.later (Below.refl _ _).drew, hGk.later (Below.refl _ _).drew hGk.2.2.1, hGo.later (Below.refl _ _).drew hGo.2.2.1⟩⟩ (fun hHeld => ?_)
          refine Tk.W 0 (some 59) (.load 32 (.tmp 9)) 32 none ?_
          refine Tk.W 1 (some 60) (.load 48 (.tmp 3)) 48 none ?_
          refine Tk.R 2 (some 61) (.call ⟨.value (.func 19), #[.tmp 60], #[48]⟩) 32 none (fun K hK => ?_)
          go_simp
          refine (Tu.toTurn aD aE aL aF aR nD cD nE cE nL cL nF cF nR cR ds es ls fs rs _ ((rD.later hHeld.2.2.2.2.2.2.2.2.2.2.out.1 (Nat.le_refl _)).more hHeld.2.2.2.2.2.2.2.2.2.2.out.1.size) ((rE.later hHeld.2.2.2.2.2.2.2.2.2.2.out.1 (Nat.le_refl _)).more hHeld.2.2.2.2.2.2.2.2.2.2.out.1.size) ((rL.later hHeld.2.2.2.2.2.2.2.2.2.2.out.1 (Nat.le_refl _)).more hHeld.2.2.2.2.2.2.2.2.2.2.out.1.size) ((rF.later hHeld.2.2.2.2.2.2.2.2.2.2.out.1 (Nat.le_refl _)).more hHeld.2.2.2.2.2.2.2.2.2.2.out.1.size) ((rR.later hHeld.2.2.2.2.2.2.2.2.2.2.out.1 (Nat.le_refl _)).more hHeld.2.2.2.2.2.2.2.2.2.2.out.1.size) hz).mono ?_
          rintro e vxt3 ⟨⟨e0, e1, e2, e3, e4, rfl, hN⟩, b_xt3⟩
          have ⟨BB_xt3, R0_xt3, T0_xt3, RA_xt3, RX_xt3, TX_xt3, RG_xt3, hAk_xt3, hAo_xt3, kX_xt3, oX_xt3, hY_xt3, hGk_xt3, hGo_xt3⟩ := hHeld.2.2.2.2.2.2.2.2.2.2.out
          have BB2_xt3 := BB_xt3.trans (b_xt3.mono BB_xt3.size)
          have R02_xt3 := R0_xt3.below b_xt3
          have T02_xt3 := T0_xt3.below b_xt3
          have RA2_xt3 := RA_xt3.below b_xt3
          have RX2_xt3 := RX_xt3.below b_xt3
          have TX2_xt3 := TX_xt3.below b_xt3
          have RG2_xt3 := RG_xt3.below b_xt3
          have hAk2_xt3 := hAk_xt3.later b_xt3 hAk_xt3.2.2.1
          have hAo2_xt3 := hAo_xt3.later b_xt3 hAo_xt3.2.2.1
          have kX2_xt3 := kX_xt3.later b_xt3 kX_xt3.2.2.1
          have oX2_xt3 := oX_xt3.later b_xt3 oX_xt3.2.2.1
          have hY2_xt3 := hY_xt3.later b_xt3
          have hGk2_xt3 := hGk_xt3.later b_xt3 hGk_xt3.2.2.1
          have hGo2_xt3 := hGo_xt3.later b_xt3 hGo_xt3.2.2.1
          have kvxt3 := Tk.kv hK (w := vxt3) ⟨T02_xt3.cell 0 rfl, T02_xt3.cell 1 rfl, T02_xt3.cell 2 rfl, T02_xt3.cell 3 rfl, T02_xt3.cell 4 rfl, TX2_xt3.cell 0 rfl, TX2_xt3.cell 1 rfl, TX2_xt3.cell 2 rfl, TX2_xt3.cell 3 rfl, TX2_xt3.cell 4 rfl, ⟨BB2_xt3, R02_xt3, T02_xt3, RA2_xt3, RX2_xt3, TX2_xt3, RG2_xt3, hAk2_xt3, hAo2_xt3, kX2_xt3, oX2_xt3, hY2_xt3, hGk2_xt3, hGo2_xt3⟩⟩
          have hNa := hN.all
          have hYa := hY2_xt3.all
          clear BB_xt3 R0_xt3 T0_xt3 RA_xt3 RX_xt3 TX_xt3 RG_xt3 hAk_xt3 hAo_xt3 kX_xt3 oX_xt3 hY_xt3 hGk_xt3 hGo_xt3 BB2_xt3 R02_xt3 T02_xt3 RA2_xt3 RX2_xt3 TX2_xt3 RG2_xt3 hAk2_xt3 hAo2_xt3 kX2_xt3 oX2_xt3 hY2_xt3 hGk2_xt3 hGo2_xt3
          try dsimp only
          refine hK.out _ _ kvxt3 ?_; clear hK K hHeld; intro hHeld; try simp only [Act.put, List.setIfInBounds_toArray, List.set_cons_zero, List.set_cons_succ]
          refine Tk.R 3 (some 62) (.call ⟨.value (.func 21), #[.tmp 59, .tmp 61], #[32, 32]⟩) 4 none (fun K hK => ?_)
          go_simp
          refine (Tu.eqTurn _ _ _ _ _ _ _ _ _ _ nD _ _ nE _ _ nL _ _ nF _ _ nR _ _ ds es ls fs rs _ hYa.1 hYa.2.1 hYa.2.2.1 hYa.2.2.2.1 hYa.2.2.2.2 hNa.1 hNa.2.1 hNa.2.2.1 hNa.2.2.2.1 hNa.2.2.2.2 hz).mono ?_
          rintro e vxt4 ⟨rfl, b_xt4⟩
          have ⟨BB_xt4, R0_xt4, T0_xt4, RA_xt4, RX_xt4, TX_xt4, RG_xt4, hAk_xt4, hAo_xt4, kX_xt4, oX_xt4, hY_xt4, hGk_xt4, hGo_xt4⟩ := hHeld.2.2.2.2.2.2.2.2.2.2.out
          have BB2_xt4 := BB_xt4.trans (b_xt4.mono BB_xt4.size)
          have R02_xt4 := R0_xt4.below b_xt4
          have T02_xt4 := T0_xt4.below b_xt4
          have RA2_xt4 := RA_xt4.below b_xt4
          have RX2_xt4 := RX_xt4.below b_xt4
          have TX2_xt4 := TX_xt4.below b_xt4
          have RG2_xt4 := RG_xt4.below b_xt4
          have hAk2_xt4 := hAk_xt4.later b_xt4 hAk_xt4.2.2.1
          have hAo2_xt4 := hAo_xt4.later b_xt4 hAo_xt4.2.2.1
          have kX2_xt4 := kX_xt4.later b_xt4 kX_xt4.2.2.1
          have oX2_xt4 := oX_xt4.later b_xt4 oX_xt4.2.2.1
          have hY2_xt4 := hY_xt4.later b_xt4
          have hGk2_xt4 := hGk_xt4.later b_xt4 hGk_xt4.2.2.1
          have hGo2_xt4 := hGo_xt4.later b_xt4 hGo_xt4.2.2.1
          have kvxt4 := Tk.kv hK (w := vxt4) ⟨T02_xt4.cell 0 rfl, T02_xt4.cell 1 rfl, T02_xt4.cell 2 rfl, T02_xt4.cell 3 rfl, T02_xt4.cell 4 rfl, TX2_xt4.cell 0 rfl, TX2_xt4.cell 1 rfl, TX2_xt4.cell 2 rfl, TX2_xt4.cell 3 rfl, TX2_xt4.cell 4 rfl, ⟨BB2_xt4, R02_xt4, T02_xt4, RA2_xt4, RX2_xt4, TX2_xt4, RG2_xt4, hAk2_xt4, hAo2_xt4, kX2_xt4, oX2_xt4, hY2_xt4, hGk2_xt4, hGo2_xt4⟩⟩
          clear BB_xt4 R0_xt4 T0_xt4 RA_xt4 RX_xt4 TX_xt4 RG_xt4 hAk_xt4 hAo_xt4 kX_xt4 oX_xt4 hY_xt4 hGk_xt4 hGo_xt4 BB2_xt4 R02_xt4 T02_xt4 RA2_xt4 RX2_xt4 TX2_xt4 RG2_xt4 hAk2_xt4 hAo2_xt4 kX2_xt4 oX2_xt4 hY2_xt4 hGk2_xt4 hGo2_xt4
          try dsimp only
          refine hK.out _ _ kvxt4 ?_; clear hK K hHeld; intro hHeld; try simp only [Act.put, List.setIfInBounds_toArray, List.set_cons_zero, List.set_cons_succ]
          refine Tk.W 4 (some 63) (.unOp .not 4 (.tmp 62)) 4 none ?_
          refine wpAnyH_done (by kernel_rfl) ?_ _
          refine NoPanic.normal ?_
          clear BB R0 T0 RA RX TX RG hAk hAo kX oX hY hGk hGo
          obtain ⟨BB, R0, T0, RA, RX, TX, RG, hAk, hAo, kX, oX, hY, hGk, hGo⟩ := hHeld.2.2.2.2.2.2.2.2.2.2.out
          clear hHeld
          clear cT00 cT01 cT02 cT03 cT04 lT0 cTX0 cTX1 cTX2 cTX3 cTX4 lTX
          have cRX0 := RX.cell 0 rfl
          have cRX1 := RX.cell 1 rfl
          have cRX2 := RX.cell 2 rfl
          have cRX3 := RX.cell 3 rfl
          have cRX4 := RX.cell 4 rfl
          have cRX5 := RX.cell 5 rfl
          have cRX6 := RX.cell 6 rfl
          have cRX7 := RX.cell 7 rfl
          have cRX8 := RX.cell 8 rfl
          have lRX := RX.lt (by simp)
          go_wp2_with fail
          refine (Wl.markWorld n l d r p s t w4.heap.size gX 0 hX 0 k k m m ks os _ kX oX (by omega) hk hm).mono ?_
          rintro e wm ⟨rfl, mK, mO, xm, ym, bm, em, fm⟩
          clear cRX0 cRX1 cRX2 cRX3 cRX4 cRX5 cRX6 cRX7 cRX8 lRX
          clear mK mO RX kX oX
          have mm := (((Ss.Mid.of_below (B := w4.heap.size) (C := w5.heap.size) bm).trans (Ss.Mid.of_grown em (by omega) (by omega))).trans (Ss.Mid.of_grown fm (by omega) (by omega)))
          clear bm em fm
          replace R0 := mm.room R0 (by simp) (by omega)
          replace T0 := mm.room T0 (by simp) (by omega)
          replace RA := mm.room RA (by simp) (by omega)
          replace TX := mm.room TX (by simp) (by omega)
          replace RG := mm.room RG (by simp) (by omega)
          replace hAk := mm.has hAk (by omega)
          replace hAo := mm.has hAo (by omega)
          replace hGk := mm.has hGk (by omega)
          replace hGo := mm.has hGo (by omega)
          replace hY := Tu.Mid.hasT mm hY (.inr (by omega))
          replace BB := BB.trans (mm.below (by omega) BB.size)
          have cTX0 := TX.cell 0 rfl
          have cTX1 := TX.cell 1 rfl
          have cTX2 := TX.cell 2 rfl
          have cTX3 := TX.cell 3 rfl
          have cTX4 := TX.cell 4 rfl
          have lTX := TX.lt (by simp)
          go_wp2_with fail
          refine (Tu.markTurn (1 + (k : Int) + (m : Int)) (w5.heap.size + 1) w6.heap.size y0 y1 y2 y3 y4 nD nE nL nF nR ds es ls fs rs _ hY hz (by omega) (by omega)).mono ?_
          rintro e wn ⟨rfl, mt⟩
          clear cTX0 cTX1 cTX2 cTX3 cTX4 lTX
          clear TX hY mm
          replace R0 := mt.room R0 (by simp) (by omega)
          replace T0 := mt.room T0 (by simp) (by omega)
          replace RA := mt.room RA (by simp) (by omega)
          replace RG := mt.room RG (by simp) (by omega)
          replace hAk := mt.has hAk (by omega)
          replace hAo := mt.has hAo (by omega)
          replace hGk := mt.has hGk (by omega)
          replace hGo := mt.has hGo (by omega)
          replace BB := BB.trans (mt.below (by omega) BB.size)
          have hx1b : decide ((1 : Int) + (k : Int) + (m : Int) + (nD : Int) + (Ss.tot es nE : Int) + (Ss.tot ls nL : Int) + (nF : Int) + (nR : Int) < 0) = false := by simp; omega
          clear mt
          have cRA0 := RA.cell 0 rfl
          have cRA1 := RA.cell 1 rfl
          have cRA2 := RA.cell 2 rfl
          have cRA3 := RA.cell 3 rfl
          have cRA4 := RA.cell 4 rfl
          have cRA5 := RA.cell 5 rfl
          have cRA6 := RA.cell 6 rfl
          have cRA7 := RA.cell 7 rfl
          have cRA8 := RA.cell 8 rfl
          have lRA := RA.lt (by simp)
          have cRG0 := RG.cell 0 rfl
          have cRG1 := RG.cell 1 rfl
          have cRG2 := RG.cell 2 rfl
          have cRG3 := RG.cell 3 rfl
          have cRG4 := RG.cell 4 rfl
          have cRG5 := RG.cell 5 rfl
          have cRG6 := RG.cell 6 rfl
          have cRG7 := RG.cell 7 rfl
          have cRG8 := RG.cell 8 rfl
          have lRG := RG.lt (by simp)
          go_wp2_with fail
          refine (Wl.eqWorld n l d r p s (Tu.RU n l d r p s ks k os m t ds es ls fs rs nF nR) _ _ _ _ k _ _ m _ _ (Tu.RK n l d r p s ks k os m t ds es ls fs rs nF nR) (Tu.RO n l d r p s ks k os m t ds es ls fs rs nF nR) _ hGk.row hAk.row hGo.row hAo.row hk hm).mono ?_
          rintro e wq ⟨rfl, bb9⟩
          clear cRA0 cRA1 cRA2 cRA3 cRA4 cRA5 cRA6 cRA7 cRA8 lRA cRG0 cRG1 cRG2 cRG3 cRG4 cRG5 cRG6 cRG7 cRG8 lRG
          have z_bb9 := bb9.size
          (try simp at z_bb9)
          replace R0 := R0.below bb9
          replace T0 := T0.below bb9
          replace RA := RA.below bb9
          replace RG := RG.below bb9
          replace hAk := hAk.later bb9 hAk.2.2.1
          replace hAo := hAo.later bb9 hAo.2.2.1
          replace hGk := hGk.later bb9 hGk.2.2.1
          replace hGo := hGo.later bb9 hGo.2.2.1
          replace BB := BB.trans (bb9.mono BB.size)
          have cRG0 := RG.cell 0 rfl
          have cRG1 := RG.cell 1 rfl
          have cRG2 := RG.cell 2 rfl
          have cRG3 := RG.cell 3 rfl
          have cRG4 := RG.cell 4 rfl
          have cRG5 := RG.cell 5 rfl
          have cRG6 := RG.cell 6 rfl
          have cRG7 := RG.cell 7 rfl
          have cRG8 := RG.cell 8 rfl
          have lRG := RG.lt (by simp)
          have hx1c : decide ((1 : Int) + (k : Int) + (m : Int) < 0) = false := by simp; omega
          go_wp2_with fail
          refine (Wl.markWorld n l d r p s (Tu.RU n l d r p s ks k os m t ds es ls fs rs nF nR) 0 gGk 0 gGo 0 k cGk m cGo (Tu.RK n l d r p s ks k os m t ds es ls fs rs nF nR) (Tu.RO n l d r p s ks k os m t ds es ls fs rs nF nR) _ hGk hGo neG hk hm).mono ?_
          rintro e wg ⟨rfl, mGk, mGo, xg, yg, bg, eg, fg⟩
          clear cRG0 cRG1 cRG2 cRG3 cRG4 cRG5 cRG6 cRG7 cRG8 lRG
          clear hGk hGo
          have z_bg := bg.size
          have z_eg := eg.size
          have z_fg := fg.size
          replace R0 := R0.below bg
          replace T0 := T0.below bg
          replace RA := RA.below bg
          replace RG := RG.below bg
          replace hAk := hAk.later bg hAk.2.2.1
          replace hAo := hAo.later bg hAo.2.2.1
          replace BB := BB.trans (bg.mono BB.size)
          replace R0 := R0.other eg (by omega)
          replace T0 := T0.other eg (by omega)
          replace RA := RA.other eg (by omega)
          replace RG := RG.other eg (by omega)
          replace hAk := hAk.kept eg (by omega)
          replace hAo := hAo.kept eg (by omega)
          replace BB := BB.grown eg BB.size (by intro j hj; cases hj; omega)
          replace R0 := R0.other fg (by omega)
          replace T0 := T0.other fg (by omega)
          replace RA := RA.other fg (by omega)
          replace RG := RG.other fg (by omega)
          replace hAk := hAk.kept fg (by omega)
          replace hAo := hAo.kept fg (by omega)
          replace BB := BB.grown fg BB.size (by intro j hj; cases hj; omega)
          clear bg eg fg
          have cRG0 := RG.cell 0 rfl
          have cRG1 := RG.cell 1 rfl
          have cRG2 := RG.cell 2 rfl
          have cRG3 := RG.cell 3 rfl
          have cRG4 := RG.cell 4 rfl
          have cRG5 := RG.cell 5 rfl
          have cRG6 := RG.cell 6 rfl
          have cRG7 := RG.cell 7 rfl
          have cRG8 := RG.cell 8 rfl
          have lRG := RG.lt (by simp)
          go_wp2_with fail
          refine (Wl.heldWorld n l d r p s (Tu.RU n l d r p s ks k os m t ds es ls fs rs nF nR) _ gGk 0 gGo 0 k _ m _ _ mGk mGo hk hm).mono ?_
          rintro e wh ⟨rfl, bh⟩
          clear cRG0 cRG1 cRG2 cRG3 cRG4 cRG5 cRG6 cRG7 cRG8 lRG
          have z_bh := bh.size
          (try simp at z_bh)
          replace R0 := R0.below bh
          replace T0 := T0.below bh
          replace RA := RA.below bh
          replace RG := RG.below bh
          replace hAk := hAk.later bh hAk.2.2.1
          replace hAo := hAo.later bh hAo.2.2.1
          replace mGk := mGk.later bh mGk.2.2.1
          replace mGo := mGo.later bh mGo.2.2.1
          replace BB := BB.trans (bh.mono BB.size)
          have lo_R0H := R0.lt (by simp)
          have lo_T0H := T0.lt (by simp)
          have lo_RAH := RA.lt (by simp)
          have lo_RGH := RG.lt (by simp)
          have lo_hAkH := hAk.2.2.1
          have lo_hAoH := hAo.2.2.1
          have lo_mGkH := mGk.2.2.1
          have lo_mGoH := mGo.2.2.1
          have cR00 := R0.cell 0 rfl
          have cR01 := R0.cell 1 rfl
          have cR02 := R0.cell 2 rfl
          have cR03 := R0.cell 3 rfl
          have cR04 := R0.cell 4 rfl
          have cR05 := R0.cell 5 rfl
          have cR06 := R0.cell 6 rfl
          have cR07 := R0.cell 7 rfl
          have cR08 := R0.cell 8 rfl
          have lR0 := R0.lt (by simp)
          have cT00 := T0.cell 0 rfl
          have cT01 := T0.cell 1 rfl
          have cT02 := T0.cell 2 rfl
          have cT03 := T0.cell 3 rfl
          have cT04 := T0.cell 4 rfl
          have lT0 := T0.lt (by simp)
          go_wp2_with fail
          clear cR00 cR01 cR02 cR03 cR04 cR05 cR06 cR07 cR08 lR0 cT00 cT01 cT02 cT03 cT04 lT0
          go_cut [15, 16] from 17 (fun p6 v7 wc => ∃ XH gHk cHk gHo cHo : Nat, p6 = .pointer (some ⟨XH, 0, none⟩) ∧ v7 = .bool (Tu.RB n l d r p s ks k os m t ds es ls fs rs nF nR) ∧ Hid (Below w.heap.size w wc ∧ Rm.Room wc (w.heap.size) [.int .i64 n, .int .i64 l, .int .i64 d, .int .i64 r, .int .i64 p, .int .i64 s, .slice a k ka, .slice b m mb, .int .i64 t] ∧ Rm.Room wc (w.heap.size + 1) [.slice aD nD cD, .slice aE nE cE, .slice aL nL cL, .slice aF nF cF, .slice aR nR cR] ∧ Rm.Room wc (XA) [.int .i64 n, .int .i64 l, .int .i64 d, .int .i64 r, .int .i64 p, .int .i64 s, .slice (some ⟨gAk, 0, none⟩) k cAk, .slice (some ⟨gAo, 0, none⟩) m cAo, .int .i64 (Tu.RU n l d r p s ks k os m t ds es ls fs rs nF nR)] ∧ Rm.Room wc (w8.heap.size) [.int .i64 n, .int .i64 l, .int .i64 d, .int .i64 r, .int .i64 p, .int .i64 s, .slice (some ⟨gGk, 0, none⟩) k cGk, .slice (some ⟨gGo, 0, none⟩) m cGo, .int .i64 (Tu.RU n l d r p s ks k os m t ds es ls fs rs nF nR)] ∧ Ow.Has wc 0 gAk 0 k (Tu.RK n l d r p s ks k os m t ds es ls fs rs nF nR) ∧ Ow.Has wc 0 gAo 0 m (Tu.RO n l d r p s ks k os m t ds es ls fs rs nF nR) ∧ Ow.Has wc 0 gGk 0 k (Ow.marks 1 k) ∧ Ow.Has wc 0 gGo 0 m (Ow.marks (1 + k) m) ∧ Rm.Room wc XH [.int .i64 n, .int .i64 l, .int .i64 d, .int .i64 r, .int .i64 p, .int .i64 s, .slice (some ⟨gHk, 0, none⟩) k cHk, .slice (some ⟨gHo, 0, none⟩) m cHo, .int .i64 (Tu.RU n l d r p s ks k os m t ds es ls fs rs nF nR)] ∧ Ow.Has wc 0 gHk 0 k (Tu.RK n l d r p s ks k os m t ds es ls fs rs nF nR) ∧ Ow.Has wc 0 gHo 0 m (Tu.RO n l d r p s ks k os m t ds es ls fs rs nF nR) ∧ gHk ≠ gHo ∧ wh.heap.size ≤ gHk ∧ wh.heap.size ≤ gHo ∧ XH ≠ gHk ∧ XH ≠ gHo ∧ wh.heap.size ≤ XH))
          case first =>
            have hd0 : wh.heap.size ≤ wh.drew.heap.size := Nat.le_refl _
            refine wp_region_noPanic ?_
            refine wp_region_held_drew (S := (fun w' => w'.cell? ⟨w.heap.size, 0, none⟩ = some (.int .i64 n) ∧ w'.cell? ⟨w.heap.size, 1, none⟩ = some (.int .i64 l) ∧ w'.cell? ⟨w.heap.size, 2, none⟩ = some (.int .i64 d) ∧ w'.cell? ⟨w.heap.size, 3, none⟩ = some (.int .i64 r) ∧ w'.cell? ⟨w.heap.size, 4, none⟩ = some (.int .i64 p) ∧ w'.cell? ⟨w.heap.size, 5, none⟩ = some (.int .i64 s) ∧ w'.cell? ⟨w.heap.size, 6, none⟩ = some (.slice a k ka) ∧ w'.cell? ⟨w.heap.size, 7, none⟩ = some (.slice b m mb) ∧ w'.cell? ⟨w.heap.size, 8, none⟩ = some (.int .i64 t) ∧ w'.cell? ⟨w.heap.size + 1, 0, none⟩ = some (.slice aD nD cD) ∧ w'.cell? ⟨w.heap.size + 1, 1, none⟩ = some (.slice aE nE cE) ∧ w'.cell? ⟨w.heap.size + 1, 2, none⟩ = some (.slice aL nL cL) ∧ w'.cell? ⟨w.heap.size + 1, 3, none⟩ = some (.slice aF nF cF) ∧ w'.cell? ⟨w.heap.size + 1, 4, none⟩ = some (.slice aR nR cR) ∧ Hid (Below w.heap.size w w' ∧ Rm.Room w' (w.heap.size) [.int .i64 n, .int .i64 l, .int .i64 d, .int .i64 r, .int .i64 p, .int .i64 s, .slice a k ka, .slice b m mb, .int .i64 t] ∧ Rm.Room w' (w.heap.size + 1) [.slice aD nD cD, .slice aE nE cE, .slice aL nL cL, .slice aF nF cF, .slice aR nR cR] ∧ Rm.Room w' (XA) [.int .i64 n, .int .i64 l, .int .i64 d, .int .i64 r, .int .i64 p, .int .i64 s, .slice (some ⟨gAk, 0, none⟩) k cAk, .slice (some ⟨gAo, 0, none⟩) m cAo, .int .i64 (Tu.RU n l d r p s ks k os m t ds es ls fs rs nF nR)] ∧ Rm.Room w' (w8.heap.size) [.int .i64 n, .int .i64 l, .int .i64 d, .int .i64 r, .int .i64 p, .int .i64 s, .slice (some ⟨gGk, 0, none⟩) k cGk, .slice (some ⟨gGo, 0, none⟩) m cGo, .int .i64 (Tu.RU n l d r p s ks k os m t ds es ls fs rs nF nR)] ∧ Ow.Has w' 0 gAk 0 k (Tu.RK n l d r p s ks k os m t ds es ls fs rs nF nR) ∧ Ow.Has w' 0 gAo 0 m (Tu.RO n l d r p s ks k os m t ds es ls fs rs nF nR) ∧ Ow.Has w' 0 gGk 0 k (Ow.marks 1 k) ∧ Ow.Has w' 0 gGo 0 m (Ow.marks (1 + k) m)))) (by kernel_rfl) ⟨R0.cell 0 rfl, R0.cell 1 rfl, R0.cell 2 rfl, R0.cell 3 rfl, R0.cell 4 rfl, R0.cell 5 rfl, R0.cell 6 rfl, R0.cell 7 rfl, R0.cell 8 rfl, T0.cell 0 rfl, T0.cell 1 rfl, T0.cell 2 rfl, T0.cell 3 rfl, T0.cell 4 rfl, ⟨BB.drew, R0.drew, T0.drew, RA.drew, RG.drew, hAk.later (Below.refl _ _).drew hAk.2.2.1, hAo.later (Below.refl _ _).drew hAo.2.2.1, mGk.later (Below.refl _ _).drew mGk.2.2.1, mGo.later (Below.refl _ _).drew mGo.2.2.1⟩⟩ (fun hHeld => ?_)
            refine Tk.W 0 (some 95) (.load 47 (.tmp 2)) 47 none ?_
            refine Tk.W 2 (some 97) (.load 48 (.tmp 3)) 48 none ?_
            refine wpAnyH_ready (rs := [1, 8]) (by kernel_rfl) (by simp) ?_
            refine (AllReadyH.cons (o := ⟨some 96, .call ⟨.value (.func 18), #[.tmp 95], #[47]⟩, 28, _, _, none⟩) rfl (fun K hK => ?_) (AllReadyH.cons (o := ⟨some 15, .alloc 28, 0, _, _, none⟩) rfl (fun K hK => ?_) AllReadyH.nil))
            · go_simp
              refine (Wl.toWorld n l d r p s t a b k ka m mb ks os _ ((hr.later hHeld.2.2.2.2.2.2.2.2.2.2.2.2.2.2.out.1 (Nat.le_refl _)).more hHeld.2.2.2.2.2.2.2.2.2.2.2.2.2.2.out.1.size) ((hs.later hHeld.2.2.2.2.2.2.2.2.2.2.2.2.2.2.out.1 (Nat.le_refl _)).more hHeld.2.2.2.2.2.2.2.2.2.2.2.2.2.2.out.1.size) hk hm).mono ?_
              rintro e wTW ⟨⟨gk, go, rfl, kK, kO, _⟩, b_yt3⟩
              have ⟨BB_yt3, R0_yt3, T0_yt3, RA_yt3, RG_yt3, hAk_yt3, hAo_yt3, mGk_yt3, mGo_yt3⟩ := hHeld.2.2.2.2.2.2.2.2.2.2.2.2.2.2.out
              have BB2_yt3 := BB_yt3.trans (b_yt3.mono BB_yt3.size)
              have R02_yt3 := R0_yt3.below b_yt3
              have T02_yt3 := T0_yt3.below b_yt3
              have RA2_yt3 := RA_yt3.below b_yt3
              have RG2_yt3 := RG_yt3.below b_yt3
              have hAk2_yt3 := hAk_yt3.later b_yt3 hAk_yt3.2.2.1
              have hAo2_yt3 := hAo_yt3.later b_yt3 hAo_yt3.2.2.1
              have mGk2_yt3 := mGk_yt3.later b_yt3 mGk_yt3.2.2.1
              have mGo2_yt3 := mGo_yt3.later b_yt3 mGo_yt3.2.2.1
              have kvyt3 := Tk.kv hK (w := wTW) ⟨R02_yt3.cell 0 rfl, R02_yt3.cell 1 rfl, R02_yt3.cell 2 rfl, R02_yt3.cell 3 rfl, R02_yt3.cell 4 rfl, R02_yt3.cell 5 rfl, R02_yt3.cell 6 rfl, R02_yt3.cell 7 rfl, R02_yt3.cell 8 rfl, T02_yt3.cell 0 rfl, T02_yt3.cell 1 rfl, T02_yt3.cell 2 rfl, T02_yt3.cell 3 rfl, T02_yt3.cell 4 rfl, ⟨BB2_yt3, R02_yt3, T02_yt3, RA2_yt3, RG2_yt3, hAk2_yt3, hAo2_yt3, mGk2_yt3, mGo2_yt3⟩⟩
              have zz_yt3 := b_yt3.size
              clear BB_yt3 R0_yt3 T0_yt3 RA_yt3 RG_yt3 hAk_yt3 hAo_yt3 mGk_yt3 mGo_yt3 BB2_yt3 R02_yt3 T02_yt3 RA2_yt3 RG2_yt3 hAk2_yt3 hAo2_yt3 mGk2_yt3 mGo2_yt3
              try dsimp only
              refine hK.out _ _ kvyt3 ?_; clear hK K hHeld; intro hHeld; try simp only [Act.put, List.setIfInBounds_toArray, List.set_cons_zero, List.set_cons_succ]
              refine wpAnyH_ready (rs := [3, 8]) (by kernel_rfl) (by simp) ?_
              refine (AllReadyH.cons (o := ⟨some 98, .call ⟨.value (.func 19), #[.tmp 97], #[48]⟩, 32, _, _, none⟩) rfl (fun K hK => ?_) (AllReadyH.cons (o := ⟨some 15, .alloc 28, 0, _, _, none⟩) rfl (fun K hK => ?_) AllReadyH.nil))
              · go_simp
                refine (Tu.toTurn aD aE aL aF aR nD cD nE cE nL cL nF cF nR cR ds es ls fs rs _ ((rD.later hHeld.2.2.2.2.2.2.2.2.2.2.2.2.2.2.out.1 (Nat.le_refl _)).more hHeld.2.2.2.2.2.2.2.2.2.2.2.2.2.2.out.1.size) ((rE.later hHeld.2.2.2.2.2.2.2.2.2.2.2.2.2.2.out.1 (Nat.le_refl _)).more hHeld.2.2.2.2.2.2.2.2.2.2.2.2.2.2.out.1.size) ((rL.later hHeld.2.2.2.2.2.2.2.2.2.2.2.2.2.2.out.1 (Nat.le_refl _)).more hHeld.2.2.2.2.2.2.2.2.2.2.2.2.2.2.out.1.size) ((rF.later hHeld.2.2.2.2.2.2.2.2.2.2.2.2.2.2.out.1 (Nat.le_refl _)).more hHeld.2.2.2.2.2.2.2.2.2.2.2.2.2.2.out.1.size) ((rR.later hHeld.2.2.2.2.2.2.2.2.2.2.2.2.2.2.out.1 (Nat.le_refl _)).more hHeld.2.2.2.2.2.2.2.2.2.2.2.2.2.2.out.1.size) hz).mono ?_
                rintro e wTT ⟨⟨g0, g1, g2, g3, g4, rfl, hT⟩, b_yt4⟩
                have ⟨BB_yt4, R0_yt4, T0_yt4, RA_yt4, RG_yt4, hAk_yt4, hAo_yt4, mGk_yt4, mGo_yt4⟩ := hHeld.2.2.2.2.2.2.2.2.2.2.2.2.2.2.out
                have BB2_yt4 := BB_yt4.trans (b_yt4.mono BB_yt4.size)
                have R02_yt4 := R0_yt4.below b_yt4
                have T02_yt4 := T0_yt4.below b_yt4
                have RA2_yt4 := RA_yt4.below b_yt4
                have RG2_yt4 := RG_yt4.below b_yt4
                have hAk2_yt4 := hAk_yt4.later b_yt4 hAk_yt4.2.2.1
                have hAo2_yt4 := hAo_yt4.later b_yt4 hAo_yt4.2.2.1
                have mGk2_yt4 := mGk_yt4.later b_yt4 mGk_yt4.2.2.1
                have mGo2_yt4 := mGo_yt4.later b_yt4 mGo_yt4.2.2.1
                have kvyt4 := Tk.kv hK (w := wTT) ⟨R02_yt4.cell 0 rfl, R02_yt4.cell 1 rfl, R02_yt4.cell 2 rfl, R02_yt4.cell 3 rfl, R02_yt4.cell 4 rfl, R02_yt4.cell 5 rfl, R02_yt4.cell 6 rfl, R02_yt4.cell 7 rfl, R02_yt4.cell 8 rfl, T02_yt4.cell 0 rfl, T02_yt4.cell 1 rfl, T02_yt4.cell 2 rfl, T02_yt4.cell 3 rfl, T02_yt4.cell 4 rfl, ⟨BB2_yt4, R02_yt4, T02_yt4, RA2_yt4, RG2_yt4, hAk2_yt4, hAo2_yt4, mGk2_yt4, mGo2_yt4⟩⟩
                replace kK := kK.later b_yt4 kK.2.2.1
                replace kO := kO.later b_yt4 kO.2.2.1
                have hTa := hT.all
                have zz_yt4 := b_yt4.size
                clear BB_yt4 R0_yt4 T0_yt4 RA_yt4 RG_yt4 hAk_yt4 hAo_yt4 mGk_yt4 mGo_yt4 BB2_yt4 R02_yt4 T02_yt4 RA2_yt4 RG2_yt4 hAk2_yt4 hAo2_yt4 mGk2_yt4 mGo2_yt4
                try dsimp only
                refine hK.out _ _ kvyt4 ?_; clear hK K hHeld; intro hHeld; try simp only [Act.put, List.setIfInBounds_toArray, List.set_cons_zero, List.set_cons_succ]
                refine wpAnyH_ready (rs := [4, 8]) (by kernel_rfl) (by simp) ?_
                refine (AllReadyH.cons (o := ⟨some 99, .call ⟨.value (.func 7), #[.tmp 96, .tmp 98], #[28, 32]⟩, 35, _, _, none⟩) rfl (fun K hK => ?_) (AllReadyH.cons (o := ⟨some 15, .alloc 28, 0, _, _, none⟩) rfl (fun K hK => ?_) AllReadyH.nil))
                · go_simp
                  refine (Tu.i_Turned n l d r p s t _ 0 k k _ m m _ _ _ _ _ nD nD nE nE nL nL nF nF nR nR ks os ds es ls fs rs _ kK.1 kK.2.2.2.1 kK.2.2.1 kO.row hTa.1 hTa.2.1 hTa.2.2.1 hTa.2.2.2.1 hTa.2.2.2.2 hk hm hnF hnR hnD hnE hnL htE htL).mono ?_
                  rintro e wTD ⟨⟨hFa, hTr⟩, b_yt5⟩
                  have ⟨BB_yt5, R0_yt5, T0_yt5, RA_yt5, RG_yt5, hAk_yt5, hAo_yt5, mGk_yt5, mGo_yt5⟩ := hHeld.2.2.2.2.2.2.2.2.2.2.2.2.2.2.out
                  have BB2_yt5 := BB_yt5.trans (b_yt5.mono BB_yt5.size)
                  have R02_yt5 := R0_yt5.below b_yt5
                  have T02_yt5 := T0_yt5.below b_yt5
                  have RA2_yt5 := RA_yt5.below b_yt5
                  have RG2_yt5 := RG_yt5.below b_yt5
                  have hAk2_yt5 := hAk_yt5.later b_yt5 hAk_yt5.2.2.1
                  have hAo2_yt5 := hAo_yt5.later b_yt5 hAo_yt5.2.2.1
                  have mGk2_yt5 := mGk_yt5.later b_yt5 mGk_yt5.2.2.1
                  have mGo2_yt5 := mGo_yt5.later b_yt5 mGo_yt5.2.2.1
                  have kvyt5 := Tk.kv hK (w := wTD) ⟨R02_yt5.cell 0 rfl, R02_yt5.cell 1 rfl, R02_yt5.cell 2 rfl, R02_yt5.cell 3 rfl, R02_yt5.cell 4 rfl, R02_yt5.cell 5 rfl, R02_yt5.cell 6 rfl, R02_yt5.cell 7 rfl, R02_yt5.cell 8 rfl, T02_yt5.cell 0 rfl, T02_yt5.cell 1 rfl, T02_yt5.cell 2 rfl, T02_yt5.cell 3 rfl, T02_yt5.cell 4 rfl, ⟨BB2_yt5, R02_yt5, T02_yt5, RA2_yt5, RG2_yt5, hAk2_yt5, hAo2_yt5, mGk2_yt5, mGo2_yt5⟩⟩
                  obtain ⟨gHk, cHk, gHo, cHo, rfl, oA, oB, gne⟩ := hTr hq
                  clear hFa hTr
                  have loA := oA.data.2.1
                  have loB := oB.data.2.1
                  have hiA := oA.lt
                  have hiB := oB.lt
                  clear kK kO hT hTa
                  have zz_yt5 := b_yt5.size
                  clear BB_yt5 R0_yt5 T0_yt5 RA_yt5 RG_yt5 hAk_yt5 hAo_yt5 mGk_yt5 mGo_yt5 BB2_yt5 R02_yt5 T02_yt5 RA2_yt5 RG2_yt5 hAk2_yt5 hAo2_yt5 mGk2_yt5 mGo2_yt5
                  try dsimp only
                  refine hK.out _ _ kvyt5 ?_; clear hK K hHeld; intro hHeld; try simp only [Act.put, List.setIfInBounds_toArray, List.set_cons_zero, List.set_cons_succ]
                  refine Tk.W 5 (some 94) (.move (.tmp 99)) 35 none ?_
                  refine Tk.W 6 (some 100) (.extract (.tmp 94) 0) 28 none ?_
                  refine Tk.W 7 (some 101) (.extract (.tmp 94) 1) 4 none ?_
                  refine Tk.R 8 (some 15) (.alloc 28) 0 none (fun K hK => ?_)
                  go_simp
                  have byt9 : Below wTD.heap.size wTD ((wTD.alloc (.cells #[.int .i64 0, .int .i64 0, .int .i64 0, .int .i64 0, .int .i64 0, .int .i64 0, .slice none 0 0, .slice none 0 0, .int .i64 0] 28))) := (Below.refl wTD.heap.size wTD).alloc (Nat.le_refl _) (.cells #[.int .i64 0, .int .i64 0, .int .i64 0, .int .i64 0, .int .i64 0, .int .i64 0, .slice none 0 0, .slice none 0 0, .int .i64 0] 28)
                  have RN : Rm.Room ((wTD.alloc (.cells #[.int .i64 0, .int .i64 0, .int .i64 0, .int .i64 0, .int .i64 0, .int .i64 0, .slice none 0 0, .slice none 0 0, .int .i64 0] 28))) wTD.heap.size [.int .i64 0, .int .i64 0, .int .i64 0, .int .i64 0, .int .i64 0, .int .i64 0, .slice none 0 0, .slice none 0 0, .int .i64 0] := Rm.Room.new wTD [.int .i64 0, .int .i64 0, .int .i64 0, .int .i64 0, .int .i64 0, .int .i64 0, .slice none 0 0, .slice none 0 0, .int .i64 0] 28
                  have ⟨BB_yt9, R0_yt9, T0_yt9, RA_yt9, RG_yt9, hAk_yt9, hAo_yt9, mGk_yt9, mGo_yt9⟩ := hHeld.2.2.2.2.2.2.2.2.2.2.2.2.2.2.out
                  have BB2_yt9 := BB_yt9.trans (byt9.mono BB_yt9.size)
                  have R02_yt9 := R0_yt9.below byt9
                  have T02_yt9 := T0_yt9.below byt9
                  have RA2_yt9 := RA_yt9.below byt9
                  have RG2_yt9 := RG_yt9.below byt9
                  have hAk2_yt9 := hAk_yt9.later byt9 hAk_yt9.2.2.1
                  have hAo2_yt9 := hAo_yt9.later byt9 hAo_yt9.2.2.1
                  have mGk2_yt9 := mGk_yt9.later byt9 mGk_yt9.2.2.1
                  have mGo2_yt9 := mGo_yt9.later byt9 mGo_yt9.2.2.1
                  have kvyt9 := Tk.kv hK (w := ((wTD.alloc (.cells #[.int .i64 0, .int .i64 0, .int .i64 0, .int .i64 0, .int .i64 0, .int .i64 0, .slice none 0 0, .slice none 0 0, .int .i64 0] 28)))) ⟨R02_yt9.cell 0 rfl, R02_yt9.cell 1 rfl, R02_yt9.cell 2 rfl, R02_yt9.cell 3 rfl, R02_yt9.cell 4 rfl, R02_yt9.cell 5 rfl, R02_yt9.cell 6 rfl, R02_yt9.cell 7 rfl, R02_yt9.cell 8 rfl, T02_yt9.cell 0 rfl, T02_yt9.cell 1 rfl, T02_yt9.cell 2 rfl, T02_yt9.cell 3 rfl, T02_yt9.cell 4 rfl, ⟨BB2_yt9, R02_yt9, T02_yt9, RA2_yt9, RG2_yt9, hAk2_yt9, hAo2_yt9, mGk2_yt9, mGo2_yt9⟩⟩
                  replace oA := oA.later byt9 oA.lt
                  replace oB := oB.later byt9 oB.lt
                  have zn := byt9.size
                  clear byt9
                  clear BB_yt9 R0_yt9 T0_yt9 RA_yt9 RG_yt9 hAk_yt9 hAo_yt9 mGk_yt9 mGo_yt9 BB2_yt9 R02_yt9 T02_yt9 RA2_yt9 RG2_yt9 hAk2_yt9 hAo2_yt9 mGk2_yt9 mGo2_yt9
                  obtain ⟨XH, hX⟩ : ∃ x, x = wTD.heap.size := ⟨_, rfl⟩
                  rw [← hX] at RN ⊢
                  have hX1 : XH ≤ wTD.heap.size := Nat.le_of_eq hX
                  have hX2 : wTD.heap.size ≤ XH := Nat.le_of_eq hX.symm
                  clear hX
                  have lX : XH < ((wTD.alloc (.cells #[.int .i64 0, .int .i64 0, .int .i64 0, .int .i64 0, .int .i64 0, .int .i64 0, .slice none 0 0, .slice none 0 0, .int .i64 0] 28))).heap.size := RN.lt (by simp)
                  generalize (wTD.alloc (.cells #[.int .i64 0, .int .i64 0, .int .i64 0, .int .i64 0, .int .i64 0, .int .i64 0, .slice none 0 0, .slice none 0 0, .int .i64 0] 28)) = wX at kvyt9 RN oA oB lX zn ⊢
                  try dsimp only
                  refine hK.out _ _ kvyt9 ?_; clear hK K hHeld; intro hHeld; try simp only [Act.put, List.setIfInBounds_toArray, List.set_cons_zero, List.set_cons_succ]
                  refine Tk.R 9 none (.store 28 (.tmp 15) (.tmp 100)) 0 none (fun K hK => ?_)
                  have zB := hHeld.2.2.2.2.2.2.2.2.2.2.2.2.2.2.out.1.size
                  have d0 := RN.cell 0 rfl
                  have d1 := RN.cell 1 rfl
                  have d2 := RN.cell 2 rfl
                  have d3 := RN.cell 3 rfl
                  have d4 := RN.cell 4 rfl
                  have d5 := RN.cell 5 rfl
                  have d6 := RN.cell 6 rfl
                  have d7 := RN.cell 7 rfl
                  have d8 := RN.cell 8 rfl
                  have f0 := RN.froz 0 rfl
                  have f1 := RN.froz 1 rfl
                  have f2 := RN.froz 2 rfl
                  have f3 := RN.froz 3 rfl
                  have f4 := RN.froz 4 rfl
                  have f5 := RN.froz 5 rfl
                  have f6 := RN.froz 6 rfl
                  have f7 := RN.froz 7 rfl
                  have f8 := RN.froz 8 rfl
                  go_simp
                  clear d0 f0 d1 f1 d2 f2 d3 f3 d4 f4 d5 f5 d6 f6 d7 f7 d8 f8
                  have bX := Tu.below_over9 (Below.refl XH wX) (g := XH) (Nat.le_refl _) (.int .i64 n) (.int .i64 l) (.int .i64 d) (.int .i64 r) (.int .i64 p) (.int .i64 s) (.slice (some ⟨gHk, 0, none⟩) k cHk) (.slice (some ⟨gHo, 0, none⟩) m cHo) (.int .i64 (Tu.RU n l d r p s ks k os m t ds es ls fs rs nF nR))
                  have ⟨BB_yt10, R0_yt10, T0_yt10, RA_yt10, RG_yt10, hAk_yt10, hAo_yt10, mGk_yt10, mGo_yt10⟩ := hHeld.2.2.2.2.2.2.2.2.2.2.2.2.2.2.out
                  have BB2_yt10 := Tu.below_over9 BB_yt10 (g := XH) (by omega) (.int .i64 n) (.int .i64 l) (.int .i64 d) (.int .i64 r) (.int .i64 p) (.int .i64 s) (.slice (some ⟨gHk, 0, none⟩) k cHk) (.slice (some ⟨gHo, 0, none⟩) m cHo) (.int .i64 (Tu.RU n l d r p s ks k os m t ds es ls fs rs nF nR))
                  have R02_yt10 := R0_yt10.block (bX.block _ (by omega))
                  have T02_yt10 := T0_yt10.block (bX.block _ (by omega))
                  have RA2_yt10 := RA_yt10.block (bX.block _ (by omega))
                  have RG2_yt10 := RG_yt10.block (bX.block _ (by omega))
                  have hAk2_yt10 := hAk_yt10.later bX (by omega)
                  have hAo2_yt10 := hAo_yt10.later bX (by omega)
                  have mGk2_yt10 := mGk_yt10.later bX (by omega)
                  have mGo2_yt10 := mGo_yt10.later bX (by omega)
                  have kvyt10 := Tk.kv hK (w := _) ⟨R02_yt10.cell 0 rfl, R02_yt10.cell 1 rfl, R02_yt10.cell 2 rfl, R02_yt10.cell 3 rfl, R02_yt10.cell 4 rfl, R02_yt10.cell 5 rfl, R02_yt10.cell 6 rfl, R02_yt10.cell 7 rfl, R02_yt10.cell 8 rfl, T02_yt10.cell 0 rfl, T02_yt10.cell 1 rfl, T02_yt10.cell 2 rfl, T02_yt10.cell 3 rfl, T02_yt10.cell 4 rfl, ⟨BB2_yt10, R02_yt10, T02_yt10, RA2_yt10, RG2_yt10, hAk2_yt10, hAo2_yt10, mGk2_yt10, mGo2_yt10⟩⟩
                  replace RN := Rm.over9 RN (.int .i64 n) (.int .i64 l) (.int .i64 d) (.int .i64 r) (.int .i64 p) (.int .i64 s) (.slice (some ⟨gHk, 0, none⟩) k cHk) (.slice (some ⟨gHo, 0, none⟩) m cHo) (.int .i64 (Tu.RU n l d r p s ks k os m t ds es ls fs rs nF nR))
                  replace oA := Tu.own_over9 oA (g := XH) (by omega) (.int .i64 n) (.int .i64 l) (.int .i64 d) (.int .i64 r) (.int .i64 p) (.int .i64 s) (.slice (some ⟨gHk, 0, none⟩) k cHk) (.slice (some ⟨gHo, 0, none⟩) m cHo) (.int .i64 (Tu.RU n l d r p s ks k os m t ds es ls fs rs nF nR))
                  replace oB := Tu.own_over9 oB (g := XH) (by omega) (.int .i64 n) (.int .i64 l) (.int .i64 d) (.int .i64 r) (.int .i64 p) (.int .i64 s) (.slice (some ⟨gHk, 0, none⟩) k cHk) (.slice (some ⟨gHo, 0, none⟩) m cHo) (.int .i64 (Tu.RU n l d r p s ks k os m t ds es ls fs rs nF nR))
                  clear bX BB_yt10 R0_yt10 T0_yt10 RA_yt10 RG_yt10 hAk_yt10 hAo_yt10 mGk_yt10 mGo_yt10 BB2_yt10 R02_yt10 T02_yt10 RA2_yt10 RG2_yt10 hAk2_yt10 hAo2_yt10 mGk2_yt10 mGo2_yt10
                  try dsimp only
                  refine hK.out _ _ kvyt10 ?_; clear hK K hHeld; intro hHeld; try simp only [Act.put, List.setIfInBounds_toArray, List.set_cons_zero, List.set_cons_succ]
                  refine Tk.W 10 (some 16) (.assign (.tmp 101)) 4 none ?_
                  refine wpAnyH_done (by kernel_rfl) ?_ _
                  refine NoPanic.normal ?_
                  have qq := hHeld.2.2.2.2.2.2.2.2.2.2.2.2.2.2.out
                  clear hHeld
                  go_wp2_with fail
                  go_meet
                  case rel => exact ⟨XH, gHk, cHk, gHo, cHo, rfl, rfl, ⟨qq.1, qq.2.1, qq.2.2.1, qq.2.2.2.1, qq.2.2.2.2.1, qq.2.2.2.2.2.1, qq.2.2.2.2.2.2.1, qq.2.2.2.2.2.2.2.1, qq.2.2.2.2.2.2.2.2, RN, ⟨oA.has.1, Nat.zero_le _, oA.has.2.2⟩, ⟨oB.has.1, Nat.zero_le _, oB.has.2.2⟩, gne, by omega, by omega, by omega, by omega, by omega⟩⟩
                · go_simp
                  have byt12 : Below wTT.heap.size wTT ((wTT.alloc (.cells #[.int .i64 0, .int .i64 0, .int .i64 0, .int .i64 0, .int .i64 0, .int .i64 0, .slice none 0 0, .slice none 0 0, .int .i64 0] 28))) := (Below.refl wTT.heap.size wTT).alloc (Nat.le_refl _) (.cells #[.int .i64 0, .int .i64 0, .int .i64 0, .int .i64 0, .int .i64 0, .int .i64 0, .slice none 0 0, .slice none 0 0, .int .i64 0] 28)
                  have RN : Rm.Room ((wTT.alloc (.cells #[.int .i64 0, .int .i64 0, .int .i64 0, .int .i64 0, .int .i64 0, .int .i64 0, .slice none 0 0, .slice none 0 0, .int .i64 0] 28))) wTT.heap.size [.int .i64 0, .int .i64 0, .int .i64 0, .int .i64 0, .int .i64 0, .int .i64 0, .slice none 0 0, .slice none 0 0, .int .i64 0] := Rm.Room.new wTT [.int .i64 0, .int .i64 0, .int .i64 0, .int .i64 0, .int .i64 0, .int .i64 0, .slice none 0 0, .slice none 0 0, .int .i64 0] 28
                  have ⟨BB_yt12, R0_yt12, T0_yt12, RA_yt12, RG_yt12, hAk_yt12, hAo_yt12, mGk_yt12, mGo_yt12⟩ := hHeld.2.2.2.2.2.2.2.2.2.2.2.2.2.2.out
                  have BB2_yt12 := BB_yt12.trans (byt12.mono BB_yt12.size)
                  have R02_yt12 := R0_yt12.below byt12
                  have T02_yt12 := T0_yt12.below byt12
                  have RA2_yt12 := RA_yt12.below byt12
                  have RG2_yt12 := RG_yt12.below byt12
                  have hAk2_yt12 := hAk_yt12.later byt12 hAk_yt12.2.2.1
                  have hAo2_yt12 := hAo_yt12.later byt12 hAo_yt12.2.2.1
                  have mGk2_yt12 := mGk_yt12.later byt12 mGk_yt12.2.2.1
                  have mGo2_yt12 := mGo_yt12.later byt12 mGo_yt12.2.2.1
                  have kvyt12 := Tk.kv hK (w := ((wTT.alloc (.cells #[.int .i64 0, .int .i64 0, .int .i64 0, .int .i64 0, .int .i64 0, .int .i64 0, .slice none 0 0, .slice none 0 0, .int .i64 0] 28)))) ⟨R02_yt12.cell 0 rfl, R02_yt12.cell 1 rfl, R02_yt12.cell 2 rfl, R02_yt12.cell 3 rfl, R02_yt12.cell 4 rfl, R02_yt12.cell 5 rfl, R02_yt12.cell 6 rfl, R02_yt12.cell 7 rfl, R02_yt12.cell 8 rfl, T02_yt12.cell 0 rfl, T02_yt12.cell 1 rfl, T02_yt12.cell 2 rfl, T02_yt12.cell 3 rfl, T02_yt12.cell 4 rfl, ⟨BB2_yt12, R02_yt12, T02_yt12, RA2_yt12, RG2_yt12, hAk2_yt12, hAo2_yt12, mGk2_yt12, mGo2_yt12⟩⟩
                  replace kK := kK.later byt12 kK.2.2.1
                  replace kO := kO.later byt12 kO.2.2.1
                  replace hT := hT.later byt12
                  clear hTa
                  have zn := byt12.size
                  clear byt12
                  clear BB_yt12 R0_yt12 T0_yt12 RA_yt12 RG_yt12 hAk_yt12 hAo_yt12 mGk_yt12 mGo_yt12 BB2_yt12 R02_yt12 T02_yt12 RA2_yt12 RG2_yt12 hAk2_yt12 hAo2_yt12 mGk2_yt12 mGo2_yt12
                  obtain ⟨XH, hX⟩ : ∃ x, x = wTT.heap.size := ⟨_, rfl⟩
                  rw [← hX] at RN ⊢
                  have hX1 : XH ≤ wTT.heap.size := Nat.le_of_eq hX
                  have hX2 : wTT.heap.size ≤ XH := Nat.le_of_eq hX.symm
                  clear hX
                  have lX : XH < ((wTT.alloc (.cells #[.int .i64 0, .int .i64 0, .int .i64 0, .int .i64 0, .int .i64 0, .int .i64 0, .slice none 0 0, .slice none 0 0, .int .i64 0] 28))).heap.size := RN.lt (by simp)
                  generalize (wTT.alloc (.cells #[.int .i64 0, .int .i64 0, .int .i64 0, .int .i64 0, .int .i64 0, .int .i64 0, .slice none 0 0, .slice none 0 0, .int .i64 0] 28)) = wX at kvyt12 RN kK kO hT lX zn ⊢
                  have hTa := hT.all
                  try dsimp only
                  refine hK.out _ _ kvyt12 ?_; clear hK K hHeld; intro hHeld; try simp only [Act.put, List.setIfInBounds_toArray, List.set_cons_zero, List.set_cons_succ]
                  refine Tk.R 4 (some 99) (.call ⟨.value (.func 7), #[.tmp 96, .tmp 98], #[28, 32]⟩) 35 none (fun K hK => ?_)
                  go_simp
                  refine (Tu.i_Turned n l d r p s t _ 0 k k _ m m _ _ _ _ _ nD nD nE nE nL nL nF nF nR nR ks os ds es ls fs rs _ kK.1 kK.2.2.2.1 kK.2.2.1 kO.row hTa.1 hTa.2.1 hTa.2.2.1 hTa.2.2.2.1 hTa.2.2.2.2 hk hm hnF hnR hnD hnE hnL htE htL).mono ?_
                  rintro e wTD ⟨⟨hFa, hTr⟩, b_yt13⟩
                  have ⟨BB_yt13, R0_yt13, T0_yt13, RA_yt13, RG_yt13, hAk_yt13, hAo_yt13, mGk_yt13, mGo_yt13⟩ := hHeld.2.2.2.2.2.2.2.2.2.2.2.2.2.2.out
                  have BB2_yt13 := BB_yt13.trans (b_yt13.mono BB_yt13.size)
                  have R02_yt13 := R0_yt13.below b_yt13
                  have T02_yt13 := T0_yt13.below b_yt13
                  have RA2_yt13 := RA_yt13.below b_yt13
                  have RG2_yt13 := RG_yt13.below b_yt13
                  have hAk2_yt13 := hAk_yt13.later b_yt13 hAk_yt13.2.2.1
                  have hAo2_yt13 := hAo_yt13.later b_yt13 hAo_yt13.2.2.1
                  have mGk2_yt13 := mGk_yt13.later b_yt13 mGk_yt13.2.2.1
                  have mGo2_yt13 := mGo_yt13.later b_yt13 mGo_yt13.2.2.1
                  have kvyt13 := Tk.kv hK (w := wTD) ⟨R02_yt13.cell 0 rfl, R02_yt13.cell 1 rfl, R02_yt13.cell 2 rfl, R02_yt13.cell 3 rfl, R02_yt13.cell 4 rfl, R02_yt13.cell 5 rfl, R02_yt13.cell 6 rfl, R02_yt13.cell 7 rfl, R02_yt13.cell 8 rfl, T02_yt13.cell 0 rfl, T02_yt13.cell 1 rfl, T02_yt13.cell 2 rfl, T02_yt13.cell 3 rfl, T02_yt13.cell 4 rfl, ⟨BB2_yt13, R02_yt13, T02_yt13, RA2_yt13, RG2_yt13, hAk2_yt13, hAo2_yt13, mGk2_yt13, mGo2_yt13⟩⟩
                  obtain ⟨gHk, cHk, gHo, cHo, rfl, oA, oB, gne⟩ := hTr hq
                  clear hFa hTr
                  have loA := oA.data.2.1
                  have loB := oB.data.2.1
                  have hiA := oA.lt
                  have hiB := oB.lt
                  replace RN := RN.below b_yt13
                  clear kK kO hT hTa
                  have zz_yt13 := b_yt13.size
                  clear BB_yt13 R0_yt13 T0_yt13 RA_yt13 RG_yt13 hAk_yt13 hAo_yt13 mGk_yt13 mGo_yt13 BB2_yt13 R02_yt13 T02_yt13 RA2_yt13 RG2_yt13 hAk2_yt13 hAo2_yt13 mGk2_yt13 mGo2_yt13
                  try dsimp only
                  refine hK.out _ _ kvyt13 ?_; clear hK K hHeld; intro hHeld; try simp only [Act.put, List.setIfInBounds_toArray, List.set_cons_zero, List.set_cons_succ]
                  refine Tk.W 5 (some 94) (.move (.tmp 99)) 35 none ?_
                  refine Tk.W 6 (some 100) (.extract (.tmp 94) 0) 28 none ?_
                  refine Tk.W 7 (some 101) (.extract (.tmp 94) 1) 4 none ?_
                  refine Tk.R 9 none (.store 28 (.tmp 15) (.tmp 100)) 0 none (fun K hK => ?_)
                  have zB := hHeld.2.2.2.2.2.2.2.2.2.2.2.2.2.2.out.1.size
                  have d0 := RN.cell 0 rfl
                  have d1 := RN.cell 1 rfl
                  have d2 := RN.cell 2 rfl
                  have d3 := RN.cell 3 rfl
                  have d4 := RN.cell 4 rfl
                  have d5 := RN.cell 5 rfl
                  have d6 := RN.cell 6 rfl
                  have d7 := RN.cell 7 rfl
                  have d8 := RN.cell 8 rfl
                  have f0 := RN.froz 0 rfl
                  have f1 := RN.froz 1 rfl
                  have f2 := RN.froz 2 rfl
                  have f3 := RN.froz 3 rfl
                  have f4 := RN.froz 4 rfl
                  have f5 := RN.froz 5 rfl
                  have f6 := RN.froz 6 rfl
                  have f7 := RN.froz 7 rfl
                  have f8 := RN.froz 8 rfl
                  go_simp
                  clear d0 f0 d1 f1 d2 f2 d3 f3 d4 f4 d5 f5 d6 f6 d7 f7 d8 f8
                  have bX := Tu.below_over9 (Below.refl XH wTD) (g := XH) (Nat.le_refl _) (.int .i64 n) (.int .i64 l) (.int .i64 d) (.int .i64 r) (.int .i64 p) (.int .i64 s) (.slice (some ⟨gHk, 0, none⟩) k cHk) (.slice (some ⟨gHo, 0, none⟩) m cHo) (.int .i64 (Tu.RU n l d r p s ks k os m t ds es ls fs rs nF nR))
                  have ⟨BB_yt17, R0_yt17, T0_yt17, RA_yt17, RG_yt17, hAk_yt17, hAo_yt17, mGk_yt17, mGo_yt17⟩ := hHeld.2.2.2.2.2.2.2.2.2.2.2.2.2.2.out
                  have BB2_yt17 := Tu.below_over9 BB_yt17 (g := XH) (by omega) (.int .i64 n) (.int .i64 l) (.int .i64 d) (.int .i64 r) (.int .i64 p) (.int .i64 s) (.slice (some ⟨gHk, 0, none⟩) k cHk) (.slice (some ⟨gHo, 0, none⟩) m cHo) (.int .i64 (Tu.RU n l d r p s ks k os m t ds es ls fs rs nF nR))
                  have R02_yt17 := R0_yt17.block (bX.block _ (by omega))
                  have T02_yt17 := T0_yt17.block (bX.block _ (by omega))
                  have RA2_yt17 := RA_yt17.block (bX.block _ (by omega))
                  have RG2_yt17 := RG_yt17.block (bX.block _ (by omega))
                  have hAk2_yt17 := hAk_yt17.later bX (by omega)
                  have hAo2_yt17 := hAo_yt17.later bX (by omega)
                  have mGk2_yt17 := mGk_yt17.later bX (by omega)
                  have mGo2_yt17 := mGo_yt17.later bX (by omega)
                  have kvyt17 := Tk.kv hK (w := _) ⟨R02_yt17.cell 0 rfl, R02_yt17.cell 1 rfl, R02_yt17.cell 2 rfl, R02_yt17.cell 3 rfl, R02_yt17.cell 4 rfl, R02_yt17.cell 5 rfl, R02_yt17.cell 6 rfl, R02_yt17.cell 7 rfl, R02_yt17.cell 8 rfl, T02_yt17.cell 0 rfl, T02_yt17.cell 1 rfl, T02_yt17.cell 2 rfl, T02_yt17.cell 3 rfl, T02_yt17.cell 4 rfl, ⟨BB2_yt17, R02_yt17, T02_yt17, RA2_yt17, RG2_yt17, hAk2_yt17, hAo2_yt17, mGk2_yt17, mGo2_yt17⟩⟩
                  replace RN := Rm.over9 RN (.int .i64 n) (.int .i64 l) (.int .i64 d) (.int .i64 r) (.int .i64 p) (.int .i64 s) (.slice (some ⟨gHk, 0, none⟩) k cHk) (.slice (some ⟨gHo, 0, none⟩) m cHo) (.int .i64 (Tu.RU n l d r p s ks k os m t ds es ls fs rs nF nR))
                  replace oA := Tu.own_over9 oA (g := XH) (by omega) (.int .i64 n) (.int .i64 l) (.int .i64 d) (.int .i64 r) (.int .i64 p) (.int .i64 s) (.slice (some ⟨gHk, 0, none⟩) k cHk) (.slice (some ⟨gHo, 0, none⟩) m cHo) (.int .i64 (Tu.RU n l d r p s ks k os m t ds es ls fs rs nF nR))
                  replace oB := Tu.own_over9 oB (g := XH) (by omega) (.int .i64 n) (.int .i64 l) (.int .i64 d) (.int .i64 r) (.int .i64 p) (.int .i64 s) (.slice (some ⟨gHk, 0, none⟩) k cHk) (.slice (some ⟨gHo, 0, none⟩) m cHo) (.int .i64 (Tu.RU n l d r p s ks k os m t ds es ls fs rs nF nR))
                  clear bX BB_yt17 R0_yt17 T0_yt17 RA_yt17 RG_yt17 hAk_yt17 hAo_yt17 mGk_yt17 mGo_yt17 BB2_yt17 R02_yt17 T02_yt17 RA2_yt17 RG2_yt17 hAk2_yt17 hAo2_yt17 mGk2_yt17 mGo2_yt17
                  try dsimp only
                  refine hK.out _ _ kvyt17 ?_; clear hK K hHeld; intro hHeld; try simp only [Act.put, List.setIfInBounds_toArray, List.set_cons_zero, List.set_cons_succ]
                  refine Tk.W 10 (some 16) (.assign (.tmp 101)) 4 none ?_
                  refine wpAnyH_done (by kernel_rfl) ?_ _
                  refine NoPanic.normal ?_
                  have qq := hHeld.2.2.2.2.2.2.2.2.2.2.2.2.2.2.out
                  clear hHeld
                  go_wp2_with fail
                  go_meet
                  case rel => exact ⟨XH, gHk, cHk, gHo, cHo, rfl, rfl, ⟨qq.1, qq.2.1, qq.2.2.1, qq.2.2.2.1, qq.2.2.2.2.1, qq.2.2.2.2.2.1, qq.2.2.2.2.2.2.1, qq.2.2.2.2.2.2.2.1, qq.2.2.2.2.2.2.2.2, RN, ⟨oA.has.1, Nat.zero_le _, oA.has.2.2⟩, ⟨oB.has.1, Nat.zero_le _, oB.has.2.2⟩, gne, by omega, by omega, by omega, by omega, by omega⟩⟩
              · go_simp
                have byt19 : Below wTW.heap.size wTW ((wTW.alloc (.cells #[.int .i64 0, .int .i64 0, .int .i64 0, .int .i64 0, .int .i64 0, .int .i64 0, .slice none 0 0, .slice none 0 0, .int .i64 0] 28))) := (Below.refl wTW.heap.size wTW).alloc (Nat.le_refl _) (.cells #[.int .i64 0, .int .i64 0, .int .i64 0, .int .i64 0, .int .i64 0, .int .i64 0, .slice none 0 0, .slice none 0 0, .int .i64 0] 28)
                have RN : Rm.Room ((wTW.alloc (.cells #[.int .i64 0, .int .i64 0, .int .i64 0, .int .i64 0, .int .i64 0, .int .i64 0, .slice none 0 0, .slice none 0 0, .int .i64 0] 28))) wTW.heap.size [.int .i64 0, .int .i64 0, .int .i64 0, .int .i64 0, .int .i64 0, .int .i64 0, .slice none 0 0, .slice none 0 0, .int .i64 0] := Rm.Room.new wTW [.int .i64 0, .int .i64 0, .int .i64 0, .int .i64 0, .int .i64 0, .int .i64 0, .slice none 0 0, .slice none 0 0, .int .i64 0] 28
                have ⟨BB_yt19, R0_yt19, T0_yt19, RA_yt19, RG_yt19, hAk_yt19, hAo_yt19, mGk_yt19, mGo_yt19⟩ := hHeld.2.2.2.2.2.2.2.2.2.2.2.2.2.2.out
                have BB2_yt19 := BB_yt19.trans (byt19.mono BB_yt19.size)
                have R02_yt19 := R0_yt19.below byt19
                have T02_yt19 := T0_yt19.below byt19
                have RA2_yt19 := RA_yt19.below byt19
                have RG2_yt19 := RG_yt19.below byt19
                have hAk2_yt19 := hAk_yt19.later byt19 hAk_yt19.2.2.1
                have hAo2_yt19 := hAo_yt19.later byt19 hAo_yt19.2.2.1
                have mGk2_yt19 := mGk_yt19.later byt19 mGk_yt19.2.2.1
                have mGo2_yt19 := mGo_yt19.later byt19 mGo_yt19.2.2.1
                have kvyt19 := Tk.kv hK (w := ((wTW.alloc (.cells #[.int .i64 0, .int .i64 0, .int .i64 0, .int .i64 0, .int .i64 0, .int .i64 0, .slice none 0 0, .slice none 0 0, .int .i64 0] 28)))) ⟨R02_yt19.cell 0 rfl, R02_yt19.cell 1 rfl, R02_yt19.cell 2 rfl, R02_yt19.cell 3 rfl, R02_yt19.cell 4 rfl, R02_yt19.cell 5 rfl, R02_yt19.cell 6 rfl, R02_yt19.cell 7 rfl, R02_yt19.cell 8 rfl, T02_yt19.cell 0 rfl, T02_yt19.cell 1 rfl, T02_yt19.cell 2 rfl, T02_yt19.cell 3 rfl, T02_yt19.cell 4 rfl, ⟨BB2_yt19, R02_yt19, T02_yt19, RA2_yt19, RG2_yt19, hAk2_yt19, hAo2_yt19, mGk2_yt19, mGo2_yt19⟩⟩
                replace kK := kK.later byt19 kK.2.2.1
                replace kO := kO.later byt19 kO.2.2.1
                have zn := byt19.size
                clear byt19
                clear BB_yt19 R0_yt19 T0_yt19 RA_yt19 RG_yt19 hAk_yt19 hAo_yt19 mGk_yt19 mGo_yt19 BB2_yt19 R02_yt19 T02_yt19 RA2_yt19 RG2_yt19 hAk2_yt19 hAo2_yt19 mGk2_yt19 mGo2_yt19
                obtain ⟨XH, hX⟩ : ∃ x, x = wTW.heap.size := ⟨_, rfl⟩
                rw [← hX] at RN ⊢
                have hX1 : XH ≤ wTW.heap.size := Nat.le_of_eq hX
                have hX2 : wTW.heap.size ≤ XH := Nat.le_of_eq hX.symm
                clear hX
                have lX : XH < ((wTW.alloc (.cells #[.int .i64 0, .int .i64 0, .int .i64 0, .int .i64 0, .int .i64 0, .int .i64 0, .slice none 0 0, .slice none 0 0, .int .i64 0] 28))).heap.size := RN.lt (by simp)
                generalize (wTW.alloc (.cells #[.int .i64 0, .int .i64 0, .int .i64 0, .int .i64 0, .int .i64 0, .int .i64 0, .slice none 0 0, .slice none 0 0, .int .i64 0] 28)) = wX at kvyt19 RN kK kO lX zn ⊢
                try dsimp only
                refine hK.out _ _ kvyt19 ?_; clear hK K hHeld; intro hHeld; try simp only [Act.put, List.setIfInBounds_toArray, List.set_cons_zero, List.set_cons_succ]
                refine Tk.R 3 (some 98) (.call ⟨.value (.func 19), #[.tmp 97], #[48]⟩) 32 none (fun K hK => ?_)
                go_simp
                refine (Tu.toTurn aD aE aL aF aR nD cD nE cE nL cL nF cF nR cR ds es ls fs rs _ ((rD.later hHeld.2.2.2.2.2.2.2.2.2.2.2.2.2.2.out.1 (Nat.le_refl _)).more hHeld.2.2.2.2.2.2.2.2.2.2.2.2.2.2.out.1.size) ((rE.later hHeld.2.2.2.2.2.2.2.2.2.2.2.2.2.2.out.1 (Nat.le_refl _)).more hHeld.2.2.2.2.2.2.2.2.2.2.2.2.2.2.out.1.size) ((rL.later hHeld.2.2.2.2.2.2.2.2.2.2.2.2.2.2.out.1 (Nat.le_refl _)).more hHeld.2.2.2.2.2.2.2.2.2.2.2.2.2.2.out.1.size) ((rF.later hHeld.2.2.2.2.2.2.2.2.2.2.2.2.2.2.out.1 (Nat.le_refl _)).more hHeld.2.2.2.2.2.2.2.2.2.2.2.2.2.2.out.1.size) ((rR.later hHeld.2.2.2.2.2.2.2.2.2.2.2.2.2.2.out.1 (Nat.le_refl _)).more hHeld.2.2.2.2.2.2.2.2.2.2.2.2.2.2.out.1.size) hz).mono ?_
                rintro e wTT ⟨⟨g0, g1, g2, g3, g4, rfl, hT⟩, b_yt20⟩
                have ⟨BB_yt20, R0_yt20, T0_yt20, RA_yt20, RG_yt20, hAk_yt20, hAo_yt20, mGk_yt20, mGo_yt20⟩ := hHeld.2.2.2.2.2.2.2.2.2.2.2.2.2.2.out
                have BB2_yt20 := BB_yt20.trans (b_yt20.mono BB_yt20.size)
                have R02_yt20 := R0_yt20.below b_yt20
                have T02_yt20 := T0_yt20.below b_yt20
                have RA2_yt20 := RA_yt20.below b_yt20
                have RG2_yt20 := RG_yt20.below b_yt20
                have hAk2_yt20 := hAk_yt20.later b_yt20 hAk_yt20.2.2.1
                have hAo2_yt20 := hAo_yt20.later b_yt20 hAo_yt20.2.2.1
                have mGk2_yt20 := mGk_yt20.later b_yt20 mGk_yt20.2.2.1
                have mGo2_yt20 := mGo_yt20.later b_yt20 mGo_yt20.2.2.1
                have kvyt20 := Tk.kv hK (w := wTT) ⟨R02_yt20.cell 0 rfl, R02_yt20.cell 1 rfl, R02_yt20.cell 2 rfl, R02_yt20.cell 3 rfl, R02_yt20.cell 4 rfl, R02_yt20.cell 5 rfl, R02_yt20.cell 6 rfl, R02_yt20.cell 7 rfl, R02_yt20.cell 8 rfl, T02_yt20.cell 0 rfl, T02_yt20.cell 1 rfl, T02_yt20.cell 2 rfl, T02_yt20.cell 3 rfl, T02_yt20.cell 4 rfl, ⟨BB2_yt20, R02_yt20, T02_yt20, RA2_yt20, RG2_yt20, hAk2_yt20, hAo2_yt20, mGk2_yt20, mGo2_yt20⟩⟩
                replace RN := RN.below b_yt20
                replace kK := kK.later b_yt20 kK.2.2.1
                replace kO := kO.later b_yt20 kO.2.2.1
                have hTa := hT.all
                have zz_yt20 := b_yt20.size
                clear BB_yt20 R0_yt20 T0_yt20 RA_yt20 RG_yt20 hAk_yt20 hAo_yt20 mGk_yt20 mGo_yt20 BB2_yt20 R02_yt20 T02_yt20 RA2_yt20 RG2_yt20 hAk2_yt20 hAo2_yt20 mGk2_yt20 mGo2_yt20
                try dsimp only
                refine hK.out _ _ kvyt20 ?_; clear hK K hHeld; intro hHeld; try simp only [Act.put, List.setIfInBounds_toArray, List.set_cons_zero, List.set_cons_succ]
                refine Tk.R 4 (some 99) (.call ⟨.value (.func 7), #[.tmp 96, .tmp 98], #[28, 32]⟩) 35 none (fun K hK => ?_)
                go_simp
                refine (Tu.i_Turned n l d r p s t _ 0 k k _ m m _ _ _ _ _ nD nD nE nE nL nL nF nF nR nR ks os ds es ls fs rs _ kK.1 kK.2.2.2.1 kK.2.2.1 kO.row hTa.1 hTa.2.1 hTa.2.2.1 hTa.2.2.2.1 hTa.2.2.2.2 hk hm hnF hnR hnD hnE hnL htE htL).mono ?_
                rintro e wTD ⟨⟨hFa, hTr⟩, b_yt21⟩
                have ⟨BB_yt21, R0_yt21, T0_yt21, RA_yt21, RG_yt21, hAk_yt21, hAo_yt21, mGk_yt21, mGo_yt21⟩ := hHeld.2.2.2.2.2.2.2.2.2.2.2.2.2.2.out
                have BB2_yt21 := BB_yt21.trans (b_yt21.mono BB_yt21.size)
                have R02_yt21 := R0_yt21.below b_yt21
                have T02_yt21 := T0_yt21.below b_yt21
                have RA2_yt21 := RA_yt21.below b_yt21
                have RG2_yt21 := RG_yt21.below b_yt21
                have hAk2_yt21 := hAk_yt21.later b_yt21 hAk_yt21.2.2.1
                have hAo2_yt21 := hAo_yt21.later b_yt21 hAo_yt21.2.2.1
                have mGk2_yt21 := mGk_yt21.later b_yt21 mGk_yt21.2.2.1
                have mGo2_yt21 := mGo_yt21.later b_yt21 mGo_yt21.2.2.1
                have kvyt21 := Tk.kv hK (w := wTD) ⟨R02_yt21.cell 0 rfl, R02_yt21.cell 1 rfl, R02_yt21.cell 2 rfl, R02_yt21.cell 3 rfl, R02_yt21.cell 4 rfl, R02_yt21.cell 5 rfl, R02_yt21.cell 6 rfl, R02_yt21.cell 7 rfl, R02_yt21.cell 8 rfl, T02_yt21.cell 0 rfl, T02_yt21.cell 1 rfl, T02_yt21.cell 2 rfl, T02_yt21.cell 3 rfl, T02_yt21.cell 4 rfl, ⟨BB2_yt21, R02_yt21, T02_yt21, RA2_yt21, RG2_yt21, hAk2_yt21, hAo2_yt21, mGk2_yt21, mGo2_yt21⟩⟩
                obtain ⟨gHk, cHk, gHo, cHo, rfl, oA, oB, gne⟩ := hTr hq
                clear hFa hTr
                have loA := oA.data.2.1
                have loB := oB.data.2.1
                have hiA := oA.lt
                have hiB := oB.lt
                replace RN := RN.below b_yt21
                clear kK kO hT hTa
                have zz_yt21 := b_yt21.size
                clear BB_yt21 R0_yt21 T0_yt21 RA_yt21 RG_yt21 hAk_yt21 hAo_yt21 mGk_yt21 mGo_yt21 BB2_yt21 R02_yt21 T02_yt21 RA2_yt21 RG2_yt21 hAk2_yt21 hAo2_yt21 mGk2_yt21 mGo2_yt21
                try dsimp only
                refine hK.out _ _ kvyt21 ?_; clear hK K hHeld; intro hHeld; try simp only [Act.put, List.setIfInBounds_toArray, List.set_cons_zero, List.set_cons_succ]
                refine Tk.W 5 (some 94) (.move (.tmp 99)) 35 none ?_
                refine Tk.W 6 (some 100) (.extract (.tmp 94) 0) 28 none ?_
                refine Tk.W 7 (some 101) (.extract (.tmp 94) 1) 4 none ?_
                refine Tk.R 9 none (.store 28 (.tmp 15) (.tmp 100)) 0 none (fun K hK => ?_)
                have zB := hHeld.2.2.2.2.2.2.2.2.2.2.2.2.2.2.out.1.size
                have d0 := RN.cell 0 rfl
                have d1 := RN.cell 1 rfl
                have d2 := RN.cell 2 rfl
                have d3 := RN.cell 3 rfl
                have d4 := RN.cell 4 rfl
                have d5 := RN.cell 5 rfl
                have d6 := RN.cell 6 rfl
                have d7 := RN.cell 7 rfl
                have d8 := RN.cell 8 rfl
                have f0 := RN.froz 0 rfl
                have f1 := RN.froz 1 rfl
                have f2 := RN.froz 2 rfl
                have f3 := RN.froz 3 rfl
                have f4 := RN.froz 4 rfl
                have f5 := RN.froz 5 rfl
                have f6 := RN.froz 6 rfl
                have f7 := RN.froz 7 rfl
                have f8 := RN.froz 8 rfl
                go_simp
                clear d0 f0 d1 f1 d2 f2 d3 f3 d4 f4 d5 f5 d6 f6 d7 f7 d8 f8
                have bX := Tu.below_over9 (Below.refl XH wTD) (g := XH) (Nat.le_refl _) (.int .i64 n) (.int .i64 l) (.int .i64 d) (.int .i64 r) (.int .i64 p) (.int .i64 s) (.slice (some ⟨gHk, 0, none⟩) k cHk) (.slice (some ⟨gHo, 0, none⟩) m cHo) (.int .i64 (Tu.RU n l d r p s ks k os m t ds es ls fs rs nF nR))
                have ⟨BB_yt25, R0_yt25, T0_yt25, RA_yt25, RG_yt25, hAk_yt25, hAo_yt25, mGk_yt25, mGo_yt25⟩ := hHeld.2.2.2.2.2.2.2.2.2.2.2.2.2.2.out
                have BB2_yt25 := Tu.below_over9 BB_yt25 (g := XH) (by omega) (.int .i64 n) (.int .i64 l) (.int .i64 d) (.int .i64 r) (.int .i64 p) (.int .i64 s) (.slice (some ⟨gHk, 0, none⟩) k cHk) (.slice (some ⟨gHo, 0, none⟩) m cHo) (.int .i64 (Tu.RU n l d r p s ks k os m t ds es ls fs rs nF nR))
                have R02_yt25 := R0_yt25.block (bX.block _ (by omega))
                have T02_yt25 := T0_yt25.block (bX.block _ (by omega))
                have RA2_yt25 := RA_yt25.block (bX.block _ (by omega))
                have RG2_yt25 := RG_yt25.block (bX.block _ (by omega))
                have hAk2_yt25 := hAk_yt25.later bX (by omega)
                have hAo2_yt25 := hAo_yt25.later bX (by omega)
                have mGk2_yt25 := mGk_yt25.later bX (by omega)
                have mGo2_yt25 := mGo_yt25.later bX (by omega)
                have kvyt25 := Tk.kv hK (w := _) ⟨R02_yt25.cell 0 rfl, R02_yt25.cell 1 rfl, R02_yt25.cell 2 rfl, R02_yt25.cell 3 rfl, R02_yt25.cell 4 rfl, R02_yt25.cell 5 rfl, R02_yt25.cell 6 rfl, R02_yt25.cell 7 rfl, R02_yt25.cell 8 rfl, T02_yt25.cell 0 rfl, T02_yt25.cell 1 rfl, T02_yt25.cell 2 rfl, T02_yt25.cell 3 rfl, T02_yt25.cell 4 rfl, ⟨BB2_yt25, R02_yt25, T02_yt25, RA2_yt25, RG2_yt25, hAk2_yt25, hAo2_yt25, mGk2_yt25, mGo2_yt25⟩⟩
                replace RN := Rm.over9 RN (.int .i64 n) (.int .i64 l) (.int .i64 d) (.int .i64 r) (.int .i64 p) (.int .i64 s) (.slice (some ⟨gHk, 0, none⟩) k cHk) (.slice (some ⟨gHo, 0, none⟩) m cHo) (.int .i64 (Tu.RU n l d r p s ks k os m t ds es ls fs rs nF nR))
                replace oA := Tu.own_over9 oA (g := XH) (by omega) (.int .i64 n) (.int .i64 l) (.int .i64 d) (.int .i64 r) (.int .i64 p) (.int .i64 s) (.slice (some ⟨gHk, 0, none⟩) k cHk) (.slice (some ⟨gHo, 0, none⟩) m cHo) (.int .i64 (Tu.RU n l d r p s ks k os m t ds es ls fs rs nF nR))
                replace oB := Tu.own_over9 oB (g := XH) (by omega) (.int .i64 n) (.int .i64 l) (.int .i64 d) (.int .i64 r) (.int .i64 p) (.int .i64 s) (.slice (some ⟨gHk, 0, none⟩) k cHk) (.slice (some ⟨gHo, 0, none⟩) m cHo) (.int .i64 (Tu.RU n l d r p s ks k os m t ds es ls fs rs nF nR))
                clear bX BB_yt25 R0_yt25 T0_yt25 RA_yt25 RG_yt25 hAk_yt25 hAo_yt25 mGk_yt25 mGo_yt25 BB2_yt25 R02_yt25 T02_yt25 RA2_yt25 RG2_yt25 hAk2_yt25 hAo2_yt25 mGk2_yt25 mGo2_yt25
                try dsimp only
                refine hK.out _ _ kvyt25 ?_; clear hK K hHeld; intro hHeld; try simp only [Act.put, List.setIfInBounds_toArray, List.set_cons_zero, List.set_cons_succ]
                refine Tk.W 10 (some 16) (.assign (.tmp 101)) 4 none ?_
                refine wpAnyH_done (by kernel_rfl) ?_ _
                refine NoPanic.normal ?_
                have qq := hHeld.2.2.2.2.2.2.2.2.2.2.2.2.2.2.out
                clear hHeld
                go_wp2_with fail
                go_meet
                case rel => exact ⟨XH, gHk, cHk, gHo, cHo, rfl, rfl, ⟨qq.1, qq.2.1, qq.2.2.1, qq.2.2.2.1, qq.2.2.2.2.1, qq.2.2.2.2.2.1, qq.2.2.2.2.2.2.1, qq.2.2.2.2.2.2.2.1, qq.2.2.2.2.2.2.2.2, RN, ⟨oA.has.1, Nat.zero_le _, oA.has.2.2⟩, ⟨oB.has.1, Nat.zero_le _, oB.has.2.2⟩, gne, by omega, by omega, by omega, by omega, by omega⟩⟩
            · go_simp
              have byt27 : Below wh.drew.heap.size wh.drew ((wh.alloc (.cells #[.int .i64 0, .int .i64 0, .int .i64 0, .int .i64 0, .int .i64 0, .int .i64 0, .slice none 0 0, .slice none 0 0, .int .i64 0] 28)).drew) := (Below.refl wh.drew.heap.size wh.drew).alloc (Nat.le_refl _) (.cells #[.int .i64 0, .int .i64 0, .int .i64 0, .int .i64 0, .int .i64 0, .int .i64 0, .slice none 0 0, .slice none 0 0, .int .i64 0] 28)
              have RN : Rm.Room ((wh.alloc (.cells #[.int .i64 0, .int .i64 0, .int .i64 0, .int .i64 0, .int .i64 0, .int .i64 0, .slice none 0 0, .slice none 0 0, .int .i64 0] 28)).drew) wh.heap.size [.int .i64 0, .int .i64 0, .int .i64 0, .int .i64 0, .int .i64 0, .int .i64 0, .slice none 0 0, .slice none 0 0, .int .i64 0] := Rm.Room.new wh.drew [.int .i64 0, .int .i64 0, .int .i64 0, .int .i64 0, .int .i64 0, .int .i64 0, .slice none 0 0, .slice none 0 0, .int .i64 0] 28
              have ⟨BB_yt27, R0_yt27, T0_yt27, RA_yt27, RG_yt27, hAk_yt27, hAo_yt27, mGk_yt27, mGo_yt27⟩ := hHeld.2.2.2.2.2.2.2.2.2.2.2.2.2.2.out
              have BB2_yt27 := BB_yt27.trans (byt27.mono BB_yt27.size)
              have R02_yt27 := R0_yt27.below byt27
              have T02_yt27 := T0_yt27.below byt27
              have RA2_yt27 := RA_yt27.below byt27
              have RG2_yt27 := RG_yt27.below byt27
              have hAk2_yt27 := hAk_yt27.later byt27 hAk_yt27.2.2.1
              have hAo2_yt27 := hAo_yt27.later byt27 hAo_yt27.2.2.1
              have mGk2_yt27 := mGk_yt27.later byt27 mGk_yt27.2.2.1
              have mGo2_yt27 := mGo_yt27.later byt27 mGo_yt27.2.2.1
              have kvyt27 := Tk.kv hK (w := ((wh.alloc (.cells #[.int .i64 0, .int .i64 0, .int .i64 0, .int .i64 0, .int .i64 0, .int .i64 0, .slice none 0 0, .slice none 0 0, .int .i64 0] 28)).drew)) ⟨R02_yt27.cell 0 rfl, R02_yt27.cell 1 rfl, R02_yt27.cell 2 rfl, R02_yt27.cell 3 rfl, R02_yt27.cell 4 rfl, R02_yt27.cell 5 rfl, R02_yt27.cell 6 rfl, R02_yt27.cell 7 rfl, R02_yt27.cell 8 rfl, T02_yt27.cell 0 rfl, T02_yt27.cell 1 rfl, T02_yt27.cell 2 rfl, T02_yt27.cell 3 rfl, T02_yt27.cell 4 rfl, ⟨BB2_yt27, R02_yt27, T02_yt27, RA2_yt27, RG2_yt27, hAk2_yt27, hAo2_yt27, mGk2_yt27, mGo2_yt27⟩⟩
              have zn := byt27.size
              clear byt27
              clear BB_yt27 R0_yt27 T0_yt27 RA_yt27 RG_yt27 hAk_yt27 hAo_yt27 mGk_yt27 mGo_yt27 BB2_yt27 R02_yt27 T02_yt27 RA2_yt27 RG2_yt27 hAk2_yt27 hAo2_yt27 mGk2_yt27 mGo2_yt27
              obtain ⟨XH, hX⟩ : ∃ x, x = wh.heap.size := ⟨_, rfl⟩
              rw [← hX] at RN ⊢
              have hX1 : XH ≤ wh.heap.size := Nat.le_of_eq hX
              have hX2 : wh.heap.size ≤ XH := Nat.le_of_eq hX.symm
              clear hX
              have lX : XH < ((wh.alloc (.cells #[.int .i64 0, .int .i64 0, .int .i64 0, .int .i64 0, .int .i64 0, .int .i64 0, .slice none 0 0, .slice none 0 0, .int .i64 0] 28)).drew).heap.size := RN.lt (by simp)
              generalize (wh.alloc (.cells #[.int .i64 0, .int .i64 0, .int .i64 0, .int .i64 0, .int .i64 0, .int .i64 0, .slice none 0 0, .slice none 0 0, .int .i64 0] 28)).drew = wX at kvyt27 RN lX zn ⊢
              try dsimp only
              refine hK.out _ _ kvyt27 ?_; clear hK K hHeld; intro hHeld; try simp only [Act.put, List.setIfInBounds_toArray, List.set_cons_zero, List.set_cons_succ]
              refine Tk.R 1 (some 96) (.call ⟨.value (.func 18), #[.tmp 95], #[47]⟩) 28 none (fun K hK => ?_)
              go_simp
              refine (Wl.toWorld n l d r p s t a b k ka m mb ks os _ ((hr.later hHeld.2.2.2.2.2.2.2.2.2.2.2.2.2.2.out.1 (Nat.le_refl _)).more hHeld.2.2.2.2.2.2.2.2.2.2.2.2.2.2.out.1.size) ((hs.later hHeld.2.2.2.2.2.2.2.2.2.2.2.2.2.2.out.1 (Nat.le_refl _)).more hHeld.2.2.2.2.2.2.2.2.2.2.2.2.2.2.out.1.size) hk hm).mono ?_
              rintro e wTW ⟨⟨gk, go, rfl, kK, kO, _⟩, b_yt28⟩
              have ⟨BB_yt28, R0_yt28, T0_yt28, RA_yt28, RG_yt28, hAk_yt28, hAo_yt28, mGk_yt28, mGo_yt28⟩ := hHeld.2.2.2.2.2.2.2.2.2.2.2.2.2.2.out
              have BB2_yt28 := BB_yt28.trans (b_yt28.mono BB_yt28.size)
              have R02_yt28 := R0_yt28.below b_yt28
              have T02_yt28 := T0_yt28.below b_yt28
              have RA2_yt28 := RA_yt28.below b_yt28
              have RG2_yt28 := RG_yt28.below b_yt28
              have hAk2_yt28 := hAk_yt28.later b_yt28 hAk_yt28.2.2.1
              have hAo2_yt28 := hAo_yt28.later b_yt28 hAo_yt28.2.2.1
              have mGk2_yt28 := mGk_yt28.later b_yt28 mGk_yt28.2.2.1
              have mGo2_yt28 := mGo_yt28.later b_yt28 mGo_yt28.2.2.1
              have kvyt28 := Tk.kv hK (w := wTW) ⟨R02_yt28.cell 0 rfl, R02_yt28.cell 1 rfl, R02_yt28.cell 2 rfl, R02_yt28.cell 3 rfl, R02_yt28.cell 4 rfl, R02_yt28.cell 5 rfl, R02_yt28.cell 6 rfl, R02_yt28.cell 7 rfl, R02_yt28.cell 8 rfl, T02_yt28.cell 0 rfl, T02_yt28.cell 1 rfl, T02_yt28.cell 2 rfl, T02_yt28.cell 3 rfl, T02_yt28.cell 4 rfl, ⟨BB2_yt28, R02_yt28, T02_yt28, RA2_yt28, RG2_yt28, hAk2_yt28, hAo2_yt28, mGk2_yt28, mGo2_yt28⟩⟩
              replace RN := RN.below b_yt28
              have zz_yt28 := b_yt28.size
              clear BB_yt28 R0_yt28 T0_yt28 RA_yt28 RG_yt28 hAk_yt28 hAo_yt28 mGk_yt28 mGo_yt28 BB2_yt28 R02_yt28 T02_yt28 RA2_yt28 RG2_yt28 hAk2_yt28 hAo2_yt28 mGk2_yt28 mGo2_yt28
              try dsimp only
              refine hK.out _ _ kvyt28 ?_; clear hK K hHeld; intro hHeld; try simp only [Act.put, List.setIfInBounds_toArray, List.set_cons_zero, List.set_cons_succ]
              refine Tk.R 3 (some 98) (.call ⟨.value (.func 19), #[.tmp 97], #[48]⟩) 32 none (fun K hK => ?_)
              go_simp
              refine (Tu.toTurn aD aE aL aF aR nD cD nE cE nL cL nF cF nR cR ds es ls fs rs _ ((rD.later hHeld.2.2.2.2.2.2.2.2.2.2.2.2.2.2.out.1 (Nat.le_refl _)).more hHeld.2.2.2.2.2.2.2.2.2.2.2.2.2.2.out.1.size) ((rE.later hHeld.2.2.2.2.2.2.2.2.2.2.2.2.2.2.out.1 (Nat.le_refl _)).more hHeld.2.2.2.2.2.2.2.2.2.2.2.2.2.2.out.1.size) ((rL.later hHeld.2.2.2.2.2.2.2.2.2.2.2.2.2.2.out.1 (Nat.le_refl _)).more hHeld.2.2.2.2.2.2.2.2.2.2.2.2.2.2.out.1.size) ((rF.later hHeld.2.2.2.2.2.2.2.2.2.2.2.2.2.2.out.1 (Nat.le_refl _)).more hHeld.2.2.2.2.2.2.2.2.2.2.2.2.2.2.out.1.size) ((rR.later hHeld.2.2.2.2.2.2.2.2.2.2.2.2.2.2.out.1 (Nat.le_refl _)).more hHeld.2.2.2.2.2.2.2.2.2.2.2.2.2.2.out.1.size) hz).mono ?_
              rintro e wTT ⟨⟨g0, g1, g2, g3, g4, rfl, hT⟩, b_yt29⟩
              have ⟨BB_yt29, R0_yt29, T0_yt29, RA_yt29, RG_yt29, hAk_yt29, hAo_yt29, mGk_yt29, mGo_yt29⟩ := hHeld.2.2.2.2.2.2.2.2.2.2.2.2.2.2.out
              have BB2_yt29 := BB_yt29.trans (b_yt29.mono BB_yt29.size)
              have R02_yt29 := R0_yt29.below b_yt29
              have T02_yt29 := T0_yt29.below b_yt29
              have RA2_yt29 := RA_yt29.below b_yt29
              have RG2_yt29 := RG_yt29.below b_yt29
              have hAk2_yt29 := hAk_yt29.later b_yt29 hAk_yt29.2.2.1
              have hAo2_yt29 := hAo_yt29.later b_yt29 hAo_yt29.2.2.1
              have mGk2_yt29 := mGk_yt29.later b_yt29 mGk_yt29.2.2.1
              have mGo2_yt29 := mGo_yt29.later b_yt29 mGo_yt29.2.2.1
              have kvyt29 := Tk.kv hK (w := wTT) ⟨R02_yt29.cell 0 rfl, R02_yt29.cell 1 rfl, R02_yt29.cell 2 rfl, R02_yt29.cell 3 rfl, R02_yt29.cell 4 rfl, R02_yt29.cell 5 rfl, R02_yt29.cell 6 rfl, R02_yt29.cell 7 rfl, R02_yt29.cell 8 rfl, T02_yt29.cell 0 rfl, T02_yt29.cell 1 rfl, T02_yt29.cell 2 rfl, T02_yt29.cell 3 rfl, T02_yt29.cell 4 rfl, ⟨BB2_yt29, R02_yt29, T02_yt29, RA2_yt29, RG2_yt29, hAk2_yt29, hAo2_yt29, mGk2_yt29, mGo2_yt29⟩⟩
              replace RN := RN.below b_yt29
              replace kK := kK.later b_yt29 kK.2.2.1
              replace kO := kO.later b_yt29 kO.2.2.1
              have hTa := hT.all
              have zz_yt29 := b_yt29.size
              clear BB_yt29 R0_yt29 T0_yt29 RA_yt29 RG_yt29 hAk_yt29 hAo_yt29 mGk_yt29 mGo_yt29 BB2_yt29 R02_yt29 T02_yt29 RA2_yt29 RG2_yt29 hAk2_yt29 hAo2_yt29 mGk2_yt29 mGo2_yt29
              try dsimp only
              refine hK.out _ _ kvyt29 ?_; clear hK K hHeld; intro hHeld; try simp only [Act.put, List.setIfInBounds_toArray, List.set_cons_zero, List.set_cons_succ]
              refine Tk.R 4 (some 99) (.call ⟨.value (.func 7), #[.tmp 96, .tmp 98], #[28, 32]⟩) 35 none (fun K hK => ?_)
              go_simp
              refine (Tu.i_Turned n l d r p s t _ 0 k k _ m m _ _ _ _ _ nD nD nE nE nL nL nF nF nR nR ks os ds es ls fs rs _ kK.1 kK.2.2.2.1 kK.2.2.1 kO.row hTa.1 hTa.2.1 hTa.2.2.1 hTa.2.2.2.1 hTa.2.2.2.2 hk hm hnF hnR hnD hnE hnL htE htL).mono ?_
              rintro e wTD ⟨⟨hFa, hTr⟩, b_yt30⟩
              have ⟨BB_yt30, R0_yt30, T0_yt30, RA_yt30, RG_yt30, hAk_yt30, hAo_yt30, mGk_yt30, mGo_yt30⟩ := hHeld.2.2.2.2.2.2.2.2.2.2.2.2.2.2.out
              have BB2_yt30 := BB_yt30.trans (b_yt30.mono BB_yt30.size)
              have R02_yt30 := R0_yt30.below b_yt30
              have T02_yt30 := T0_yt30.below b_yt30
              have RA2_yt30 := RA_yt30.below b_yt30
              have RG2_yt30 := RG_yt30.below b_yt30
              have hAk2_yt30 := hAk_yt30.later b_yt30 hAk_yt30.2.2.1
              have hAo2_yt30 := hAo_yt30.later b_yt30 hAo_yt30.2.2.1
              have mGk2_yt30 := mGk_yt30.later b_yt30 mGk_yt30.2.2.1
              have mGo2_yt30 := mGo_yt30.later b_yt30 mGo_yt30.2.2.1
              have kvyt30 := Tk.kv hK (w := wTD) ⟨R02_yt30.cell 0 rfl, R02_yt30.cell 1 rfl, R02_yt30.cell 2 rfl, R02_yt30.cell 3 rfl, R02_yt30.cell 4 rfl, R02_yt30.cell 5 rfl, R02_yt30.cell 6 rfl, R02_yt30.cell 7 rfl, R02_yt30.cell 8 rfl, T02_yt30.cell 0 rfl, T02_yt30.cell 1 rfl, T02_yt30.cell 2 rfl, T02_yt30.cell 3 rfl, T02_yt30.cell 4 rfl, ⟨BB2_yt30, R02_yt30, T02_yt30, RA2_yt30, RG2_yt30, hAk2_yt30, hAo2_yt30, mGk2_yt30, mGo2_yt30⟩⟩
              obtain ⟨gHk, cHk, gHo, cHo, rfl, oA, oB, gne⟩ := hTr hq
              clear hFa hTr
              have loA := oA.data.2.1
              have loB := oB.data.2.1
              have hiA := oA.lt
              have hiB := oB.lt
              replace RN := RN.below b_yt30
              clear kK kO hT hTa
              have zz_yt30 := b_yt30.size
              clear BB_yt30 R0_yt30 T0_yt30 RA_yt30 RG_yt30 hAk_yt30 hAo_yt30 mGk_yt30 mGo_yt30 BB2_yt30 R02_yt30 T02_yt30 RA2_yt30 RG2_yt30 hAk2_yt30 hAo2_yt30 mGk2_yt30 mGo2_yt30
              try dsimp only
              refine hK.out _ _ kvyt30 ?_; clear hK K hHeld; intro hHeld; try simp only [Act.put, List.setIfInBounds_toArray, List.set_cons_zero, List.set_cons_succ]
              refine Tk.W 5 (some 94) (.move (.tmp 99)) 35 none ?_
              refine Tk.W 6 (some 100) (.extract (.tmp 94) 0) 28 none ?_
              refine Tk.W 7 (some 101) (.extract (.tmp 94) 1) 4 none ?_
              refine Tk.R 9 none (.store 28 (.tmp 15) (.tmp 100)) 0 none (fun K hK => ?_)
              have zB := hHeld.2.2.2.2.2.2.2.2.2.2.2.2.2.2.out.1.size
              have d0 := RN.cell 0 rfl
              have d1 := RN.cell 1 rfl
              have d2 := RN.cell 2 rfl
              have d3 := RN.cell 3 rfl
              have d4 := RN.cell 4 rfl
              have d5 := RN.cell 5 rfl
              have d6 := RN.cell 6 rfl
              have d7 := RN.cell 7 rfl
              have d8 := RN.cell 8 rfl
              have f0 := RN.froz 0 rfl
              have f1 := RN.froz 1 rfl
              have f2 := RN.froz 2 rfl
              have f3 := RN.froz 3 rfl
              have f4 := RN.froz 4 rfl
              have f5 := RN.froz 5 rfl
              have f6 := RN.froz 6 rfl
              have f7 := RN.froz 7 rfl
              have f8 := RN.froz 8 rfl
              go_simp
              clear d0 f0 d1 f1 d2 f2 d3 f3 d4 f4 d5 f5 d6 f6 d7 f7 d8 f8
              have bX := Tu.below_over9 (Below.refl XH wTD) (g := XH) (Nat.le_refl _) (.int .i64 n) (.int .i64 l) (.int .i64 d) (.int .i64 r) (.int .i64 p) (.int .i64 s) (.slice (some ⟨gHk, 0, none⟩) k cHk) (.slice (some ⟨gHo, 0, none⟩) m cHo) (.int .i64 (Tu.RU n l d r p s ks k os m t ds es ls fs rs nF nR))
              have ⟨BB_yt34, R0_yt34, T0_yt34, RA_yt34, RG_yt34, hAk_yt34, hAo_yt34, mGk_yt34, mGo_yt34⟩ := hHeld.2.2.2.2.2.2.2.2.2.2.2.2.2.2.out
              have BB2_yt34 := Tu.below_over9 BB_yt34 (g := XH) (by omega) (.int .i64 n) (.int .i64 l) (.int .i64 d) (.int .i64 r) (.int .i64 p) (.int .i64 s) (.slice (some ⟨gHk, 0, none⟩) k cHk) (.slice (some ⟨gHo, 0, none⟩) m cHo) (.int .i64 (Tu.RU n l d r p s ks k os m t ds es ls fs rs nF nR))
              have R02_yt34 := R0_yt34.block (bX.block _ (by omega))
              have T02_yt34 := T0_yt34.block (bX.block _ (by omega))
              have RA2_yt34 := RA_yt34.block (bX.block _ (by omega))
              have RG2_yt34 := RG_yt34.block (bX.block _ (by omega))
              have hAk2_yt34 := hAk_yt34.later bX (by omega)
              have hAo2_yt34 := hAo_yt34.later bX (by omega)
              have mGk2_yt34 := mGk_yt34.later bX (by omega)
              have mGo2_yt34 := mGo_yt34.later bX (by omega)
              have kvyt34 := Tk.kv hK (w := _) ⟨R02_yt34.cell 0 rfl, R02_yt34.cell 1 rfl, R02_yt34.cell 2 rfl, R02_yt34.cell 3 rfl, R02_yt34.cell 4 rfl, R02_yt34.cell 5 rfl, R02_yt34.cell 6 rfl, R02_yt34.cell 7 rfl, R02_yt34.cell 8 rfl, T02_yt34.cell 0 rfl, T02_yt34.cell 1 rfl, T02_yt34.cell 2 rfl, T02_yt34.cell 3 rfl, T02_yt34.cell 4 rfl, ⟨BB2_yt34, R02_yt34, T02_yt34, RA2_yt34, RG2_yt34, hAk2_yt34, hAo2_yt34, mGk2_yt34, mGo2_yt34⟩⟩
              replace RN := Rm.over9 RN (.int .i64 n) (.int .i64 l) (.int .i64 d) (.int .i64 r) (.int .i64 p) (.int .i64 s) (.slice (some ⟨gHk, 0, none⟩) k cHk) (.slice (some ⟨gHo, 0, none⟩) m cHo) (.int .i64 (Tu.RU n l d r p s ks k os m t ds es ls fs rs nF nR))
              replace oA := Tu.own_over9 oA (g := XH) (by omega) (.int .i64 n) (.int .i64 l) (.int .i64 d) (.int .i64 r) (.int .i64 p) (.int .i64 s) (.slice (some ⟨gHk, 0, none⟩) k cHk) (.slice (some ⟨gHo, 0, none⟩) m cHo) (.int .i64 (Tu.RU n l d r p s ks k os m t ds es ls fs rs nF nR))
              replace oB := Tu.own_over9 oB (g := XH) (by omega) (.int .i64 n) (.int .i64 l) (.int .i64 d) (.int .i64 r) (.int .i64 p) (.int .i64 s) (.slice (some ⟨gHk, 0, none⟩) k cHk) (.slice (some ⟨gHo, 0, none⟩) m cHo) (.int .i64 (Tu.RU n l d r p s ks k os m t ds es ls fs rs nF nR))
              clear bX BB_yt34 R0_yt34 T0_yt34 RA_yt34 RG_yt34 hAk_yt34 hAo_yt34 mGk_yt34 mGo_yt34 BB2_yt34 R02_yt34 T02_yt34 RA2_yt34 RG2_yt34 hAk2_yt34 hAo2_yt34 mGk2_yt34 mGo2_yt34
              try dsimp only
              refine hK.out _ _ kvyt34 ?_; clear hK K hHeld; intro hHeld; try simp only [Act.put, List.setIfInBounds_toArray, List.set_cons_zero, List.set_cons_succ]
              refine Tk.W 10 (some 16) (.assign (.tmp 101)) 4 none ?_
              refine wpAnyH_done (by kernel_rfl) ?_ _
              refine NoPanic.normal ?_
              have qq := hHeld.2.2.2.2.2.2.2.2.2.2.2.2.2.2.out
              clear hHeld
              go_wp2_with fail
              go_meet
              case rel => exact ⟨XH, gHk, cHk, gHo, cHo, rfl, rfl, ⟨qq.1, qq.2.1, qq.2.2.1, qq.2.2.2.1, qq.2.2.2.2.1, qq.2.2.2.2.2.1, qq.2.2.2.2.2.2.1, qq.2.2.2.2.2.2.2.1, qq.2.2.2.2.2.2.2.2, RN, ⟨oA.has.1, Nat.zero_le _, oA.has.2.2⟩, ⟨oB.has.1, Nat.zero_le _, oB.has.2.2⟩, gne, by omega, by omega, by omega, by omega, by omega⟩⟩
          case rest =>
            obtain ⟨XH, gHk, cHk, gHo, cHo, rfl, rfl, Hc⟩ := hcut
            clear BB R0 T0 RA RG hAk hAo mGk mGo
            obtain ⟨BB, R0, T0, RA, RG, hAk, hAo, mGk, mGo, RH, hHk, hHo, neH, l1H, l2H, l3H, l4H, l5H⟩ := Hc.out
            clear Hc
            have hi1H := hHk.2.2.1
            have hi2H := hHo.2.2.1
            have hi3H := RH.lt (by simp)
            have cRA0 := RA.cell 0 rfl
            have cRA1 := RA.cell 1 rfl
            have cRA2 := RA.cell 2 rfl
            have cRA3 := RA.cell 3 rfl
            have cRA4 := RA.cell 4 rfl
            have cRA5 := RA.cell 5 rfl
            have cRA6 := RA.cell 6 rfl
            have cRA7 := RA.cell 7 rfl
            have cRA8 := RA.cell 8 rfl
            have lRA := RA.lt (by simp)
            have cRH0 := RH.cell 0 rfl
            have cRH1 := RH.cell 1 rfl
            have cRH2 := RH.cell 2 rfl
            have cRH3 := RH.cell 3 rfl
            have cRH4 := RH.cell 4 rfl
            have cRH5 := RH.cell 5 rfl
            have cRH6 := RH.cell 6 rfl
            have cRH7 := RH.cell 7 rfl
            have cRH8 := RH.cell 8 rfl
            have lRH := RH.lt (by simp)
            go_wp2_with fail
            refine (Wl.eqWorld n l d r p s (Tu.RU n l d r p s ks k os m t ds es ls fs rs nF nR) _ _ _ _ k _ _ m _ _ (Tu.RK n l d r p s ks k os m t ds es ls fs rs nF nR) (Tu.RO n l d r p s ks k os m t ds es ls fs rs nF nR) _ hHk.row hAk.row hHo.row hAo.row hk hm).mono ?_
            rintro e wz ⟨rfl, bz⟩
            clear cRA0 cRA1 cRA2 cRA3 cRA4 cRA5 cRA6 cRA7 cRA8 lRA cRH0 cRH1 cRH2 cRH3 cRH4 cRH5 cRH6 cRH7 cRH8 lRH
            have z_bz := bz.size
            (try simp at z_bz)
            replace R0 := R0.below bz
            replace T0 := T0.below bz
            replace RA := RA.below bz
            replace RG := RG.below bz
            replace RH := RH.below bz
            replace hAk := hAk.later bz hAk.2.2.1
            replace hAo := hAo.later bz hAo.2.2.1
            replace mGk := mGk.later bz mGk.2.2.1
            replace mGo := mGo.later bz mGo.2.2.1
            replace hHk := hHk.later bz hHk.2.2.1
            replace hHo := hHo.later bz hHo.2.2.1
            replace BB := BB.trans (bz.mono BB.size)
            have cRG0 := RG.cell 0 rfl
            have cRG1 := RG.cell 1 rfl
            have cRG2 := RG.cell 2 rfl
            have cRG3 := RG.cell 3 rfl
            have cRG4 := RG.cell 4 rfl
            have cRG5 := RG.cell 5 rfl
            have cRG6 := RG.cell 6 rfl
            have cRG7 := RG.cell 7 rfl
            have cRG8 := RG.cell 8 rfl
            have lRG := RG.lt (by simp)
            go_wp2_with fail
            refine (Wl.heldWorld n l d r p s (Tu.RU n l d r p s ks k os m t ds es ls fs rs nF nR) _ gGk 0 gGo 0 k _ m _ _ mGk mGo hk hm).mono ?_
            rintro e wy ⟨rfl, by_⟩
            clear cRG0 cRG1 cRG2 cRG3 cRG4 cRG5 cRG6 cRG7 cRG8 lRG
            have z_by_ := by_.size
            (try simp at z_by_)
            replace R0 := R0.below by_
            replace T0 := T0.below by_
            replace RA := RA.below by_
            replace RG := RG.below by_
            replace RH := RH.below by_
            replace hAk := hAk.later by_ hAk.2.2.1
            replace hAo := hAo.later by_ hAo.2.2.1
            replace mGk := mGk.later by_ mGk.2.2.1
            replace mGo := mGo.later by_ mGo.2.2.1
            replace hHk := hHk.later by_ hHk.2.2.1
            replace hHo := hHo.later by_ hHo.2.2.1
            replace BB := BB.trans (by_.mono BB.size)
            go_wp2
            go_ret
            exact ⟨rfl, BB⟩

/-! The row. -/
set_option maxRecDepth 100000 in
theorem lifted (os : Os) (started : os.Started) (H : Type) (enc : TypeId × Value → H) :
    ReturnsInHanded {} Tryz.checked os 4 .any (Rows.fnExactTurnedSpec.pre6 enc Tryz.prog Tryz.f4 Rows.fnExactTurnedRow.domain false) (Rows.fnExactTurnedSpec.post enc Tryz.prog Tryz.f4 false true false false) := by
  refine returnsInHanded_of_change (C := Tryz.checked) own started (by kernel_rfl) Tryz.func4
    (ChangeSpec.witness6 (enc := enc) (C := Tryz.checked) false ⟨#[], #[.agg #[.int .i64 0, .int .i64 0, .int .i64 0, .int .i64 0, .int .i64 0, .int .i64 0, .slice none 0 0, .slice none 0 0, .int .i64 0], .agg #[.slice none 0 0, .slice none 0 0, .slice none 0 0, .slice none 0 0, .slice none 0 0]], []⟩ 8 (by kernel_rfl) (by kernel_rfl) (by kernel_rfl) (by kernel_rfl)) ?_
  intro W base args ds gs before hval0 hW hcnd _
  have hval : ∀ (j : Nat) t v, Tryz.f4.params[j]? = some t → args[j]? = some v → Value.okWide Tryz.prog W .any base t v := hval0
  have hW' := hW
  obtain ⟨p, q, hA0, hV, rfl, hfz, hnd⟩ := hW
  have hA : DataW.TrodAll enc Tryz.prog W 0 (fun _ => true) true Tryz.f4.params.toList args.toList ds p := hA0
  rw [Tryz.params4] at hA hval
  obtain ⟨v0, vs0, d0, ds0, p0, q0, hargs, rfl, rfl, h0, r0⟩ := trodAll_cons hA
  obtain ⟨v1, vs1, d1, ds1, p1, q1, rfl, rfl, rfl, h1, r1⟩ := trodAll_cons r0
  obtain ⟨rfl, rfl, rfl⟩ := trodAll_nil r1
  obtain rfl : args = #[v0, v1] := by cases args; simp_all
  obtain ⟨rfl, rfl⟩ := trodVars_none hV
  have k0' := h0
  have lt0' : ∀ x ∈ p0, x.block < W.heap.size := by obtain ⟨m, hm⟩ := k0'; exact DataW.trod_lt m _ _ _ hm
  have rd0 := Rd.Reads.of h0
  obtain ⟨cs0, rfl, _⟩ := okWide_struct Tryz.underlying47 (hval 0 47 v0 rfl rfl)
  obtain ⟨n, l, d, r, p, s, t, a, k, ka, b, m, mb, ks, os, rfl, hr, hs, lk, lm⟩ := Rd.world rd0
  have k1' := h1
  have lt1' : ∀ x ∈ p1, x.block < W.heap.size := by obtain ⟨m, hm⟩ := k1'; exact DataW.trod_lt m _ _ _ hm
  have rd1 := Rd.Reads.of h1
  obtain ⟨cs1, rfl, _⟩ := okWide_struct Tryz.underlying48 (hval 1 48 v1 rfl rfl)
  obtain ⟨aD, nD, cD, aE, nE, cE, aL, nL, cL, aF, nF, cF, aR, nR, cR, ds, es, ls, fs, rs, rfl, rD, rE, rL, rF, rR, mD, mE, mL, mF, mR, mE2, mL2⟩ := Rd.turn rd1
  clear hA0 hval0
  refine (walk n l d r p s t a k ka b m mb ks os aD nD cD aE nE cE aL nL cL aF nF cF aR nR cR ds es ls fs rs W hr hs lk lm rD rE rL rF rR mD mE mL mF mR mE2 mL2).mono fun e W' ⟨he, bel⟩ => ?_
  subst he
  exact ⟨_, rfl, _, _, _, [], _, [], hW', trodAll_mk1 (shut_bool Tryz.underlying4 _), (trodAll_cons_mk (Below.trod laidOut (by kernel_rfl) (of_decide_eq_true (by kernel_rfl)) k0' bel lt0') (trodAll_cons_mk (Below.trod laidOut (by kernel_rfl) (of_decide_eq_true (by kernel_rfl)) k1' bel lt1') trodAll_mk0)), rfl, bel.frame _, fun h => by cases h⟩

theorem over : Rows.fnExactTurnedRow.holds Tryz.pinned (OpenSpec.ofChange Rows.fnExactTurnedSpec) :=
  OpenClaim.holds_of_wide 4 Tryz.f4 rfl rfl rfl rfl rfl rfl rfl ⟨rfl, rfl, rfl, rfl, rfl⟩ rfl rfl rfl rfl rfl (by kernel_rfl) Tryz.func4 (by kernel_rfl)
    (of_decide_eq_true (by kernel_rfl)) (by unfold Func.isWrapper; first | (rw [if_pos (by decide +kernel)]; kernel_rfl) | (rw [if_neg (by decide +kernel)]; exact ⟨rfl, rfl⟩))
    (fun os started H enc _ => lifted os started H enc)

end Go.Proofs.YtnocmfhlmpgbmaaGreat.fnExactTurned

namespace Go.Proofs.YtnocmfhlmpgbmaaGreat
/-- The given statement. -/
theorem fnExactTurned_holds : Rows.FnExactTurnedSaid := fnExactTurned.over
#print axioms fnExactTurned_holds
end Go.Proofs.YtnocmfhlmpgbmaaGreat
