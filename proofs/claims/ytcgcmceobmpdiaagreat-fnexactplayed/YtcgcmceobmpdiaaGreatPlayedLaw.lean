/-
  The Go function laws.FnExactPlayed answers true at every World and list of Turns: impl.Played answers there as spec.Played, field by field, writes into neither argument, and its answer owns its memory. No condition.
-/
import Derived.Test.YtcgcmceobmpdiaaGreatRows
import Derived.WalkKit
import Derived.ProofKit
import Derived.OpenShut
import Derived.ChangeOld
import Derived.Below
import Derived.Lib.SmallJoins
import Derived.Test.YtcgcmceobmpdiaaGreatBase
import Derived.Test.YtcgcmceobmpdiaaGreatPlAll
import Derived.Test.YtcgcmceobmpdiaaGreatZero
import Derived.Test.YtcgcmceobmpdiaaGreatWt
import Derived.Test.YtcgcmceobmpdiaaGreatTk
namespace Go.Proofs.YtcgcmceobmpdiaaGreat.fnExactPlayed
open Go.ChangeShapes Go.WideShapes Go.ChangeAt Go.RowKit Go.Joins
set_option linter.unusedVariables false
set_option linter.unusedSimpArgs false

theorem own : ownKnob Tryz.prog.godebug = none := by kernel_rfl
theorem laidOut : laidOutB Tryz.prog = true := by kernel_rfl


/-! The walk. -/
set_option maxHeartbeats 20000000 in
set_option maxRecDepth 100000 in
theorem walk (n l d r p s t : Int) (a : Option Addr) (k ka : Nat) (b : Option Addr) (m mb : Nat) (ks os : List Int) (aT : Option Addr) (nT cT : Nat) (ts : List Pl.TT) (w : World) (hr : Ls.Row w w.heap.size a k ks) (hs : Ls.Row w w.heap.size b m os) (lk : k ≤ maxLen) (lm : m ≤ maxLen) (hT : Pl.TurnsAt w w.heap.size aT nT ts) (mT : nT ≤ maxLen) (hF : ∀ j, j < nT → (Pl.tt ts j).Fit) :
    Calls Tryz.prog 3 #[.agg #[.int .i64 n, .int .i64 l, .int .i64 d, .int .i64 r, .int .i64 p, .int .i64 s, .slice a k ka, .slice b m mb, .int .i64 t], .slice aT nT cT] w fun e w' => e = .returned (.bool true) ∧ Below w.heap.size w w' := by
  by_cases hl : k + m ≤ 1048576
  case neg =>
    have R0 := Rm.Room.new w [.int .i64 n, .int .i64 l, .int .i64 d, .int .i64 r, .int .i64 p, .int .i64 s, .slice a k ka, .slice b m mb, .int .i64 t] 26
    have BB := (Below.refl w.heap.size w).alloc (Nat.le_refl _) (.cells #[.int .i64 n, .int .i64 l, .int .i64 d, .int .i64 r, .int .i64 p, .int .i64 s, .slice a k ka, .slice b m mb, .int .i64 t] 26)
    go_enter Tryz.func3, Tryz.ntmps3
    go_wp2_with fail
    refine (Wl.szWorld_no n l d r p s t a b k ka m mb _ hl lk lm).mono ?_
    rintro e w2 ⟨rfl, b2⟩
    go_wp2
    go_ret
    exact ⟨rfl, BB.trans (b2.mono BB.size)⟩
  case pos =>
    have hk : k ≤ 1048576 := by omega
    have hm : m ≤ 1048576 := by omega
    have hx2 : decide ((1048576 : Int) - (k : Int) - (m : Int) < 0) = false := by simp; omega
    have R0 := Rm.Room.new w [.int .i64 n, .int .i64 l, .int .i64 d, .int .i64 r, .int .i64 p, .int .i64 s, .slice a k ka, .slice b m mb, .int .i64 t] 26
    have BB := (Below.refl w.heap.size w).alloc (Nat.le_refl _) (.cells #[.int .i64 n, .int .i64 l, .int .i64 d, .int .i64 r, .int .i64 p, .int .i64 s, .slice a k ka, .slice b m mb, .int .i64 t] 26)
    have HF : Hid (∀ j, j < nT → (Pl.tt ts j).Fit) := hF
    clear hF
    go_enter Tryz.func3, Tryz.ntmps3
    go_wp2_with fail
    refine (Tu.szWorld_is n l d r p s t a b k ka m mb _ hl).mono ?_
    rintro e w2 ⟨rfl, bq⟩
    have z_bq0 := bq.size
    replace R0 := R0.below bq
    replace BB := BB.trans (bq.mono BB.size)
    clear bq
    by_cases hz2 : (nT : Int) + (Pl.szs ts nT : Int) ≤ (1048576 : Int) - (k : Int) - (m : Int)
    case neg =>
      go_wp2_with fail
      refine (Pl.szs_no aT nT cT ts _ _ (hT.below BB) (by omega) (by omega) (by omega) mT HF.out).mono ?_
      rintro e w3 ⟨rfl, b3⟩
      go_wp2
      go_ret
      exact ⟨rfl, BB.trans (b3.mono BB.size)⟩
    case pos =>
      have hz : (nT : Int) + (Pl.szs ts nT : Int) ≤ 1048576 := by omega
      have hn : nT ≤ 1048576 := by omega
      have hOk : Hid (∀ j, j < nT → (Pl.tt ts j).Ok) := fun j hj => Pl.sz_ok (by have := Pl.sz_szs ts hj; omega)
      have hlen0 := hT.1
      have hlen : Hid (ts.length = nT) := hlen0
      clear hlen0
      go_wp2_with fail
      refine (Pl.szs_yes aT nT cT ts _ _ (hT.below BB) hz2 (by omega)).mono ?_
      rintro e w3 ⟨⟨x3, rfl, hx3⟩, bq⟩
      have z_bq0 := bq.size
      replace R0 := R0.below bq
      replace BB := BB.trans (bq.mono BB.size)
      clear bq
      have hx3b : decide (x3 < 0) = false := by simp; omega
      clear hz2 hx3
      by_cases hq : Wl.WO n l d r p s ks k os m t = true ∧ nT ≤ 200
      · have HQ : Hid (Wl.WO n l d r p s ks k os m t = true ∧ nT ≤ 200) := hq
        clear hq
        have lp0 := R0.lt (by simp)
        have cR00 := R0.cell 0 rfl
        have cR01 := R0.cell 1 rfl
        have cR02 := R0.cell 2 rfl
        have cR03 := R0.cell 3 rfl
        have cR04 := R0.cell 4 rfl
        have cR05 := R0.cell 5 rfl
        have cR06 := R0.cell 6 rfl
        have cR07 := R0.cell 7 rfl
        have cR08 := R0.cell 8 rfl
        have lR0 := R0.lt (by simp)
        go_wp2_with fail
        clear cR00 cR01 cR02 cR03 cR04 cR05 cR06 cR07 cR08 lR0
        refine (Wl.toWorld n l d r p s t a b k ka m mb ks os _ ((hr.later BB (Nat.le_refl _)).more BB.size) ((hs.later BB (Nat.le_refl _)).more BB.size) hk hm).mono ?_
        rintro e w4a ⟨⟨gk, go, rfl, kK, kO, gkgo⟩, bq⟩
        have z_bq0 := bq.size
        replace R0 := R0.below bq
        replace BB := BB.trans (bq.mono BB.size)
        clear bq
        go_wp2_with fail
        refine (Pl.toTurnS aT nT cT ts _ (hT.below BB) hz).mono ?_
        rintro e w4b ⟨rfl, hA, bq⟩
        have z_bq1 := bq.size
        replace R0 := R0.below bq
        replace kK := kK.later bq kK.2.2.1
        replace kO := kO.later bq kO.2.2.1
        replace BB := BB.trans (bq.mono BB.size)
        clear bq
        go_wp2_with fail
        refine (Pl.s_q n l d r p s t _ _ k k m m ks os _ nT nT ts _ kK.row kO.row hk hm (hA.at hlen.out) hn hOk.out HQ.out).mono ?_
        rintro e w4c ⟨⟨gAk, cAk, gAo, cAo, rfl, hAk, hAo, neA, lkA, loA⟩, bq⟩
        have z_bq2 := bq.size
        replace R0 := R0.below bq
        replace kK := kK.later bq kK.2.2.1
        replace kO := kO.later bq kO.2.2.1
        replace hA := hA.later bq
        replace BB := BB.trans (bq.mono BB.size)
        clear bq
        clear kK kO hA
        have hi1A := hAk.2.2.1
        have hi2A := hAo.2.2.1
        have cR00 := R0.cell 0 rfl
        have cR01 := R0.cell 1 rfl
        have cR02 := R0.cell 2 rfl
        have cR03 := R0.cell 3 rfl
        have cR04 := R0.cell 4 rfl
        have cR05 := R0.cell 5 rfl
        have cR06 := R0.cell 6 rfl
        have cR07 := R0.cell 7 rfl
        have cR08 := R0.cell 8 rfl
        have lR0 := R0.lt (by simp)
        go_wp2_with fail
        clear cR00 cR01 cR02 cR03 cR04 cR05 cR06 cR07 cR08 lR0
        have bn : Below w4c.heap.size w4c (w4c.alloc (.cells #[.int .i64 n, .int .i64 l, .int .i64 d, .int .i64 r, .int .i64 p, .int .i64 s, .slice (some ⟨gAk, 0, none⟩) k cAk, .slice (some ⟨gAo, 0, none⟩) m cAo, .int .i64 (Pl.QT n l d r p s k m ks os t ts nT)] 32)) := (Below.refl _ w4c).alloc (Nat.le_refl _) _
        have RA := Rm.Room.new w4c [.int .i64 n, .int .i64 l, .int .i64 d, .int .i64 r, .int .i64 p, .int .i64 s, .slice (some ⟨gAk, 0, none⟩) k cAk, .slice (some ⟨gAo, 0, none⟩) m cAo, .int .i64 (Pl.QT n l d r p s k m ks os t ts nT)] 32
        have zn4 := bn.size
        have loRA := RA.lt (by simp)
        replace R0 := R0.below bn
        replace hAk := hAk.later bn hAk.2.2.1
        replace hAo := hAo.later bn hAo.2.2.1
        replace BB := BB.trans (bn.mono BB.size)
        clear bn
        generalize (w4c.alloc (.cells #[.int .i64 n, .int .i64 l, .int .i64 d, .int .i64 r, .int .i64 p, .int .i64 s, .slice (some ⟨gAk, 0, none⟩) k cAk, .slice (some ⟨gAo, 0, none⟩) m cAo, .int .i64 (Pl.QT n l d r p s k m ks os t ts nT)] 32)) = w4d at R0 RA hAk hAo BB zn4 loRA ⊢
        have hdq := (rfl : w4d = w4d)
        clear hdq
        refine (Wl.toWorld n l d r p s t a b k ka m mb ks os _ ((hr.later BB (Nat.le_refl _)).more BB.size) ((hs.later BB (Nat.le_refl _)).more BB.size) hk hm).mono ?_
        rintro e w5 ⟨⟨gX, hX, rfl, kX, oX, gXh⟩, bq⟩
        have z_bq4 := bq.size
        replace R0 := R0.below bq
        replace RA := RA.below bq
        replace hAk := hAk.later bq hAk.2.2.1
        replace hAo := hAo.later bq hAo.2.2.1
        replace BB := BB.trans (bq.mono BB.size)
        clear bq
        have loK := kX.2.1
        have hiK := kX.2.2.1
        have loO := oX.2.1
        have hiO := oX.2.2.1
        go_wp2_with fail
        have bn : Below w5.heap.size w5 (w5.alloc (.cells #[.int .i64 n, .int .i64 l, .int .i64 d, .int .i64 r, .int .i64 p, .int .i64 s, .slice (some ⟨gX, 0, none⟩) k k, .slice (some ⟨hX, 0, none⟩) m m, .int .i64 t] 32)) := (Below.refl _ w5).alloc (Nat.le_refl _) _
        have RX := Rm.Room.new w5 [.int .i64 n, .int .i64 l, .int .i64 d, .int .i64 r, .int .i64 p, .int .i64 s, .slice (some ⟨gX, 0, none⟩) k k, .slice (some ⟨hX, 0, none⟩) m m, .int .i64 t] 32
        have zn6 := bn.size
        have loRX := RX.lt (by simp)
        replace R0 := R0.below bn
        replace RA := RA.below bn
        replace hAk := hAk.later bn hAk.2.2.1
        replace hAo := hAo.later bn hAo.2.2.1
        replace kX := kX.later bn kX.2.2.1
        replace oX := oX.later bn oX.2.2.1
        replace BB := BB.trans (bn.mono BB.size)
        clear bn
        generalize (w5.alloc (.cells #[.int .i64 n, .int .i64 l, .int .i64 d, .int .i64 r, .int .i64 p, .int .i64 s, .slice (some ⟨gX, 0, none⟩) k k, .slice (some ⟨hX, 0, none⟩) m m, .int .i64 t] 32)) = w5d at R0 RA RX hAk hAo kX oX BB zn6 loRX ⊢
        refine (Pl.toTurnS aT nT cT ts _ (hT.below BB) hz).mono ?_
        rintro e w6 ⟨rfl, hY, bq⟩
        have z_bq6 := bq.size
        replace R0 := R0.below bq
        replace RA := RA.below bq
        replace RX := RX.below bq
        replace hAk := hAk.later bq hAk.2.2.1
        replace hAo := hAo.later bq hAo.2.2.1
        replace kX := kX.later bq kX.2.2.1
        replace oX := oX.later bq oX.2.2.1
        replace BB := BB.trans (bq.mono BB.size)
        clear bq
        have hYl := hY.lt
        have cRX0 := RX.cell 0 rfl
        have cRX1 := RX.cell 1 rfl
        have cRX2 := RX.cell 2 rfl
        have cRX3 := RX.cell 3 rfl
        have cRX4 := RX.cell 4 rfl
        have cRX5 := RX.cell 5 rfl
        have cRX6 := RX.cell 6 rfl
        have cRX7 := RX.cell 7 rfl
        have cRX8 := RX.cell 8 rfl
        have lRX := RX.lt (by simp)
        go_wp2_with fail
        clear cRX0 cRX1 cRX2 cRX3 cRX4 cRX5 cRX6 cRX7 cRX8 lRX
        refine (Pl.i_q n l d r p s t _ _ k k m m ks os _ nT nT ts _ kX.row oX.row hk hm (hY.at hlen.out) hn hOk.out HQ.out).mono ?_
        rintro e w8 ⟨⟨gGk, cGk, gGo, cGo, rfl, hGk, hGo, neG, lkG, loG⟩, bq⟩
        have z_bq7 := bq.size
        replace R0 := R0.below bq
        replace RA := RA.below bq
        replace RX := RX.below bq
        replace hAk := hAk.later bq hAk.2.2.1
        replace hAo := hAo.later bq hAo.2.2.1
        replace kX := kX.later bq kX.2.2.1
        replace oX := oX.later bq oX.2.2.1
        replace hY := hY.later bq
        replace BB := BB.trans (bq.mono BB.size)
        clear bq
        have hi1G := hGk.2.2.1
        have hi2G := hGo.2.2.1
        have cRA0 := RA.cell 0 rfl
        have cRA1 := RA.cell 1 rfl
        have cRA2 := RA.cell 2 rfl
        have cRA3 := RA.cell 3 rfl
        have cRA4 := RA.cell 4 rfl
        have cRA5 := RA.cell 5 rfl
        have cRA6 := RA.cell 6 rfl
        have cRA7 := RA.cell 7 rfl
        have cRA8 := RA.cell 8 rfl
        have lRA := RA.lt (by simp)
        go_wp2_with fail
        clear cRA0 cRA1 cRA2 cRA3 cRA4 cRA5 cRA6 cRA7 cRA8 lRA
        have bn : Below w8.heap.size w8 (w8.alloc (.cells #[.int .i64 n, .int .i64 l, .int .i64 d, .int .i64 r, .int .i64 p, .int .i64 s, .slice (some ⟨gGk, 0, none⟩) k cGk, .slice (some ⟨gGo, 0, none⟩) m cGo, .int .i64 (Pl.QT n l d r p s k m ks os t ts nT)] 32)) := (Below.refl _ w8).alloc (Nat.le_refl _) _
        have RG := Rm.Room.new w8 [.int .i64 n, .int .i64 l, .int .i64 d, .int .i64 r, .int .i64 p, .int .i64 s, .slice (some ⟨gGk, 0, none⟩) k cGk, .slice (some ⟨gGo, 0, none⟩) m cGo, .int .i64 (Pl.QT n l d r p s k m ks os t ts nT)] 32
        have zn9 := bn.size
        have loRG := RG.lt (by simp)
        replace R0 := R0.below bn
        replace RA := RA.below bn
        replace RX := RX.below bn
        replace hAk := hAk.later bn hAk.2.2.1
        replace hAo := hAo.later bn hAo.2.2.1
        replace kX := kX.later bn kX.2.2.1
        replace oX := oX.later bn oX.2.2.1
        replace hGk := hGk.later bn hGk.2.2.1
        replace hGo := hGo.later bn hGo.2.2.1
        replace hY := hY.later bn
        replace BB := BB.trans (bn.mono BB.size)
        clear bn
        generalize (w8.alloc (.cells #[.int .i64 n, .int .i64 l, .int .i64 d, .int .i64 r, .int .i64 p, .int .i64 s, .slice (some ⟨gGk, 0, none⟩) k cGk, .slice (some ⟨gGo, 0, none⟩) m cGo, .int .i64 (Pl.QT n l d r p s k m ks os t ts nT)] 32)) = w8d at R0 RA RX RG hAk hAo kX oX hGk hGo hY BB zn9 loRG ⊢
        refine (Wl.eqWorld n l d r p s (Pl.QT n l d r p s k m ks os t ts nT) _ _ _ _ k _ _ m _ _ (Pl.QK n l d r p s k m ks os t ts nT) (Pl.QO n l d r p s k m ks os t ts nT) _ hGk.row hAk.row hGo.row hAo.row hk hm).mono ?_
        rintro e w9 ⟨rfl, bq⟩
        have z_bq9 := bq.size
        replace R0 := R0.below bq
        replace RA := RA.below bq
        replace RX := RX.below bq
        replace RG := RG.below bq
        replace hAk := hAk.later bq hAk.2.2.1
        replace hAo := hAo.later bq hAo.2.2.1
        replace kX := kX.later bq kX.2.2.1
        replace oX := oX.later bq oX.2.2.1
        replace hGk := hGk.later bq hGk.2.2.1
        replace hGo := hGo.later bq hGo.2.2.1
        replace hY := hY.later bq
        replace BB := BB.trans (bq.mono BB.size)
        clear bq
        have cR00 := R0.cell 0 rfl
        have cR01 := R0.cell 1 rfl
        have cR02 := R0.cell 2 rfl
        have cR03 := R0.cell 3 rfl
        have cR04 := R0.cell 4 rfl
        have cR05 := R0.cell 5 rfl
        have cR06 := R0.cell 6 rfl
        have cR07 := R0.cell 7 rfl
        have cR08 := R0.cell 8 rfl
        have lR0 := R0.lt (by simp)
        have cRX0 := RX.cell 0 rfl
        have cRX1 := RX.cell 1 rfl
        have cRX2 := RX.cell 2 rfl
        have cRX3 := RX.cell 3 rfl
        have cRX4 := RX.cell 4 rfl
        have cRX5 := RX.cell 5 rfl
        have cRX6 := RX.cell 6 rfl
        have cRX7 := RX.cell 7 rfl
        have cRX8 := RX.cell 8 rfl
        have lRX := RX.lt (by simp)
        go_wp2_with fail
        clear cR00 cR01 cR02 cR03 cR04 cR05 cR06 cR07 cR08 lR0 cRX0 cRX1 cRX2 cRX3 cRX4 cRX5 cRX6 cRX7 cRX8 lRX
        refine wp_region_noPanic ?_
        refine wp_region_held_drew (S := (fun w' => w'.cell? ⟨w.heap.size, 0, none⟩ = some (.int .i64 n) ∧ w'.cell? ⟨w.heap.size, 1, none⟩ = some (.int .i64 l) ∧ w'.cell? ⟨w.heap.size, 2, none⟩ = some (.int .i64 d) ∧ w'.cell? ⟨w.heap.size, 3, none⟩ = some (.int .i64 r) ∧ w'.cell? ⟨w.heap.size, 4, none⟩ = some (.int .i64 p) ∧ w'.cell? ⟨w.heap.size, 5, none⟩ = some (.int .i64 s) ∧ w'.cell? ⟨w.heap.size, 6, none⟩ = some (.slice a k ka) ∧ w'.cell? ⟨w.heap.size, 7, none⟩ = some (.slice b m mb) ∧ w'.cell? ⟨w.heap.size, 8, none⟩ = some (.int .i64 t) ∧ w'.cell? ⟨w5.heap.size, 0, none⟩ = some (.int .i64 n) ∧ w'.cell? ⟨w5.heap.size, 1, none⟩ = some (.int .i64 l) ∧ w'.cell? ⟨w5.heap.size, 2, none⟩ = some (.int .i64 d) ∧ w'.cell? ⟨w5.heap.size, 3, none⟩ = some (.int .i64 r) ∧ w'.cell? ⟨w5.heap.size, 4, none⟩ = some (.int .i64 p) ∧ w'.cell? ⟨w5.heap.size, 5, none⟩ = some (.int .i64 s) ∧ w'.cell? ⟨w5.heap.size, 6, none⟩ = some (.slice (some ⟨gX, 0, none⟩) k k) ∧ w'.cell? ⟨w5.heap.size, 7, none⟩ = some (.slice (some ⟨hX, 0, none⟩) m m) ∧ w'.cell? ⟨w5.heap.size, 8, none⟩ = some (.int .i64 t) ∧ Hid (Below w.heap.size w w' ∧ Rm.Room w' (w.heap.size) [.int .i64 n, .int .i64 l, .int .i64 d, .int .i64 r, .int .i64 p, .int .i64 s, .slice a k ka, .slice b m mb, .int .i64 t] ∧ Rm.Room w' (w4c.heap.size) [.int .i64 n, .int .i64 l, .int .i64 d, .int .i64 r, .int .i64 p, .int .i64 s, .slice (some ⟨gAk, 0, none⟩) k cAk, .slice (some ⟨gAo, 0, none⟩) m cAo, .int .i64 (Pl.QT n l d r p s k m ks os t ts nT)] ∧ Rm.Room w' (w5.heap.size) [.int .i64 n, .int .i64 l, .int .i64 d, .int .i64 r, .int .i64 p, .int .i64 s, .slice (some ⟨gX, 0, none⟩) k k, .slice (some ⟨hX, 0, none⟩) m m, .int .i64 t] ∧ Rm.Room w' (w8.heap.size) [.int .i64 n, .int .i64 l, .int .i64 d, .int .i64 r, .int .i64 p, .int .i64 s, .slice (some ⟨gGk, 0, none⟩) k cGk, .slice (some ⟨gGo, 0, none⟩) m cGo, .int .i64 (Pl.QT n l d r p s k m ks os t ts nT)] ∧ Ow.Has w' 0 gAk 0 k (Pl.QK n l d r p s k m ks os t ts nT) ∧ Ow.Has w' 0 gAo 0 m (Pl.QO n l d r p s k m ks os t ts nT) ∧ Ow.Has w' w4d.heap.size gX 0 k ks ∧ Ow.Has w' w4d.heap.size hX 0 m os ∧ Ow.Has w' 0 gGk 0 k (Pl.QK n l d r p s k m ks os t ts nT) ∧ Ow.Has w' 0 gGo 0 m (Pl.QO n l d r p s k m ks os t ts nT) ∧ Pl.TsAll w' w6.heap.size w5d.heap.size nT ts))) (by kernel_rfl) ⟨R0.cell 0 rfl, R0.cell 1 rfl, R0.cell 2 rfl, R0.cell 3 rfl, R0.cell 4 rfl, R0.cell 5 rfl, R0.cell 6 rfl, R0.cell 7 rfl, R0.cell 8 rfl, RX.cell 0 rfl, RX.cell 1 rfl, RX.cell 2 rfl, RX.cell 3 rfl, RX.cell 4 rfl, RX.cell 5 rfl, RX.cell 6 rfl, RX.cell 7 rfl, RX.cell 8 rfl, ⟨BB.drew, R0.drew, RA.drew, RX.drew, RG.drew, hAk.later (Below.refl _ _).drew hAk.2.2.1, hAo.later (Below.refl _ _).drew hAo.2.2.1, kX.later (Below.refl _ _).drew kX.2.2.1, oX.later (Below.refl _ _).drew oX.2.2.1, hGk.later (Below.refl _ _).drew hGk.2.2.1, hGo.later (Below.refl _ _).drew hGo.2.2.1, hY.later (Below.refl _ _).drew⟩⟩ (fun hHeld => ?_)
        refine Tk.W 0 (some 54) (.load 32 (.tmp 8)) 32 none ?_
        refine Tk.W 1 (some 55) (.load 26 (.tmp 2)) 26 none ?_
        refine Tk.R 2 (some 56) (.call ⟨.value (.func 7), #[.tmp 55], #[26]⟩) 32 none (fun K hK => ?_)
        go_simp
        refine (Wl.toWorld n l d r p s t a b k ka m mb ks os _ ((hr.later hHeld.2.2.2.2.2.2.2.2.2.2.2.2.2.2.2.2.2.2.out.1 (Nat.le_refl _)).more hHeld.2.2.2.2.2.2.2.2.2.2.2.2.2.2.2.2.2.2.out.1.size) ((hs.later hHeld.2.2.2.2.2.2.2.2.2.2.2.2.2.2.2.2.2.2.out.1 (Nat.le_refl _)).more hHeld.2.2.2.2.2.2.2.2.2.2.2.2.2.2.2.2.2.2.out.1.size) hk hm).mono ?_
        rintro e wN ⟨⟨gn, hn_, rfl, kN, oN, _⟩, b_ut3⟩
        have ⟨BB_ut3, R0_ut3, RA_ut3, RX_ut3, RG_ut3, hAk_ut3, hAo_ut3, kX_ut3, oX_ut3, hGk_ut3, hGo_ut3, hY_ut3⟩ := hHeld.2.2.2.2.2.2.2.2.2.2.2.2.2.2.2.2.2.2.out
        have BB2_ut3 := BB_ut3.trans (b_ut3.mono BB_ut3.size)
        have R02_ut3 := R0_ut3.below b_ut3
        have RA2_ut3 := RA_ut3.below b_ut3
        have RX2_ut3 := RX_ut3.below b_ut3
        have RG2_ut3 := RG_ut3.below b_ut3
        have hAk2_ut3 := hAk_ut3.later b_ut3 hAk_ut3.2.2.1
        have hAo2_ut3 := hAo_ut3.later b_ut3 hAo_ut3.2.2.1
        have kX2_ut3 := kX_ut3.later b_ut3 kX_ut3.2.2.1
        have oX2_ut3 := oX_ut3.later b_ut3 oX_ut3.2.2.1
        have hGk2_ut3 := hGk_ut3.later b_ut3 hGk_ut3.2.2.1
        have hGo2_ut3 := hGo_ut3.later b_ut3 hGo_ut3.2.2.1
        have hY2_ut3 := hY_ut3.later b_ut3
        have kvut3 := Tk.kv hK (w := wN) ⟨R02_ut3.cell 0 rfl, R02_ut3.cell 1 rfl, R02_ut3.cell 2 rfl, R02_ut3.cell 3 rfl, R02_ut3.cell 4 rfl, R02_ut3.cell 5 rfl, R02_ut3.cell 6 rfl, R02_ut3.cell 7 rfl, R02_ut3.cell 8 rfl, RX2_ut3.cell 0 rfl, RX2_ut3.cell 1 rfl, RX2_ut3.cell 2 rfl, RX2_ut3.cell 3 rfl, RX2_ut3.cell 4 rfl, RX2_ut3.cell 5 rfl, RX2_ut3.cell 6 rfl, RX2_ut3.cell 7 rfl, RX2_ut3.cell 8 rfl, ⟨BB2_ut3, R02_ut3, RA2_ut3, RX2_ut3, RG2_ut3, hAk2_ut3, hAo2_ut3, kX2_ut3, oX2_ut3, hGk2_ut3, hGo2_ut3, hY2_ut3⟩⟩
        have kNr := kN.row
        have oNr := oN.row
        have kXr := kX2_ut3.row
        have oXr := oX2_ut3.row
        clear BB_ut3 R0_ut3 RA_ut3 RX_ut3 RG_ut3 hAk_ut3 hAo_ut3 kX_ut3 oX_ut3 hGk_ut3 hGo_ut3 hY_ut3 BB2_ut3 R02_ut3 RA2_ut3 RX2_ut3 RG2_ut3 hAk2_ut3 hAo2_ut3 kX2_ut3 oX2_ut3 hGk2_ut3 hGo2_ut3 hY2_ut3
        try dsimp only
        refine hK.out _ _ kvut3 ?_; clear hK K hHeld; intro hHeld; try simp only [Act.put, List.setIfInBounds_toArray, List.set_cons_zero, List.set_cons_succ]
        refine Tk.R 3 (some 57) (.call ⟨.value (.func 10), #[.tmp 54, .tmp 56], #[32, 32]⟩) 4 none (fun K hK => ?_)
        go_simp
        refine (Wl.eqWorld n l d r p s t _ _ _ _ k _ _ m _ _ ks os _ kXr kNr oXr oNr hk hm).mono ?_
        rintro e wM ⟨rfl, b_ut4⟩
        have ⟨BB_ut4, R0_ut4, RA_ut4, RX_ut4, RG_ut4, hAk_ut4, hAo_ut4, kX_ut4, oX_ut4, hGk_ut4, hGo_ut4, hY_ut4⟩ := hHeld.2.2.2.2.2.2.2.2.2.2.2.2.2.2.2.2.2.2.out
        have BB2_ut4 := BB_ut4.trans (b_ut4.mono BB_ut4.size)
        have R02_ut4 := R0_ut4.below b_ut4
        have RA2_ut4 := RA_ut4.below b_ut4
        have RX2_ut4 := RX_ut4.below b_ut4
        have RG2_ut4 := RG_ut4.below b_ut4
        have hAk2_ut4 := hAk_ut4.later b_ut4 hAk_ut4.2.2.1
        have hAo2_ut4 := hAo_ut4.later b_ut4 hAo_ut4.2.2.1
        have kX2_ut4 := kX_ut4.later b_ut4 kX_ut4.2.2.1
        have oX2_ut4 := oX_ut4.later b_ut4 oX_ut4.2.2.1
        have hGk2_ut4 := hGk_ut4.later b_ut4 hGk_ut4.2.2.1
        have hGo2_ut4 := hGo_ut4.later b_ut4 hGo_ut4.2.2.1
        have hY2_ut4 := hY_ut4.later b_ut4
        have kvut4 := Tk.kv hK (w := wM) ⟨R02_ut4.cell 0 rfl, R02_ut4.cell 1 rfl, R02_ut4.cell 2 rfl, R02_ut4.cell 3 rfl, R02_ut4.cell 4 rfl, R02_ut4.cell 5 rfl, R02_ut4.cell 6 rfl, R02_ut4.cell 7 rfl, R02_ut4.cell 8 rfl, RX2_ut4.cell 0 rfl, RX2_ut4.cell 1 rfl, RX2_ut4.cell 2 rfl, RX2_ut4.cell 3 rfl, RX2_ut4.cell 4 rfl, RX2_ut4.cell 5 rfl, RX2_ut4.cell 6 rfl, RX2_ut4.cell 7 rfl, RX2_ut4.cell 8 rfl, ⟨BB2_ut4, R02_ut4, RA2_ut4, RX2_ut4, RG2_ut4, hAk2_ut4, hAo2_ut4, kX2_ut4, oX2_ut4, hGk2_ut4, hGo2_ut4, hY2_ut4⟩⟩
        clear BB_ut4 R0_ut4 RA_ut4 RX_ut4 RG_ut4 hAk_ut4 hAo_ut4 kX_ut4 oX_ut4 hGk_ut4 hGo_ut4 hY_ut4 BB2_ut4 R02_ut4 RA2_ut4 RX2_ut4 RG2_ut4 hAk2_ut4 hAo2_ut4 kX2_ut4 oX2_ut4 hGk2_ut4 hGo2_ut4 hY2_ut4
        try dsimp only
        refine hK.out _ _ kvut4 ?_; clear hK K hHeld; intro hHeld; try simp only [Act.put, List.setIfInBounds_toArray, List.set_cons_zero, List.set_cons_succ]
        refine Tk.W 4 (some 58) (.unOp .not 4 (.tmp 57)) 4 none ?_
        refine wpAnyH_done (by kernel_rfl) ?_ _
        refine NoPanic.normal ?_
        clear BB R0 RA RX RG hAk hAo kX oX hGk hGo hY
        obtain ⟨BB, R0, RA, RX, RG, hAk, hAo, kX, oX, hGk, hGo, hY⟩ := hHeld.2.2.2.2.2.2.2.2.2.2.2.2.2.2.2.2.2.2.out
        clear hHeld
        go_wp2_with fail
        refine (Pl.toTurnS aT nT cT ts _ (hT.below BB) hz).mono ?_
        rintro e w10 ⟨rfl, hN, bq⟩
        have z_bq10 := bq.size
        replace R0 := R0.below bq
        replace RA := RA.below bq
        replace RX := RX.below bq
        replace RG := RG.below bq
        replace hAk := hAk.later bq hAk.2.2.1
        replace hAo := hAo.later bq hAo.2.2.1
        replace kX := kX.later bq kX.2.2.1
        replace oX := oX.later bq oX.2.2.1
        replace hGk := hGk.later bq hGk.2.2.1
        replace hGo := hGo.later bq hGo.2.2.1
        replace hY := hY.later bq
        replace BB := BB.trans (bq.mono BB.size)
        clear bq
        go_wp2_with fail
        refine (Pl.eqTurnS _ _ nT nT nT ts _ (hY.at hlen.out) (hN.at hlen.out) hz).mono ?_
        rintro e w11 ⟨rfl, bq⟩
        have z_bq11 := bq.size
        replace R0 := R0.below bq
        replace RA := RA.below bq
        replace RX := RX.below bq
        replace RG := RG.below bq
        replace hAk := hAk.later bq hAk.2.2.1
        replace hAo := hAo.later bq hAo.2.2.1
        replace kX := kX.later bq kX.2.2.1
        replace oX := oX.later bq oX.2.2.1
        replace hGk := hGk.later bq hGk.2.2.1
        replace hGo := hGo.later bq hGo.2.2.1
        replace hY := hY.later bq
        replace hN := hN.later bq
        replace BB := BB.trans (bq.mono BB.size)
        clear bq
        clear hN
        have cRX0 := RX.cell 0 rfl
        have cRX1 := RX.cell 1 rfl
        have cRX2 := RX.cell 2 rfl
        have cRX3 := RX.cell 3 rfl
        have cRX4 := RX.cell 4 rfl
        have cRX5 := RX.cell 5 rfl
        have cRX6 := RX.cell 6 rfl
        have cRX7 := RX.cell 7 rfl
        have cRX8 := RX.cell 8 rfl
        have lRX := RX.lt (by simp)
        go_wp2_with fail
        clear cRX0 cRX1 cRX2 cRX3 cRX4 cRX5 cRX6 cRX7 cRX8 lRX
        refine (Wl.markWorld n l d r p s t w4d.heap.size gX 0 hX 0 k k m m ks os _ kX oX (by omega) hk hm).mono ?_
        rintro e wm ⟨rfl, mK, mO, xm, ym, bm, em, fm⟩
        clear mK mO
        have mm := (((Ss.Mid.of_below (B := w4d.heap.size) (C := w5.heap.size) bm).trans (Ss.Mid.of_grown em (by omega) (by omega))).trans (Ss.Mid.of_grown fm (by omega) (by omega)))
        clear bm em fm
        clear RX kX oX
        replace R0 := mm.room R0 (by simp) (by omega)
        replace RA := mm.room RA (by simp) (by omega)
        replace RG := mm.room RG (by simp) (by omega)
        replace hAk := mm.has hAk (by omega)
        replace hAo := mm.has hAo (by omega)
        replace hGk := mm.has hGk (by omega)
        replace hGo := mm.has hGo (by omega)
        replace hY := hY.mid mm (by omega)
        have z12 := mm.size
        replace BB := BB.trans (mm.below (by omega) BB.size)
        clear mm
        go_wp2_with fail
        refine (Pl.markAll (1 + (k : Int) + (m : Int)) w6.heap.size w5d.heap.size nT nT ts _ hY hz (by omega) (by omega)).mono ?_
        rintro e wn ⟨⟨xk, rfl, hxk⟩, mt⟩
        clear hY
        replace R0 := mt.room R0 (by simp) (by omega)
        replace RA := mt.room RA (by simp) (by omega)
        replace RG := mt.room RG (by simp) (by omega)
        replace hAk := mt.has hAk (by omega)
        replace hAo := mt.has hAo (by omega)
        replace hGk := mt.has hGk (by omega)
        replace hGo := mt.has hGo (by omega)
        have z13 := mt.size
        replace BB := BB.trans (mt.below (by omega) BB.size)
        clear mt
        have hxk2 : decide (xk < 0) = false := by simp; omega
        have cRG0 := RG.cell 0 rfl
        have cRG1 := RG.cell 1 rfl
        have cRG2 := RG.cell 2 rfl
        have cRG3 := RG.cell 3 rfl
        have cRG4 := RG.cell 4 rfl
        have cRG5 := RG.cell 5 rfl
        have cRG6 := RG.cell 6 rfl
        have cRG7 := RG.cell 7 rfl
        have cRG8 := RG.cell 8 rfl
        have lRG := RG.lt (by simp)
        have cRA0 := RA.cell 0 rfl
        have cRA1 := RA.cell 1 rfl
        have cRA2 := RA.cell 2 rfl
        have cRA3 := RA.cell 3 rfl
        have cRA4 := RA.cell 4 rfl
        have cRA5 := RA.cell 5 rfl
        have cRA6 := RA.cell 6 rfl
        have cRA7 := RA.cell 7 rfl
        have cRA8 := RA.cell 8 rfl
        have lRA := RA.lt (by simp)
        go_wp2_with fail
        clear cRG0 cRG1 cRG2 cRG3 cRG4 cRG5 cRG6 cRG7 cRG8 lRG cRA0 cRA1 cRA2 cRA3 cRA4 cRA5 cRA6 cRA7 cRA8 lRA
        refine (Wl.eqWorld n l d r p s (Pl.QT n l d r p s k m ks os t ts nT) _ _ _ _ k _ _ m _ _ (Pl.QK n l d r p s k m ks os t ts nT) (Pl.QO n l d r p s k m ks os t ts nT) _ hGk.row hAk.row hGo.row hAo.row hk hm).mono ?_
        rintro e wo ⟨rfl, bq⟩
        have z_bq14 := bq.size
        replace R0 := R0.below bq
        replace RA := RA.below bq
        replace RG := RG.below bq
        replace hAk := hAk.later bq hAk.2.2.1
        replace hAo := hAo.later bq hAo.2.2.1
        replace hGk := hGk.later bq hGk.2.2.1
        replace hGo := hGo.later bq hGo.2.2.1
        replace BB := BB.trans (bq.mono BB.size)
        clear bq
        have hx1c : decide ((1 : Int) + (k : Int) + (m : Int) < 0) = false := by simp; omega
        have cRG0 := RG.cell 0 rfl
        have cRG1 := RG.cell 1 rfl
        have cRG2 := RG.cell 2 rfl
        have cRG3 := RG.cell 3 rfl
        have cRG4 := RG.cell 4 rfl
        have cRG5 := RG.cell 5 rfl
        have cRG6 := RG.cell 6 rfl
        have cRG7 := RG.cell 7 rfl
        have cRG8 := RG.cell 8 rfl
        have lRG := RG.lt (by simp)
        go_wp2_with fail
        clear cRG0 cRG1 cRG2 cRG3 cRG4 cRG5 cRG6 cRG7 cRG8 lRG
        refine (Wl.markWorld n l d r p s (Pl.QT n l d r p s k m ks os t ts nT) 0 gGk 0 gGo 0 k cGk m cGo (Pl.QK n l d r p s k m ks os t ts nT) (Pl.QO n l d r p s k m ks os t ts nT) _ hGk hGo neG hk hm).mono ?_
        rintro e wg ⟨rfl, mGk, mGo, xg, yg, bg, eg, fg⟩
        have mm := (((Ss.Mid.of_below (B := w6.heap.size) (C := w8.heap.size) bg).trans (Ss.Mid.of_grown eg (by omega) (by omega))).trans (Ss.Mid.of_grown fg (by omega) (by omega)))
        clear bg eg fg
        clear hGk hGo
        replace R0 := mm.room R0 (by simp) (by omega)
        replace RA := mm.room RA (by simp) (by omega)
        replace RG := mm.room RG (by simp) (by omega)
        replace hAk := mm.has hAk (by omega)
        replace hAo := mm.has hAo (by omega)
        have z15 := mm.size
        replace BB := BB.trans (mm.below (by omega) BB.size)
        clear mm
        have cRG0 := RG.cell 0 rfl
        have cRG1 := RG.cell 1 rfl
        have cRG2 := RG.cell 2 rfl
        have cRG3 := RG.cell 3 rfl
        have cRG4 := RG.cell 4 rfl
        have cRG5 := RG.cell 5 rfl
        have cRG6 := RG.cell 6 rfl
        have cRG7 := RG.cell 7 rfl
        have cRG8 := RG.cell 8 rfl
        have lRG := RG.lt (by simp)
        go_wp2_with fail
        clear cRG0 cRG1 cRG2 cRG3 cRG4 cRG5 cRG6 cRG7 cRG8 lRG
        refine (Wl.heldWorld n l d r p s (Pl.QT n l d r p s k m ks os t ts nT) _ gGk 0 gGo 0 k _ m _ _ mGk mGo hk hm).mono ?_
        rintro e wh ⟨rfl, bq⟩
        have z_bq16 := bq.size
        replace R0 := R0.below bq
        replace RA := RA.below bq
        replace RG := RG.below bq
        replace hAk := hAk.later bq hAk.2.2.1
        replace hAo := hAo.later bq hAo.2.2.1
        replace mGk := mGk.later bq mGk.2.2.1
        replace mGo := mGo.later bq mGo.2.2.1
        replace BB := BB.trans (bq.mono BB.size)
        clear bq
        have cR00 := R0.cell 0 rfl
        have cR01 := R0.cell 1 rfl
        have cR02 := R0.cell 2 rfl
        have cR03 := R0.cell 3 rfl
        have cR04 := R0.cell 4 rfl
        have cR05 := R0.cell 5 rfl
        have cR06 := R0.cell 6 rfl
        have cR07 := R0.cell 7 rfl
        have cR08 := R0.cell 8 rfl
        have lR0 := R0.lt (by simp)
        go_wp2_with fail
        clear cR00 cR01 cR02 cR03 cR04 cR05 cR06 cR07 cR08 lR0
        refine (Wl.toWorld n l d r p s t a b k ka m mb ks os _ ((hr.later BB (Nat.le_refl _)).more BB.size) ((hs.later BB (Nat.le_refl _)).more BB.size) hk hm).mono ?_
        rintro e w9a ⟨⟨gk, go, rfl, kK, kO, gkgo⟩, bq⟩
        have z_bq17 := bq.size
        replace R0 := R0.below bq
        replace RA := RA.below bq
        replace RG := RG.below bq
        replace hAk := hAk.later bq hAk.2.2.1
        replace hAo := hAo.later bq hAo.2.2.1
        replace mGk := mGk.later bq mGk.2.2.1
        replace mGo := mGo.later bq mGo.2.2.1
        replace BB := BB.trans (bq.mono BB.size)
        clear bq
        go_wp2_with fail
        refine (Pl.toTurnS aT nT cT ts _ (hT.below BB) hz).mono ?_
        rintro e w9b ⟨rfl, hA, bq⟩
        have z_bq18 := bq.size
        replace R0 := R0.below bq
        replace RA := RA.below bq
        replace RG := RG.below bq
        replace hAk := hAk.later bq hAk.2.2.1
        replace hAo := hAo.later bq hAo.2.2.1
        replace mGk := mGk.later bq mGk.2.2.1
        replace mGo := mGo.later bq mGo.2.2.1
        replace kK := kK.later bq kK.2.2.1
        replace kO := kO.later bq kO.2.2.1
        replace BB := BB.trans (bq.mono BB.size)
        clear bq
        go_wp2_with fail
        refine (Pl.i_q n l d r p s t _ _ k k m m ks os _ nT nT ts _ kK.row kO.row hk hm (hA.at hlen.out) hn hOk.out HQ.out).mono ?_
        rintro e w9c ⟨⟨gHk, cHk, gHo, cHo, rfl, hHk, hHo, neH, lkH, loH⟩, bq⟩
        have z_bq19 := bq.size
        replace R0 := R0.below bq
        replace RA := RA.below bq
        replace RG := RG.below bq
        replace hAk := hAk.later bq hAk.2.2.1
        replace hAo := hAo.later bq hAo.2.2.1
        replace mGk := mGk.later bq mGk.2.2.1
        replace mGo := mGo.later bq mGo.2.2.1
        replace kK := kK.later bq kK.2.2.1
        replace kO := kO.later bq kO.2.2.1
        replace hA := hA.later bq
        replace BB := BB.trans (bq.mono BB.size)
        clear bq
        clear kK kO hA
        have hi1H := hHk.2.2.1
        have hi2H := hHo.2.2.1
        have cRA0 := RA.cell 0 rfl
        have cRA1 := RA.cell 1 rfl
        have cRA2 := RA.cell 2 rfl
        have cRA3 := RA.cell 3 rfl
        have cRA4 := RA.cell 4 rfl
        have cRA5 := RA.cell 5 rfl
        have cRA6 := RA.cell 6 rfl
        have cRA7 := RA.cell 7 rfl
        have cRA8 := RA.cell 8 rfl
        have lRA := RA.lt (by simp)
        go_wp2_with fail
        clear cRA0 cRA1 cRA2 cRA3 cRA4 cRA5 cRA6 cRA7 cRA8 lRA
        have bn : Below w9c.heap.size w9c (w9c.alloc (.cells #[.int .i64 n, .int .i64 l, .int .i64 d, .int .i64 r, .int .i64 p, .int .i64 s, .slice (some ⟨gHk, 0, none⟩) k cHk, .slice (some ⟨gHo, 0, none⟩) m cHo, .int .i64 (Pl.QT n l d r p s k m ks os t ts nT)] 32)) := (Below.refl _ w9c).alloc (Nat.le_refl _) _
        have RH := Rm.Room.new w9c [.int .i64 n, .int .i64 l, .int .i64 d, .int .i64 r, .int .i64 p, .int .i64 s, .slice (some ⟨gHk, 0, none⟩) k cHk, .slice (some ⟨gHo, 0, none⟩) m cHo, .int .i64 (Pl.QT n l d r p s k m ks os t ts nT)] 32
        have zn21 := bn.size
        have loRH := RH.lt (by simp)
        replace R0 := R0.below bn
        replace RA := RA.below bn
        replace RG := RG.below bn
        replace hAk := hAk.later bn hAk.2.2.1
        replace hAo := hAo.later bn hAo.2.2.1
        replace mGk := mGk.later bn mGk.2.2.1
        replace mGo := mGo.later bn mGo.2.2.1
        replace hHk := hHk.later bn hHk.2.2.1
        replace hHo := hHo.later bn hHo.2.2.1
        replace BB := BB.trans (bn.mono BB.size)
        clear bn
        generalize (w9c.alloc (.cells #[.int .i64 n, .int .i64 l, .int .i64 d, .int .i64 r, .int .i64 p, .int .i64 s, .slice (some ⟨gHk, 0, none⟩) k cHk, .slice (some ⟨gHo, 0, none⟩) m cHo, .int .i64 (Pl.QT n l d r p s k m ks os t ts nT)] 32)) = w9d at R0 RA RG RH hAk hAo mGk mGo hHk hHo BB zn21 loRH ⊢
        refine (Wl.eqWorld n l d r p s (Pl.QT n l d r p s k m ks os t ts nT) _ _ _ _ k _ _ m _ _ (Pl.QK n l d r p s k m ks os t ts nT) (Pl.QO n l d r p s k m ks os t ts nT) _ hHk.row hAk.row hHo.row hAo.row hk hm).mono ?_
        rintro e wy ⟨rfl, bq⟩
        have z_bq21 := bq.size
        replace R0 := R0.below bq
        replace RA := RA.below bq
        replace RG := RG.below bq
        replace RH := RH.below bq
        replace hAk := hAk.later bq hAk.2.2.1
        replace hAo := hAo.later bq hAo.2.2.1
        replace mGk := mGk.later bq mGk.2.2.1
        replace mGo := mGo.later bq mGo.2.2.1
        replace hHk := hHk.later bq hHk.2.2.1
        replace hHo := hHo.later bq hHo.2.2.1
        replace BB := BB.trans (bq.mono BB.size)
        clear bq
        have cRG0 := RG.cell 0 rfl
        have cRG1 := RG.cell 1 rfl
        have cRG2 := RG.cell 2 rfl
        have cRG3 := RG.cell 3 rfl
        have cRG4 := RG.cell 4 rfl
        have cRG5 := RG.cell 5 rfl
        have cRG6 := RG.cell 6 rfl
        have cRG7 := RG.cell 7 rfl
        have cRG8 := RG.cell 8 rfl
        have lRG := RG.lt (by simp)
        go_wp2_with fail
        clear cRG0 cRG1 cRG2 cRG3 cRG4 cRG5 cRG6 cRG7 cRG8 lRG
        refine (Wl.heldWorld n l d r p s (Pl.QT n l d r p s k m ks os t ts nT) _ gGk 0 gGo 0 k _ m _ _ mGk mGo hk hm).mono ?_
        rintro e wz ⟨rfl, bq⟩
        have z_bq22 := bq.size
        replace R0 := R0.below bq
        replace RA := RA.below bq
        replace RG := RG.below bq
        replace RH := RH.below bq
        replace hAk := hAk.later bq hAk.2.2.1
        replace hAo := hAo.later bq hAo.2.2.1
        replace mGk := mGk.later bq mGk.2.2.1
        replace mGo := mGo.later bq mGo.2.2.1
        replace hHk := hHk.later bq hHk.2.2.1
        replace hHo := hHo.later bq hHo.2.2.1
        replace BB := BB.trans (bq.mono BB.size)
        clear bq
        go_wp2
        go_ret
        exact ⟨rfl, BB⟩
      · have HQ : Hid (¬ (Wl.WO n l d r p s ks k os m t = true ∧ nT ≤ 200)) := hq
        clear hq
        have lp0 := R0.lt (by simp)
        have cR00 := R0.cell 0 rfl
        have cR01 := R0.cell 1 rfl
        have cR02 := R0.cell 2 rfl
        have cR03 := R0.cell 3 rfl
        have cR04 := R0.cell 4 rfl
        have cR05 := R0.cell 5 rfl
        have cR06 := R0.cell 6 rfl
        have cR07 := R0.cell 7 rfl
        have cR08 := R0.cell 8 rfl
        have lR0 := R0.lt (by simp)
        go_wp2_with fail
        clear cR00 cR01 cR02 cR03 cR04 cR05 cR06 cR07 cR08 lR0
        refine (Wl.toWorld n l d r p s t a b k ka m mb ks os _ ((hr.later BB (Nat.le_refl _)).more BB.size) ((hs.later BB (Nat.le_refl _)).more BB.size) hk hm).mono ?_
        rintro e w4a ⟨⟨gk, go, rfl, kK, kO, gkgo⟩, bq⟩
        have z_bq0 := bq.size
        replace R0 := R0.below bq
        replace BB := BB.trans (bq.mono BB.size)
        clear bq
        go_wp2_with fail
        refine (Pl.toTurnS aT nT cT ts _ (hT.below BB) hz).mono ?_
        rintro e w4b ⟨rfl, hA, bq⟩
        have z_bq1 := bq.size
        replace R0 := R0.below bq
        replace kK := kK.later bq kK.2.2.1
        replace kO := kO.later bq kO.2.2.1
        replace BB := BB.trans (bq.mono BB.size)
        clear bq
        go_wp2_with fail
        refine (Pl.s_Played_no n l d r p s t _ _ k k m m ks os _ nT nT ts _ kK.row kO.row hk hm (hA.at hlen.out) hn hOk.out (Pl.q_no HQ.out)).mono ?_
        rintro e w4c ⟨rfl, bq⟩
        have z_bq2 := bq.size
        replace R0 := R0.below bq
        replace kK := kK.later bq kK.2.2.1
        replace kO := kO.later bq kO.2.2.1
        replace hA := hA.later bq
        replace BB := BB.trans (bq.mono BB.size)
        clear bq
        clear kK kO hA
        have cR00 := R0.cell 0 rfl
        have cR01 := R0.cell 1 rfl
        have cR02 := R0.cell 2 rfl
        have cR03 := R0.cell 3 rfl
        have cR04 := R0.cell 4 rfl
        have cR05 := R0.cell 5 rfl
        have cR06 := R0.cell 6 rfl
        have cR07 := R0.cell 7 rfl
        have cR08 := R0.cell 8 rfl
        have lR0 := R0.lt (by simp)
        go_wp2_with fail
        clear cR00 cR01 cR02 cR03 cR04 cR05 cR06 cR07 cR08 lR0
        have bn : Below w4c.heap.size w4c (w4c.alloc (.cells #[.int .i64 0, .int .i64 0, .int .i64 0, .int .i64 0, .int .i64 0, .int .i64 0, .slice none 0 0, .slice none 0 0, .int .i64 0] 32)) := (Below.refl _ w4c).alloc (Nat.le_refl _) _
        have RA := Rm.Room.new w4c [.int .i64 0, .int .i64 0, .int .i64 0, .int .i64 0, .int .i64 0, .int .i64 0, .slice none 0 0, .slice none 0 0, .int .i64 0] 32
        have zn4 := bn.size
        have loRA := RA.lt (by simp)
        replace R0 := R0.below bn
        replace BB := BB.trans (bn.mono BB.size)
        clear bn
        generalize (w4c.alloc (.cells #[.int .i64 0, .int .i64 0, .int .i64 0, .int .i64 0, .int .i64 0, .int .i64 0, .slice none 0 0, .slice none 0 0, .int .i64 0] 32)) = w4d at R0 RA BB zn4 loRA ⊢
        have hdq := (rfl : w4d = w4d)
        clear hdq
        refine (Wl.toWorld n l d r p s t a b k ka m mb ks os _ ((hr.later BB (Nat.le_refl _)).more BB.size) ((hs.later BB (Nat.le_refl _)).more BB.size) hk hm).mono ?_
        rintro e w5 ⟨⟨gX, hX, rfl, kX, oX, gXh⟩, bq⟩
        have z_bq4 := bq.size
        replace R0 := R0.below bq
        replace RA := RA.below bq
        replace BB := BB.trans (bq.mono BB.size)
        clear bq
        have loK := kX.2.1
        have hiK := kX.2.2.1
        have loO := oX.2.1
        have hiO := oX.2.2.1
        go_wp2_with fail
        have bn : Below w5.heap.size w5 (w5.alloc (.cells #[.int .i64 n, .int .i64 l, .int .i64 d, .int .i64 r, .int .i64 p, .int .i64 s, .slice (some ⟨gX, 0, none⟩) k k, .slice (some ⟨hX, 0, none⟩) m m, .int .i64 t] 32)) := (Below.refl _ w5).alloc (Nat.le_refl _) _
        have RX := Rm.Room.new w5 [.int .i64 n, .int .i64 l, .int .i64 d, .int .i64 r, .int .i64 p, .int .i64 s, .slice (some ⟨gX, 0, none⟩) k k, .slice (some ⟨hX, 0, none⟩) m m, .int .i64 t] 32
        have zn6 := bn.size
        have loRX := RX.lt (by simp)
        replace R0 := R0.below bn
        replace RA := RA.below bn
        replace kX := kX.later bn kX.2.2.1
        replace oX := oX.later bn oX.2.2.1
        replace BB := BB.trans (bn.mono BB.size)
        clear bn
        generalize (w5.alloc (.cells #[.int .i64 n, .int .i64 l, .int .i64 d, .int .i64 r, .int .i64 p, .int .i64 s, .slice (some ⟨gX, 0, none⟩) k k, .slice (some ⟨hX, 0, none⟩) m m, .int .i64 t] 32)) = w5d at R0 RA RX kX oX BB zn6 loRX ⊢
        refine (Pl.toTurnS aT nT cT ts _ (hT.below BB) hz).mono ?_
        rintro e w6 ⟨rfl, hY, bq⟩
        have z_bq6 := bq.size
        replace R0 := R0.below bq
        replace RA := RA.below bq
        replace RX := RX.below bq
        replace kX := kX.later bq kX.2.2.1
        replace oX := oX.later bq oX.2.2.1
        replace BB := BB.trans (bq.mono BB.size)
        clear bq
        have hYl := hY.lt
        have cRX0 := RX.cell 0 rfl
        have cRX1 := RX.cell 1 rfl
        have cRX2 := RX.cell 2 rfl
        have cRX3 := RX.cell 3 rfl
        have cRX4 := RX.cell 4 rfl
        have cRX5 := RX.cell 5 rfl
        have cRX6 := RX.cell 6 rfl
        have cRX7 := RX.cell 7 rfl
        have cRX8 := RX.cell 8 rfl
        have lRX := RX.lt (by simp)
        go_wp2_with fail
        clear cRX0 cRX1 cRX2 cRX3 cRX4 cRX5 cRX6 cRX7 cRX8 lRX
        refine (Pl.i_Played_no n l d r p s t _ _ k k m m ks os _ nT nT ts _ kX.row oX.row hk hm (hY.at hlen.out) hn hOk.out (Pl.q_no HQ.out)).mono ?_
        rintro e w8 ⟨rfl, bq⟩
        have z_bq7 := bq.size
        replace R0 := R0.below bq
        replace RA := RA.below bq
        replace RX := RX.below bq
        replace kX := kX.later bq kX.2.2.1
        replace oX := oX.later bq oX.2.2.1
        replace hY := hY.later bq
        replace BB := BB.trans (bq.mono BB.size)
        clear bq
        have cRA0 := RA.cell 0 rfl
        have cRA1 := RA.cell 1 rfl
        have cRA2 := RA.cell 2 rfl
        have cRA3 := RA.cell 3 rfl
        have cRA4 := RA.cell 4 rfl
        have cRA5 := RA.cell 5 rfl
        have cRA6 := RA.cell 6 rfl
        have cRA7 := RA.cell 7 rfl
        have cRA8 := RA.cell 8 rfl
        have lRA := RA.lt (by simp)
        go_wp2_with fail
        clear cRA0 cRA1 cRA2 cRA3 cRA4 cRA5 cRA6 cRA7 cRA8 lRA
        have bn : Below w8.heap.size w8 (w8.alloc (.cells #[.int .i64 0, .int .i64 0, .int .i64 0, .int .i64 0, .int .i64 0, .int .i64 0, .slice none 0 0, .slice none 0 0, .int .i64 0] 32)) := (Below.refl _ w8).alloc (Nat.le_refl _) _
        have RG := Rm.Room.new w8 [.int .i64 0, .int .i64 0, .int .i64 0, .int .i64 0, .int .i64 0, .int .i64 0, .slice none 0 0, .slice none 0 0, .int .i64 0] 32
        have zn9 := bn.size
        have loRG := RG.lt (by simp)
        replace R0 := R0.below bn
        replace RA := RA.below bn
        replace RX := RX.below bn
        replace kX := kX.later bn kX.2.2.1
        replace oX := oX.later bn oX.2.2.1
        replace hY := hY.later bn
        replace BB := BB.trans (bn.mono BB.size)
        clear bn
        generalize (w8.alloc (.cells #[.int .i64 0, .int .i64 0, .int .i64 0, .int .i64 0, .int .i64 0, .int .i64 0, .slice none 0 0, .slice none 0 0, .int .i64 0] 32)) = w8d at R0 RA RX RG kX oX hY BB zn9 loRG ⊢
        refine (Wl.eqWorld 0 0 0 0 0 0 0 none none none none 0 0 0 0 0 0 [] [] _ ⟨rfl, .inl rfl⟩ ⟨rfl, .inl rfl⟩ ⟨rfl, .inl rfl⟩ ⟨rfl, .inl rfl⟩ (by omega) (by omega)).mono ?_
        rintro e w9 ⟨rfl, bq⟩
        have z_bq9 := bq.size
        replace R0 := R0.below bq
        replace RA := RA.below bq
        replace RX := RX.below bq
        replace RG := RG.below bq
        replace kX := kX.later bq kX.2.2.1
        replace oX := oX.later bq oX.2.2.1
        replace hY := hY.later bq
        replace BB := BB.trans (bq.mono BB.size)
        clear bq
        have cR00 := R0.cell 0 rfl
        have cR01 := R0.cell 1 rfl
        have cR02 := R0.cell 2 rfl
        have cR03 := R0.cell 3 rfl
        have cR04 := R0.cell 4 rfl
        have cR05 := R0.cell 5 rfl
        have cR06 := R0.cell 6 rfl
        have cR07 := R0.cell 7 rfl
        have cR08 := R0.cell 8 rfl
        have lR0 := R0.lt (by simp)
        have cRX0 := RX.cell 0 rfl
        have cRX1 := RX.cell 1 rfl
        have cRX2 := RX.cell 2 rfl
        have cRX3 := RX.cell 3 rfl
        have cRX4 := RX.cell 4 rfl
        have cRX5 := RX.cell 5 rfl
        have cRX6 := RX.cell 6 rfl
        have cRX7 := RX.cell 7 rfl
        have cRX8 := RX.cell 8 rfl
        have lRX := RX.lt (by simp)
        go_wp2_with fail
        clear cR00 cR01 cR02 cR03 cR04 cR05 cR06 cR07 cR08 lR0 cRX0 cRX1 cRX2 cRX3 cRX4 cRX5 cRX6 cRX7 cRX8 lRX
        refine wp_region_noPanic ?_
        refine wp_region_held_drew (S := (fun w' => w'.cell? ⟨w.heap.size, 0, none⟩ = some (.int .i64 n) ∧ w'.cell? ⟨w.heap.size, 1, none⟩ = some (.int .i64 l) ∧ w'.cell? ⟨w.heap.size, 2, none⟩ = some (.int .i64 d) ∧ w'.cell? ⟨w.heap.size, 3, none⟩ = some (.int .i64 r) ∧ w'.cell? ⟨w.heap.size, 4, none⟩ = some (.int .i64 p) ∧ w'.cell? ⟨w.heap.size, 5, none⟩ = some (.int .i64 s) ∧ w'.cell? ⟨w.heap.size, 6, none⟩ = some (.slice a k ka) ∧ w'.cell? ⟨w.heap.size, 7, none⟩ = some (.slice b m mb) ∧ w'.cell? ⟨w.heap.size, 8, none⟩ = some (.int .i64 t) ∧ w'.cell? ⟨w5.heap.size, 0, none⟩ = some (.int .i64 n) ∧ w'.cell? ⟨w5.heap.size, 1, none⟩ = some (.int .i64 l) ∧ w'.cell? ⟨w5.heap.size, 2, none⟩ = some (.int .i64 d) ∧ w'.cell? ⟨w5.heap.size, 3, none⟩ = some (.int .i64 r) ∧ w'.cell? ⟨w5.heap.size, 4, none⟩ = some (.int .i64 p) ∧ w'.cell? ⟨w5.heap.size, 5, none⟩ = some (.int .i64 s) ∧ w'.cell? ⟨w5.heap.size, 6, none⟩ = some (.slice (some ⟨gX, 0, none⟩) k k) ∧ w'.cell? ⟨w5.heap.size, 7, none⟩ = some (.slice (some ⟨hX, 0, none⟩) m m) ∧ w'.cell? ⟨w5.heap.size, 8, none⟩ = some (.int .i64 t) ∧ Hid (Below w.heap.size w w' ∧ Rm.Room w' (w.heap.size) [.int .i64 n, .int .i64 l, .int .i64 d, .int .i64 r, .int .i64 p, .int .i64 s, .slice a k ka, .slice b m mb, .int .i64 t] ∧ Rm.Room w' (w4c.heap.size) [.int .i64 0, .int .i64 0, .int .i64 0, .int .i64 0, .int .i64 0, .int .i64 0, .slice none 0 0, .slice none 0 0, .int .i64 0] ∧ Rm.Room w' (w5.heap.size) [.int .i64 n, .int .i64 l, .int .i64 d, .int .i64 r, .int .i64 p, .int .i64 s, .slice (some ⟨gX, 0, none⟩) k k, .slice (some ⟨hX, 0, none⟩) m m, .int .i64 t] ∧ Rm.Room w' (w8.heap.size) [.int .i64 0, .int .i64 0, .int .i64 0, .int .i64 0, .int .i64 0, .int .i64 0, .slice none 0 0, .slice none 0 0, .int .i64 0] ∧ Ow.Has w' w4d.heap.size gX 0 k ks ∧ Ow.Has w' w4d.heap.size hX 0 m os ∧ Pl.TsAll w' w6.heap.size w5d.heap.size nT ts))) (by kernel_rfl) ⟨R0.cell 0 rfl, R0.cell 1 rfl, R0.cell 2 rfl, R0.cell 3 rfl, R0.cell 4 rfl, R0.cell 5 rfl, R0.cell 6 rfl, R0.cell 7 rfl, R0.cell 8 rfl, RX.cell 0 rfl, RX.cell 1 rfl, RX.cell 2 rfl, RX.cell 3 rfl, RX.cell 4 rfl, RX.cell 5 rfl, RX.cell 6 rfl, RX.cell 7 rfl, RX.cell 8 rfl, ⟨BB.drew, R0.drew, RA.drew, RX.drew, RG.drew, kX.later (Below.refl _ _).drew kX.2.2.1, oX.later (Below.refl _ _).drew oX.2.2.1, hY.later (Below.refl _ _).drew⟩⟩ (fun hHeld => ?_)
        refine Tk.W 0 (some 54) (.load 32 (.tmp 8)) 32 none ?_
        refine Tk.W 1 (some 55) (.load 26 (.tmp 2)) 26 none ?_
        refine Tk.R 2 (some 56) (.call ⟨.value (.func 7), #[.tmp 55], #[26]⟩) 32 none (fun K hK => ?_)
        go_simp
        refine (Wl.toWorld n l d r p s t a b k ka m mb ks os _ ((hr.later hHeld.2.2.2.2.2.2.2.2.2.2.2.2.2.2.2.2.2.2.out.1 (Nat.le_refl _)).more hHeld.2.2.2.2.2.2.2.2.2.2.2.2.2.2.2.2.2.2.out.1.size) ((hs.later hHeld.2.2.2.2.2.2.2.2.2.2.2.2.2.2.2.2.2.2.out.1 (Nat.le_refl _)).more hHeld.2.2.2.2.2.2.2.2.2.2.2.2.2.2.2.2.2.2.out.1.size) hk hm).mono ?_
        rintro e wN ⟨⟨gn, hn_, rfl, kN, oN, _⟩, b_uf3⟩
        have ⟨BB_uf3, R0_uf3, RA_uf3, RX_uf3, RG_uf3, kX_uf3, oX_uf3, hY_uf3⟩ := hHeld.2.2.2.2.2.2.2.2.2.2.2.2.2.2.2.2.2.2.out
        have BB2_uf3 := BB_uf3.trans (b_uf3.mono BB_uf3.size)
        have R02_uf3 := R0_uf3.below b_uf3
        have RA2_uf3 := RA_uf3.below b_uf3
        have RX2_uf3 := RX_uf3.below b_uf3
        have RG2_uf3 := RG_uf3.below b_uf3
        have kX2_uf3 := kX_uf3.later b_uf3 kX_uf3.2.2.1
        have oX2_uf3 := oX_uf3.later b_uf3 oX_uf3.2.2.1
        have hY2_uf3 := hY_uf3.later b_uf3
        have kvuf3 := Tk.kv hK (w := wN) ⟨R02_uf3.cell 0 rfl, R02_uf3.cell 1 rfl, R02_uf3.cell 2 rfl, R02_uf3.cell 3 rfl, R02_uf3.cell 4 rfl, R02_uf3.cell 5 rfl, R02_uf3.cell 6 rfl, R02_uf3.cell 7 rfl, R02_uf3.cell 8 rfl, RX2_uf3.cell 0 rfl, RX2_uf3.cell 1 rfl, RX2_uf3.cell 2 rfl, RX2_uf3.cell 3 rfl, RX2_uf3.cell 4 rfl, RX2_uf3.cell 5 rfl, RX2_uf3.cell 6 rfl, RX2_uf3.cell 7 rfl, RX2_uf3.cell 8 rfl, ⟨BB2_uf3, R02_uf3, RA2_uf3, RX2_uf3, RG2_uf3, kX2_uf3, oX2_uf3, hY2_uf3⟩⟩
        have kNr := kN.row
        have oNr := oN.row
        have kXr := kX2_uf3.row
        have oXr := oX2_uf3.row
        clear BB_uf3 R0_uf3 RA_uf3 RX_uf3 RG_uf3 kX_uf3 oX_uf3 hY_uf3 BB2_uf3 R02_uf3 RA2_uf3 RX2_uf3 RG2_uf3 kX2_uf3 oX2_uf3 hY2_uf3
        try dsimp only
        refine hK.out _ _ kvuf3 ?_; clear hK K hHeld; intro hHeld; try simp only [Act.put, List.setIfInBounds_toArray, List.set_cons_zero, List.set_cons_succ]
        refine Tk.R 3 (some 57) (.call ⟨.value (.func 10), #[.tmp 54, .tmp 56], #[32, 32]⟩) 4 none (fun K hK => ?_)
        go_simp
        refine (Wl.eqWorld n l d r p s t _ _ _ _ k _ _ m _ _ ks os _ kXr kNr oXr oNr hk hm).mono ?_
        rintro e wM ⟨rfl, b_uf4⟩
        have ⟨BB_uf4, R0_uf4, RA_uf4, RX_uf4, RG_uf4, kX_uf4, oX_uf4, hY_uf4⟩ := hHeld.2.2.2.2.2.2.2.2.2.2.2.2.2.2.2.2.2.2.out
        have BB2_uf4 := BB_uf4.trans (b_uf4.mono BB_uf4.size)
        have R02_uf4 := R0_uf4.below b_uf4
        have RA2_uf4 := RA_uf4.below b_uf4
        have RX2_uf4 := RX_uf4.below b_uf4
        have RG2_uf4 := RG_uf4.below b_uf4
        have kX2_uf4 := kX_uf4.later b_uf4 kX_uf4.2.2.1
        have oX2_uf4 := oX_uf4.later b_uf4 oX_uf4.2.2.1
        have hY2_uf4 := hY_uf4.later b_uf4
        have kvuf4 := Tk.kv hK (w := wM) ⟨R02_uf4.cell 0 rfl, R02_uf4.cell 1 rfl, R02_uf4.cell 2 rfl, R02_uf4.cell 3 rfl, R02_uf4.cell 4 rfl, R02_uf4.cell 5 rfl, R02_uf4.cell 6 rfl, R02_uf4.cell 7 rfl, R02_uf4.cell 8 rfl, RX2_uf4.cell 0 rfl, RX2_uf4.cell 1 rfl, RX2_uf4.cell 2 rfl, RX2_uf4.cell 3 rfl, RX2_uf4.cell 4 rfl, RX2_uf4.cell 5 rfl, RX2_uf4.cell 6 rfl, RX2_uf4.cell 7 rfl, RX2_uf4.cell 8 rfl, ⟨BB2_uf4, R02_uf4, RA2_uf4, RX2_uf4, RG2_uf4, kX2_uf4, oX2_uf4, hY2_uf4⟩⟩
        clear BB_uf4 R0_uf4 RA_uf4 RX_uf4 RG_uf4 kX_uf4 oX_uf4 hY_uf4 BB2_uf4 R02_uf4 RA2_uf4 RX2_uf4 RG2_uf4 kX2_uf4 oX2_uf4 hY2_uf4
        try dsimp only
        refine hK.out _ _ kvuf4 ?_; clear hK K hHeld; intro hHeld; try simp only [Act.put, List.setIfInBounds_toArray, List.set_cons_zero, List.set_cons_succ]
        refine Tk.W 4 (some 58) (.unOp .not 4 (.tmp 57)) 4 none ?_
        refine wpAnyH_done (by kernel_rfl) ?_ _
        refine NoPanic.normal ?_
        clear BB R0 RA RX RG kX oX hY
        obtain ⟨BB, R0, RA, RX, RG, kX, oX, hY⟩ := hHeld.2.2.2.2.2.2.2.2.2.2.2.2.2.2.2.2.2.2.out
        clear hHeld
        go_wp2_with fail
        refine (Pl.toTurnS aT nT cT ts _ (hT.below BB) hz).mono ?_
        rintro e w10 ⟨rfl, hN, bq⟩
        have z_bq10 := bq.size
        replace R0 := R0.below bq
        replace RA := RA.below bq
        replace RX := RX.below bq
        replace RG := RG.below bq
        replace kX := kX.later bq kX.2.2.1
        replace oX := oX.later bq oX.2.2.1
        replace hY := hY.later bq
        replace BB := BB.trans (bq.mono BB.size)
        clear bq
        go_wp2_with fail
        refine (Pl.eqTurnS _ _ nT nT nT ts _ (hY.at hlen.out) (hN.at hlen.out) hz).mono ?_
        rintro e w11 ⟨rfl, bq⟩
        have z_bq11 := bq.size
        replace R0 := R0.below bq
        replace RA := RA.below bq
        replace RX := RX.below bq
        replace RG := RG.below bq
        replace kX := kX.later bq kX.2.2.1
        replace oX := oX.later bq oX.2.2.1
        replace hY := hY.later bq
        replace hN := hN.later bq
        replace BB := BB.trans (bq.mono BB.size)
        clear bq
        clear hN
        have cRX0 := RX.cell 0 rfl
        have cRX1 := RX.cell 1 rfl
        have cRX2 := RX.cell 2 rfl
        have cRX3 := RX.cell 3 rfl
        have cRX4 := RX.cell 4 rfl
        have cRX5 := RX.cell 5 rfl
        have cRX6 := RX.cell 6 rfl
        have cRX7 := RX.cell 7 rfl
        have cRX8 := RX.cell 8 rfl
        have lRX := RX.lt (by simp)
        go_wp2_with fail
        clear cRX0 cRX1 cRX2 cRX3 cRX4 cRX5 cRX6 cRX7 cRX8 lRX
        refine (Wl.markWorld n l d r p s t w4d.heap.size gX 0 hX 0 k k m m ks os _ kX oX (by omega) hk hm).mono ?_
        rintro e wm ⟨rfl, mK, mO, xm, ym, bm, em, fm⟩
        clear mK mO
        have mm := (((Ss.Mid.of_below (B := w4d.heap.size) (C := w5.heap.size) bm).trans (Ss.Mid.of_grown em (by omega) (by omega))).trans (Ss.Mid.of_grown fm (by omega) (by omega)))
        clear bm em fm
        clear RX kX oX
        replace R0 := mm.room R0 (by simp) (by omega)
        replace RA := mm.room RA (by simp) (by omega)
        replace RG := mm.room RG (by simp) (by omega)
        replace hY := hY.mid mm (by omega)
        have z12 := mm.size
        replace BB := BB.trans (mm.below (by omega) BB.size)
        clear mm
        go_wp2_with fail
        refine (Pl.markAll (1 + (k : Int) + (m : Int)) w6.heap.size w5d.heap.size nT nT ts _ hY hz (by omega) (by omega)).mono ?_
        rintro e wn ⟨⟨xk, rfl, hxk⟩, mt⟩
        clear hY
        replace R0 := mt.room R0 (by simp) (by omega)
        replace RA := mt.room RA (by simp) (by omega)
        replace RG := mt.room RG (by simp) (by omega)
        have z13 := mt.size
        replace BB := BB.trans (mt.below (by omega) BB.size)
        clear mt
        have hxk2 : decide (xk < 0) = false := by simp; omega
        have cRG0 := RG.cell 0 rfl
        have cRG1 := RG.cell 1 rfl
        have cRG2 := RG.cell 2 rfl
        have cRG3 := RG.cell 3 rfl
        have cRG4 := RG.cell 4 rfl
        have cRG5 := RG.cell 5 rfl
        have cRG6 := RG.cell 6 rfl
        have cRG7 := RG.cell 7 rfl
        have cRG8 := RG.cell 8 rfl
        have lRG := RG.lt (by simp)
        have cRA0 := RA.cell 0 rfl
        have cRA1 := RA.cell 1 rfl
        have cRA2 := RA.cell 2 rfl
        have cRA3 := RA.cell 3 rfl
        have cRA4 := RA.cell 4 rfl
        have cRA5 := RA.cell 5 rfl
        have cRA6 := RA.cell 6 rfl
        have cRA7 := RA.cell 7 rfl
        have cRA8 := RA.cell 8 rfl
        have lRA := RA.lt (by simp)
        go_wp2_with fail
        clear cRG0 cRG1 cRG2 cRG3 cRG4 cRG5 cRG6 cRG7 cRG8 lRG cRA0 cRA1 cRA2 cRA3 cRA4 cRA5 cRA6 cRA7 cRA8 lRA
        refine (Wl.eqWorld 0 0 0 0 0 0 0 none none none none 0 0 0 0 0 0 [] [] _ ⟨rfl, .inl rfl⟩ ⟨rfl, .inl rfl⟩ ⟨rfl, .inl rfl⟩ ⟨rfl, .inl rfl⟩ (by omega) (by omega)).mono ?_
        rintro e wo ⟨rfl, bq⟩
        have z_bq14 := bq.size
        replace R0 := R0.below bq
        replace RA := RA.below bq
        replace RG := RG.below bq
        replace BB := BB.trans (bq.mono BB.size)
        clear bq
        have cRG0 := RG.cell 0 rfl
        have cRG1 := RG.cell 1 rfl
        have cRG2 := RG.cell 2 rfl
        have cRG3 := RG.cell 3 rfl
        have cRG4 := RG.cell 4 rfl
        have cRG5 := RG.cell 5 rfl
        have cRG6 := RG.cell 6 rfl
        have cRG7 := RG.cell 7 rfl
        have cRG8 := RG.cell 8 rfl
        have lRG := RG.lt (by simp)
        go_wp2_with fail
        clear cRG0 cRG1 cRG2 cRG3 cRG4 cRG5 cRG6 cRG7 cRG8 lRG
        refine (Wl.markWorld0 0 0 0 0 0 0 0 _).mono ?_
        rintro e wg ⟨rfl, bq⟩
        have z_bq15 := bq.size
        replace R0 := R0.below bq
        replace RA := RA.below bq
        replace RG := RG.below bq
        replace BB := BB.trans (bq.mono BB.size)
        clear bq
        have cRG0 := RG.cell 0 rfl
        have cRG1 := RG.cell 1 rfl
        have cRG2 := RG.cell 2 rfl
        have cRG3 := RG.cell 3 rfl
        have cRG4 := RG.cell 4 rfl
        have cRG5 := RG.cell 5 rfl
        have cRG6 := RG.cell 6 rfl
        have cRG7 := RG.cell 7 rfl
        have cRG8 := RG.cell 8 rfl
        have lRG := RG.lt (by simp)
        go_wp2_with fail
        clear cRG0 cRG1 cRG2 cRG3 cRG4 cRG5 cRG6 cRG7 cRG8 lRG
        refine (Wl.heldWorld0 0 0 0 0 0 0 0 _).mono ?_
        rintro e wh ⟨rfl, bq⟩
        have z_bq16 := bq.size
        replace R0 := R0.below bq
        replace RA := RA.below bq
        replace RG := RG.below bq
        replace BB := BB.trans (bq.mono BB.size)
        clear bq
        have cR00 := R0.cell 0 rfl
        have cR01 := R0.cell 1 rfl
        have cR02 := R0.cell 2 rfl
        have cR03 := R0.cell 3 rfl
        have cR04 := R0.cell 4 rfl
        have cR05 := R0.cell 5 rfl
        have cR06 := R0.cell 6 rfl
        have cR07 := R0.cell 7 rfl
        have cR08 := R0.cell 8 rfl
        have lR0 := R0.lt (by simp)
        go_wp2_with fail
        clear cR00 cR01 cR02 cR03 cR04 cR05 cR06 cR07 cR08 lR0
        refine (Wl.toWorld n l d r p s t a b k ka m mb ks os _ ((hr.later BB (Nat.le_refl _)).more BB.size) ((hs.later BB (Nat.le_refl _)).more BB.size) hk hm).mono ?_
        rintro e w9a ⟨⟨gk, go, rfl, kK, kO, gkgo⟩, bq⟩
        have z_bq17 := bq.size
        replace R0 := R0.below bq
        replace RA := RA.below bq
        replace RG := RG.below bq
        replace BB := BB.trans (bq.mono BB.size)
        clear bq
        go_wp2_with fail
        refine (Pl.toTurnS aT nT cT ts _ (hT.below BB) hz).mono ?_
        rintro e w9b ⟨rfl, hA, bq⟩
        have z_bq18 := bq.size
        replace R0 := R0.below bq
        replace RA := RA.below bq
        replace RG := RG.below bq
        replace kK := kK.later bq kK.2.2.1
        replace kO := kO.later bq kO.2.2.1
        replace BB := BB.trans (bq.mono BB.size)
        clear bq
        go_wp2_with fail
        refine (Pl.i_Played_no n l d r p s t _ _ k k m m ks os _ nT nT ts _ kK.row kO.row hk hm (hA.at hlen.out) hn hOk.out (Pl.q_no HQ.out)).mono ?_
        rintro e w9c ⟨rfl, bq⟩
        have z_bq19 := bq.size
        replace R0 := R0.below bq
        replace RA := RA.below bq
        replace RG := RG.below bq
        replace kK := kK.later bq kK.2.2.1
        replace kO := kO.later bq kO.2.2.1
        replace hA := hA.later bq
        replace BB := BB.trans (bq.mono BB.size)
        clear bq
        clear kK kO hA
        have cRA0 := RA.cell 0 rfl
        have cRA1 := RA.cell 1 rfl
        have cRA2 := RA.cell 2 rfl
        have cRA3 := RA.cell 3 rfl
        have cRA4 := RA.cell 4 rfl
        have cRA5 := RA.cell 5 rfl
        have cRA6 := RA.cell 6 rfl
        have cRA7 := RA.cell 7 rfl
        have cRA8 := RA.cell 8 rfl
        have lRA := RA.lt (by simp)
        go_wp2_with fail
        clear cRA0 cRA1 cRA2 cRA3 cRA4 cRA5 cRA6 cRA7 cRA8 lRA
        have bn : Below w9c.heap.size w9c (w9c.alloc (.cells #[.int .i64 0, .int .i64 0, .int .i64 0, .int .i64 0, .int .i64 0, .int .i64 0, .slice none 0 0, .slice none 0 0, .int .i64 0] 32)) := (Below.refl _ w9c).alloc (Nat.le_refl _) _
        have RH := Rm.Room.new w9c [.int .i64 0, .int .i64 0, .int .i64 0, .int .i64 0, .int .i64 0, .int .i64 0, .slice none 0 0, .slice none 0 0, .int .i64 0] 32
        have zn21 := bn.size
        have loRH := RH.lt (by simp)
        replace R0 := R0.below bn
        replace RA := RA.below bn
        replace RG := RG.below bn
        replace BB := BB.trans (bn.mono BB.size)
        clear bn
        generalize (w9c.alloc (.cells #[.int .i64 0, .int .i64 0, .int .i64 0, .int .i64 0, .int .i64 0, .int .i64 0, .slice none 0 0, .slice none 0 0, .int .i64 0] 32)) = w9d at R0 RA RG RH BB zn21 loRH ⊢
        refine (Wl.eqWorld 0 0 0 0 0 0 0 none none none none 0 0 0 0 0 0 [] [] _ ⟨rfl, .inl rfl⟩ ⟨rfl, .inl rfl⟩ ⟨rfl, .inl rfl⟩ ⟨rfl, .inl rfl⟩ (by omega) (by omega)).mono ?_
        rintro e wy ⟨rfl, bq⟩
        have z_bq21 := bq.size
        replace R0 := R0.below bq
        replace RA := RA.below bq
        replace RG := RG.below bq
        replace RH := RH.below bq
        replace BB := BB.trans (bq.mono BB.size)
        clear bq
        have cRG0 := RG.cell 0 rfl
        have cRG1 := RG.cell 1 rfl
        have cRG2 := RG.cell 2 rfl
        have cRG3 := RG.cell 3 rfl
        have cRG4 := RG.cell 4 rfl
        have cRG5 := RG.cell 5 rfl
        have cRG6 := RG.cell 6 rfl
        have cRG7 := RG.cell 7 rfl
        have cRG8 := RG.cell 8 rfl
        have lRG := RG.lt (by simp)
        go_wp2_with fail
        clear cRG0 cRG1 cRG2 cRG3 cRG4 cRG5 cRG6 cRG7 cRG8 lRG
        refine (Wl.heldWorld0 0 0 0 0 0 0 0 _).mono ?_
        rintro e wz ⟨rfl, bq⟩
        have z_bq22 := bq.size
        replace R0 := R0.below bq
        replace RA := RA.below bq
        replace RG := RG.below bq
        replace RH := RH.below bq
        replace BB := BB.trans (bq.mono BB.size)
        clear bq
        go_wp2
        go_ret
        exact ⟨rfl, BB⟩

/-! The row. -/
set_option maxRecDepth 100000 in
theorem lifted (os : Os) (started : os.Started) (H : Type) (enc : TypeId × Value → H) :
    ReturnsInHanded {} Tryz.checked os 3 .any (Rows.fnExactPlayedSpec.pre6 enc Tryz.prog Tryz.f3 Rows.fnExactPlayedRow.domain false) (Rows.fnExactPlayedSpec.post enc Tryz.prog Tryz.f3 false true false false) := by
  refine returnsInHanded_of_change (C := Tryz.checked) own started (by kernel_rfl) Tryz.func3
    (ChangeSpec.witness6 (enc := enc) (C := Tryz.checked) false ⟨#[], #[.agg #[.int .i64 0, .int .i64 0, .int .i64 0, .int .i64 0, .int .i64 0, .int .i64 0, .slice none 0 0, .slice none 0 0, .int .i64 0], .slice none 0 0], []⟩ 8 (by kernel_rfl) (by kernel_rfl) (by kernel_rfl) (by kernel_rfl)) ?_
  intro W base args ds gs before hval0 hW hcnd _
  have hval : ∀ (j : Nat) t v, Tryz.f3.params[j]? = some t → args[j]? = some v → Value.okWide Tryz.prog W .any base t v := hval0
  have hW' := hW
  obtain ⟨p, q, hA0, hV, rfl, hfz, hnd⟩ := hW
  have hA : DataW.TrodAll enc Tryz.prog W 0 (fun _ => true) true Tryz.f3.params.toList args.toList ds p := hA0
  rw [Tryz.params3] at hA hval
  obtain ⟨v0, vs0, d0, ds0, p0, q0, hargs, rfl, rfl, h0, r0⟩ := trodAll_cons hA
  obtain ⟨v1, vs1, d1, ds1, p1, q1, rfl, rfl, rfl, h1, r1⟩ := trodAll_cons r0
  obtain ⟨rfl, rfl, rfl⟩ := trodAll_nil r1
  obtain rfl : args = #[v0, v1] := by cases args; simp_all
  obtain ⟨rfl, rfl⟩ := trodVars_none hV
  have k0' := h0
  have lt0' : ∀ x ∈ p0, x.block < W.heap.size := by obtain ⟨m, hm⟩ := k0'; exact DataW.trod_lt m _ _ _ hm
  have rd0 := Rd.Reads.of h0
  obtain ⟨cs0, rfl, _⟩ := okWide_struct Tryz.underlying26 (hval 0 26 v0 rfl rfl)
  obtain ⟨n, l, d, r, p, s, t, a, k, ka, b, m, mb, ks, os, rfl, hr, hs, lk, lm⟩ := Rd.world rd0
  have k1' := h1
  have lt1' : ∀ x ∈ p1, x.block < W.heap.size := by obtain ⟨m, hm⟩ := k1'; exact DataW.trod_lt m _ _ _ hm
  have rd1 := Rd.Reads.of h1
  obtain ⟨aT, nT, cT, rfl⟩ := okWide_slice Tryz.underlying27 (hval 1 27 v1 rfl rfl)
  obtain ⟨b_1, m_1, mb_1, ts, e1, hT, mT, hF⟩ := Rd.turns rd1
  simp [Value.cells] at e1
  obtain ⟨rfl, rfl, rfl⟩ := e1
  clear hA0 hval0
  refine (walk n l d r p s t a k ka b m mb ks os aT nT cT ts W hr hs lk lm hT mT hF).mono fun e W' ⟨he, bel⟩ => ?_
  subst he
  exact ⟨_, rfl, _, _, _, [], _, [], hW', trodAll_mk1 (shut_bool Tryz.underlying4 _), (trodAll_cons_mk (Below.trod laidOut (by kernel_rfl) (of_decide_eq_true (by kernel_rfl)) k0' bel lt0') (trodAll_cons_mk (Below.trod laidOut (by kernel_rfl) (of_decide_eq_true (by kernel_rfl)) k1' bel lt1') trodAll_mk0)), rfl, bel.frame _, fun h => by cases h⟩

theorem over : Rows.fnExactPlayedRow.holds Tryz.pinned (OpenSpec.ofChange Rows.fnExactPlayedSpec) :=
  OpenClaim.holds_of_wide 3 Tryz.f3 rfl rfl rfl rfl rfl rfl rfl ⟨rfl, rfl, rfl, rfl, rfl⟩ rfl rfl rfl rfl rfl (by kernel_rfl) Tryz.func3 (by kernel_rfl)
    (of_decide_eq_true (by kernel_rfl)) (by unfold Func.isWrapper; first | (rw [if_pos (by decide +kernel)]; kernel_rfl) | (rw [if_neg (by decide +kernel)]; exact ⟨rfl, rfl⟩))
    (fun os started H enc _ => lifted os started H enc)

end Go.Proofs.YtcgcmceobmpdiaaGreat.fnExactPlayed

namespace Go.Proofs.YtcgcmceobmpdiaaGreat
/-- The given statement. -/
theorem fnExactPlayed_holds : Rows.FnExactPlayedSaid := fnExactPlayed.over
#print axioms fnExactPlayed_holds
end Go.Proofs.YtcgcmceobmpdiaaGreat
