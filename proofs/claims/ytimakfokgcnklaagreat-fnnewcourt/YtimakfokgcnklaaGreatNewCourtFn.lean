/-
  In a new court nobody has signed or accepted anything, and each clock shows its off
-/
import Derived.Test.YtimakfokgcnklaaGreatRows
import Derived.WalkKit
import Derived.ProofKit
import Derived.OpenShut
import Derived.ShutString
import Derived.ChangeOld
import Derived.Below
import Derived.Test.YtimakfokgcnklaaGreatDc
import Derived.Test.YtimakfokgcnklaaGreatNk
import Derived.Deep.RegionHeld3
import Derived.Lib.SmallJoins
import Derived.Test.YtimakfokgcnklaaGreatTk
namespace Go.Proofs.YtimakfokgcnklaaGreat.fnNewCourt
open Go.ChangeShapes Go.WideShapes Go.ChangeAt Go.RowKit
open Go.ChangeMaps (open_string shut_string)
set_option linter.unusedVariables false
set_option linter.unusedSimpArgs false

theorem own : ownKnob Tryz.prog.godebug = none := by kernel_rfl
theorem laidOut : laidOutB Tryz.prog = true := by kernel_rfl

/-- WHAT THE WALK IS TOLD OF A SLICE OF INTEGERS THAT CAME IN: it is nil; or it leads to a row of 'cap' cells, the numbers 'zs' (the first 'len' are its elements, the rest its spare room), each fitting its kind. -/
def IsRow (k : IntKind) (w : World) (a : Option Addr) (len cap : Nat) (zs : List Int) : Prop :=
  (a = none ∧ len = 0 ∧ cap = 0 ∧ zs = []) ∨
  ∃ x, a = some x ∧ len ≤ cap ∧ cap ≤ maxLen ∧ zs.length = cap ∧ (∀ i, i < zs.length → w.cell? (x.add i) = some (.int k (zs.getD i 0))) ∧ ∀ n ∈ zs, (Lit.int k n).wf = true

theorem code_of {w : World} {a : Option Addr} {len cap : Nat} {zs : List Int} (h : IsRow .u8 w a len cap zs) (hl : len ≤ 4096) : Dr.Code w w.heap.size a len := by
  refine ⟨hl, ?_⟩
  rcases h with ⟨_, h, _, _⟩ | ⟨x, rfl, h1, h2, h3, h4, h5⟩
  · exact .inl h
  · by_cases h0 : len = 0
    · exact .inl h0
    · obtain ⟨b, off, spot⟩ := x
      have hc := h4 0 (by omega)
      have hs : spot = none := by simpa [Addr.add] using World.cell?_spot hc
      subst hs
      have hb := World.block_lt_of_cell? _ _ hc
      refine .inr ⟨b, off, rfl, by simpa [Addr.add] using hb, fun k hk => ⟨zs.getD k 0, ?_, ?_⟩⟩
      · have hk4 := h4 k (by omega)
        by_cases hk0 : k = 0
        · subst hk0; simpa [Addr.add] using hk4
        · simpa [Addr.add, hk0] using hk4
      · have e : zs.getD k 0 = zs[k]'(by omega) := by simp [List.getD, show k < zs.length by omega]
        refine bounds_u8 (h5 _ ?_)
        rw [e]
        exact List.getElem_mem _

theorem small (a : Option Addr) (len cap : Nat) (h : len ≤ 4096) (w : World) : Calls Tryz.prog 8 #[.slice a len cap] w fun e w' => e = .returned (.bool false) ∧ w' = w := by
  have h' : ¬ (4096 : Int) < len := by omega
  go_enter Tryz.func8, Tryz.ntmps8
  go_wp2
  go_ret
  exact ⟨rfl, rfl⟩

theorem great (a : Option Addr) (len cap : Nat) (h : ¬ len ≤ 4096) (w : World) : Calls Tryz.prog 8 #[.slice a len cap] w fun e w' => e = .returned (.bool true) ∧ w' = w := by
  have h' : (4096 : Int) < len := by omega
  go_enter Tryz.func8, Tryz.ntmps8
  go_wp2
  go_ret
  exact ⟨rfl, rfl⟩

theorem cellO {W : World} {g : Nat} {os : List Int} {k : Nat} (h : Ls.Row W W.heap.size (some ⟨g, 0, none⟩) os.length os) (hk : k < os.length) : W.cell? ⟨g, k, none⟩ = some (.int .i64 (Ls.el os k)) := by
  obtain ⟨_, h0 | ⟨b, off, e, hb, hc⟩⟩ := h
  · omega
  · cases e
    have := hc k hk
    rwa [Nat.zero_add] at this
theorem cellL {W : World} {g : Nat} {bs : List Bool} {k : Nat} (h : Rd.Flags W W.heap.size (some ⟨g, 0, none⟩) bs.length bs) (hk : k < bs.length) : W.cell? ⟨g, k, none⟩ = some (.bool (bs.getD k false)) := by
  obtain ⟨_, h0 | ⟨b, off, e, hb, hc⟩⟩ := h
  · omega
  · cases e
    have := hc k hk
    rwa [Nat.zero_add] at this
theorem hasL (a : Option Addr) (n cap : Nat) (zs : List Int) (x : Int) (w : World) (hr : Ls.Row w w.heap.size a n zs) (hn : n ≤ 1048576) :
    Calls Tryz.prog 16 #[.slice a n cap, .int .i64 x] w fun e w' => e = .returned (.bool (Mi.IH zs x)) ∧ w' = w := by
  have HL : Hid (zs.length = n) := hr.1
  go_enter Tryz.func16, Tryz.ntmps16
  go_wp2
  go_loop [5] (fun i => ∃ k : Nat, k ≤ n ∧ i = .int .i64 k ∧ Hid (Mi.AN (fun k => decide (x = Ls.el zs k)) k = false)) (fun i => n - (intOf i).toNat)
  case atStart => exact ⟨0, Nat.zero_le _, rfl, rfl⟩
  case round =>
    obtain ⟨k, hk, rfl, HH⟩ := hrel
    by_cases hlt : k < n
    · have hi : (k : Int) < n := by omega
      obtain ⟨_, hz | ⟨b, off, rfl, hB, hc⟩⟩ := hr
      · omega
      have e0 := hc k hlt
      clear hc
      by_cases hx : x = Ls.el zs k
      · have HF : Hid (Mi.IH zs x = true) := Mi.an_yes (by rw [HL.out]; exact hlt) (decide_eq_true hx)
        have hv : (Ls.el zs k == x) = true := by simpa using hx.symm
        clear hx
        go_wp2
        go_ret
        exact ⟨Sp.retb HF.out.symm, rfl⟩
      · have HN : Hid (Mi.AN (fun k => decide (x = Ls.el zs k)) (k + 1) = false) := Mi.an_next HH.out (decide_eq_false hx)
        have hv : (Ls.el zs k == x) = false := by simpa using fun e => hx e.symm
        clear hx
        go_wp2
        go_round
        case rel => exact ⟨k + 1, by omega, by go_num, HN.out⟩
        case measure => simp [intOf]; omega
    · have hi : ¬ (k : Int) < n := by omega
      obtain rfl : k = n := by omega
      have HF : Hid (Mi.IH zs x = false) := by show Mi.AN _ zs.length = false; rw [HL.out]; exact HH.out
      go_wp2
      go_ret
      exact ⟨Sp.retb HF.out.symm, rfl⟩

/-! The walk. -/
set_option maxHeartbeats 20000000 in
set_option maxRecDepth 100000 in
theorem walk (a0 : Option Addr) (len0 cap0 : Nat) (z0 : List Int) (w : World) (w0 : IsRow .u8 w a0 len0 cap0 z0) :
    Calls Tryz.prog 3 #[.slice a0 len0 cap0] w fun e w' => e = .returned (.bool true) ∧ Below w.heap.size w w' := by
  by_cases hl : len0 ≤ 4096
  · have code := code_of w0 hl
    clear w0
    go_enter Tryz.func3, Tryz.ntmps3
    go_wp2_with fail
    refine (small a0 len0 cap0 hl _).mono ?_
    rintro e w ⟨rfl, rfl⟩
    go_wp2_with fail
    refine (Dc.drawNewCourt w.heap.size a0 len0 cap0 w (Nat.le_refl _) code).mono ?_
    rintro e w1 ⟨⟨n, f, q, x, l, m, g2, k2, c2, g1, k1, c1, g3, k3, c3, zs, os, bs, rfl, rK, rO, rL, hk2, hk1, hk3⟩, BZ⟩
    have e2 := rK.1
    subst e2
    have e1 := rO.1
    subst e1
    have e3 := rL.1
    subst e3
    have R0 := Rm.Room.new w1 [.int .i64 n, .int .i64 f, .int .i64 q, .int .i64 x, .int .i64 l, .int .i64 m] 25
    have r0 := R0.cell 0 rfl
    have r1 := R0.cell 1 rfl
    have r2 := R0.cell 2 rfl
    have r3 := R0.cell 3 rfl
    have r4 := R0.cell 4 rfl
    have r5 := R0.cell 5 rfl
    have RX := Rm.Room.new w1 [.int .i64 n, .int .i64 f, .int .i64 q, .int .i64 x, .int .i64 l, .int .i64 m] 25
    have bq := (Below.refl w1.heap.size w1).alloc (Nat.le_refl _) (.cells #[.int .i64 n, .int .i64 f, .int .i64 q, .int .i64 x, .int .i64 l, .int .i64 m] 25)
    obtain ⟨X3, h_X3⟩ : ∃ y, y = w1.heap.size := ⟨_, rfl⟩
    have z_RX : X3 < (w1.alloc (.cells #[.int .i64 n, .int .i64 f, .int .i64 q, .int .i64 x, .int .i64 l, .int .i64 m] 25)).heap.size := by rw [h_X3]; simp
    go_wp2_with fail
    try rw [← h_X3]
    replace BZ := BZ.trans (bq.mono BZ.size)
    replace rK := (rK.later bq (Nat.le_refl _)).more bq.size
    replace rO := (rO.later bq (Nat.le_refl _)).more bq.size
    replace rL := (rL.later bq (Nat.le_refl _)).more bq.size
    generalize w1.alloc (.cells #[.int .i64 n, .int .i64 f, .int .i64 q, .int .i64 x, .int .i64 l, .int .i64 m] 25) = w2 at RX z_RX bq BZ rK rO rL ⊢
    clear bq
    rw [← h_X3] at RX
    clear h_X3
    cases hN : Nw.NO n f q x l m zs bs os with
    | true =>
      have HN := Mi.hid hN
      clear hN
      refine (Nw.i_NewCourt n f q x l m zs os bs _ _ _ _ _ _ _ rK rO rL (by omega) (by omega) (by omega)).mono ?_
      rintro e w3 ⟨hq, bq⟩
      obtain ⟨_, gK, kK, gL, kL, gP, kP, rfl, NG⟩ := hq.resolve_right (fun y => by have y1 := y.1; rw [HN.out] at y1; cases y1)
      skip
      replace BZ := BZ.trans (bq.mono BZ.size)
      replace rK := (rK.later bq (Nat.le_refl _)).more bq.size
      replace rO := (rO.later bq (Nat.le_refl _)).more bq.size
      replace rL := (rL.later bq (Nat.le_refl _)).more bq.size
      replace z_RX := Nat.lt_of_lt_of_le z_RX bq.size
      replace RX := RX.below bq
      clear bq
      have r0 := RX.cell 0 rfl
      have r1 := RX.cell 1 rfl
      have r2 := RX.cell 2 rfl
      have r3 := RX.cell 3 rfl
      have r4 := RX.cell 4 rfl
      have r5 := RX.cell 5 rfl
      have hx3 := z_RX
      have CB := Rm.Room.new w3 [.int .i64 n, .int .i64 f, .int .i64 q, .int .i64 x, .int .i64 l, .int .i64 m, .slice (some ⟨gK, 0, none⟩) zs.length kK, .slice (some ⟨gL, 0, none⟩) bs.length kL, .slice (some ⟨gP, 0, none⟩) os.length kP, .slice none 0 0, .int .i64 0, .slice none 0 0, .slice none 0 0] 35
      have bq := (Below.refl w3.heap.size w3).alloc (Nat.le_refl _) (.cells #[.int .i64 n, .int .i64 f, .int .i64 q, .int .i64 x, .int .i64 l, .int .i64 m, .slice (some ⟨gK, 0, none⟩) zs.length kK, .slice (some ⟨gL, 0, none⟩) bs.length kL, .slice (some ⟨gP, 0, none⟩) os.length kP, .slice none 0 0, .int .i64 0, .slice none 0 0, .slice none 0 0] 35)
      obtain ⟨XC, h_XC⟩ : ∃ y, y = w3.heap.size := ⟨_, rfl⟩
      have z_CB : XC < (w3.alloc (.cells #[.int .i64 n, .int .i64 f, .int .i64 q, .int .i64 x, .int .i64 l, .int .i64 m, .slice (some ⟨gK, 0, none⟩) zs.length kK, .slice (some ⟨gL, 0, none⟩) bs.length kL, .slice (some ⟨gP, 0, none⟩) os.length kP, .slice none 0 0, .int .i64 0, .slice none 0 0, .slice none 0 0] 35)).heap.size := by rw [h_XC]; simp
      go_wp2_with fail
      try rw [← h_XC]
      replace BZ := BZ.trans (bq.mono BZ.size)
      replace rK := (rK.later bq (Nat.le_refl _)).more bq.size
      replace rO := (rO.later bq (Nat.le_refl _)).more bq.size
      replace rL := (rL.later bq (Nat.le_refl _)).more bq.size
      replace z_RX := Nat.lt_of_lt_of_le z_RX bq.size
      replace RX := RX.below bq
      replace NG := NG.below bq
      generalize w3.alloc (.cells #[.int .i64 n, .int .i64 f, .int .i64 q, .int .i64 x, .int .i64 l, .int .i64 m, .slice (some ⟨gK, 0, none⟩) zs.length kK, .slice (some ⟨gL, 0, none⟩) bs.length kL, .slice (some ⟨gP, 0, none⟩) os.length kP, .slice none 0 0, .int .i64 0, .slice none 0 0, .slice none 0 0] 35) = w4 at CB z_CB bq BZ rK rO rL RX NG z_RX ⊢
      clear bq
      rw [← h_XC] at CB
      clear h_XC
      clear hx3 r0 r1 r2 r3 r4 r5
      refine (Nw.s_NewCourt n f q x l m zs os bs _ _ _ _ _ _ _ rK rO rL (by omega) (by omega) (by omega)).mono ?_
      rintro e w5 ⟨hq, bq⟩
      obtain ⟨_, sK, tK, sL, tL, sP, tP, rfl, _⟩ := hq.resolve_right (fun y => by have y1 := y.1; rw [HN.out] at y1; cases y1)
      replace BZ := BZ.trans (bq.mono BZ.size)
      replace rK := (rK.later bq (Nat.le_refl _)).more bq.size
      replace rO := (rO.later bq (Nat.le_refl _)).more bq.size
      replace rL := (rL.later bq (Nat.le_refl _)).more bq.size
      replace z_RX := Nat.lt_of_lt_of_le z_RX bq.size
      replace RX := RX.below bq
      replace NG := NG.below bq
      replace z_CB := Nat.lt_of_lt_of_le z_CB bq.size
      replace CB := CB.below bq
      clear bq
      have bq := (Below.refl w5.heap.size w5).alloc (Nat.le_refl _) (.cells #[.int .i64 n, .int .i64 f, .int .i64 q, .int .i64 x, .int .i64 l, .int .i64 m, .slice (some ⟨sK, 0, none⟩) zs.length tK, .slice (some ⟨sL, 0, none⟩) bs.length tL, .slice (some ⟨sP, 0, none⟩) os.length tP, .slice none 0 0, .int .i64 0, .slice none 0 0, .slice none 0 0] 35)
      go_wp2_with fail
      replace BZ := BZ.trans (bq.mono BZ.size)
      replace rK := (rK.later bq (Nat.le_refl _)).more bq.size
      replace rO := (rO.later bq (Nat.le_refl _)).more bq.size
      replace rL := (rL.later bq (Nat.le_refl _)).more bq.size
      replace z_RX := Nat.lt_of_lt_of_le z_RX bq.size
      replace RX := RX.below bq
      replace NG := NG.below bq
      replace z_CB := Nat.lt_of_lt_of_le z_CB bq.size
      replace CB := CB.below bq
      generalize w5.alloc (.cells #[.int .i64 n, .int .i64 f, .int .i64 q, .int .i64 x, .int .i64 l, .int .i64 m, .slice (some ⟨sK, 0, none⟩) zs.length tK, .slice (some ⟨sL, 0, none⟩) bs.length tL, .slice (some ⟨sP, 0, none⟩) os.length tP, .slice none 0 0, .int .i64 0, .slice none 0 0, .slice none 0 0] 35) = w6 at bq BZ rK rO rL RX NG CB z_RX z_CB ⊢
      clear bq
      have bq := (Below.refl w6.heap.size w6).drew
      replace BZ := BZ.trans (bq.mono BZ.size)
      replace rK := (rK.later bq (Nat.le_refl _)).more bq.size
      replace rO := (rO.later bq (Nat.le_refl _)).more bq.size
      replace rL := (rL.later bq (Nat.le_refl _)).more bq.size
      replace z_RX := Nat.lt_of_lt_of_le z_RX bq.size
      replace RX := RX.below bq
      replace NG := NG.below bq
      replace z_CB := Nat.lt_of_lt_of_le z_CB bq.size
      replace CB := CB.below bq
      clear bq
      obtain ⟨rv, hrv⟩ : ∃ v, Cd.RO n f q x l m = v := ⟨_, rfl⟩
      have HRV := Mi.hid hrv
      clear hrv
      have hvv : (rv != rv) = false := by cases rv <;> rfl
      have hno := Nw.no_of HN.out
      have hlb : Hid (bs.length = zs.length ∧ os.length = zs.length) := ⟨hno.2.2.2.1, hno.2.2.2.2.1⟩
      clear hno
      refine wp_region_noPanic ?_
      refine wp_region_held_drew (S := (fun w' => w'.cell? ⟨X3, 0, none⟩ = some (.int .i64 n) ∧ w'.cell? ⟨X3, 1, none⟩ = some (.int .i64 f) ∧ w'.cell? ⟨X3, 2, none⟩ = some (.int .i64 q) ∧ w'.cell? ⟨X3, 3, none⟩ = some (.int .i64 x) ∧ w'.cell? ⟨X3, 4, none⟩ = some (.int .i64 l) ∧ w'.cell? ⟨X3, 5, none⟩ = some (.int .i64 m))) (by kernel_rfl) ⟨RX.cell 0 rfl, RX.cell 1 rfl, RX.cell 2 rfl, RX.cell 3 rfl, RX.cell 4 rfl, RX.cell 5 rfl⟩ (fun hHeld => ?_)
      generalize w6.drew = w7 at hHeld BZ rK rO rL RX NG CB z_RX z_CB ⊢
      refine Tk.W 0 (some 40) (.move (.tmp 8)) 4 none ?_
      refine Tk.W 1 (some 41) (.move (.tmp 10)) 4 none ?_
      refine Tk.W 2 (some 42) (.binOp .neq 4 (.tmp 40) (.tmp 41) 4) 4 none ?_
      refine Tk.W 3 (some 43) (.move (.tmp 42)) 4 none ?_
      refine Tk.W 4 (some 44) (.load 25 (.tmp 3)) 25 (some (3, false)) ?_
      refine Tk.W 6 (some 46) (.load 25 (.tmp 3)) 25 (some (3, false)) ?_
      refine Tk.R 5 (some 45) (.call ⟨.value (.func 12), #[.tmp 44], #[25]⟩) 4 (some (3, false)) (fun K hK => ?_)
      go_simp
      refine (Cd.i_RuleOk n f q x l m _).mono ?_
      rintro e w8 ⟨rfl, bq⟩
      replace BZ := BZ.trans (bq.mono BZ.size)
      replace rK := (rK.later bq (Nat.le_refl _)).more bq.size
      replace rO := (rO.later bq (Nat.le_refl _)).more bq.size
      replace rL := (rL.later bq (Nat.le_refl _)).more bq.size
      replace z_RX := Nat.lt_of_lt_of_le z_RX bq.size
      replace RX := RX.below bq
      replace NG := NG.below bq
      replace z_CB := Nat.lt_of_lt_of_le z_CB bq.size
      replace CB := CB.below bq
      clear bq
      rw [HRV.out]
      try dsimp only
      refine hK.out _ _ ⟨RX.cell 0 rfl, RX.cell 1 rfl, RX.cell 2 rfl, RX.cell 3 rfl, RX.cell 4 rfl, RX.cell 5 rfl⟩ ?_; clear hK K hHeld; intro hHeld; try simp only [Act.put, List.setIfInBounds_toArray, List.set_cons_zero, List.set_cons_succ]
      refine Tk.R 7 (some 47) (.call ⟨.value (.func 13), #[.tmp 46], #[25]⟩) 4 (some (3, false)) (fun K hK => ?_)
      go_simp
      refine (Cd.ruleS n f q x l m _).mono ?_
      rintro e w9 ⟨rfl, bq⟩
      replace BZ := BZ.trans (bq.mono BZ.size)
      replace rK := (rK.later bq (Nat.le_refl _)).more bq.size
      replace rO := (rO.later bq (Nat.le_refl _)).more bq.size
      replace rL := (rL.later bq (Nat.le_refl _)).more bq.size
      replace z_RX := Nat.lt_of_lt_of_le z_RX bq.size
      replace RX := RX.below bq
      replace NG := NG.below bq
      replace z_CB := Nat.lt_of_lt_of_le z_CB bq.size
      replace CB := CB.below bq
      clear bq
      rw [HRV.out]
      try dsimp only
      refine hK.out _ _ ⟨RX.cell 0 rfl, RX.cell 1 rfl, RX.cell 2 rfl, RX.cell 3 rfl, RX.cell 4 rfl, RX.cell 5 rfl⟩ ?_; clear hK K hHeld; intro hHeld; try simp only [Act.put, List.setIfInBounds_toArray, List.set_cons_zero, List.set_cons_succ]
      refine Tk.W 8 (some 48) (.binOp .neq 4 (.tmp 45) (.tmp 47) 4) 4 (some (3, false)) ?_
      refine Tk.W 9 (some 49) (.pick (.tmp 43) (.const (.bool true)) (.tmp 48)) 4 none ?_
      refine wpAnyH_done (by kernel_rfl) ?_ _
      refine NoPanic.normal ?_
      clear hHeld hvv
      have a0 := CB.cell 0 rfl
      have a1 := CB.cell 1 rfl
      have a2 := CB.cell 2 rfl
      have a3 := CB.cell 3 rfl
      have a4 := CB.cell 4 rfl
      have a5 := CB.cell 5 rfl
      have a6 := CB.cell 6 rfl
      have a7 := CB.cell 7 rfl
      have a8 := CB.cell 8 rfl
      have a9 := CB.cell 9 rfl
      have a10 := CB.cell 10 rfl
      have a11 := CB.cell 11 rfl
      have a12 := CB.cell 12 rfl
      go_wp2_with fail
      clear a0 a1 a2 a3 a4 a5 a6 a7 a8 a9 a10 a11 a12
      refine (Nw.honestI n f q x l m zs os bs _ _ _ _ _ _ _ NG.row NG.flags NG.peers (by omega) (by omega) (by omega) HN.out).mono ?_
      rintro e wa ⟨⟨gH, cH, rfl, oH⟩, bq⟩
      replace BZ := BZ.trans (bq.mono BZ.size)
      replace rK := (rK.later bq (Nat.le_refl _)).more bq.size
      replace rO := (rO.later bq (Nat.le_refl _)).more bq.size
      replace rL := (rL.later bq (Nat.le_refl _)).more bq.size
      replace z_RX := Nat.lt_of_lt_of_le z_RX bq.size
      replace RX := RX.below bq
      replace NG := NG.below bq
      replace z_CB := Nat.lt_of_lt_of_le z_CB bq.size
      replace CB := CB.below bq
      clear bq
      have rH := oH.row
      have hHL := Cd.hn_len bs bs.length
      clear oH
      obtain ⟨lo, hlo⟩ : ∃ y, Nw.Nm wa y gK gL gP zs bs os := ⟨_, NG⟩
      clear NG
      go_wp2_with fail
      go_loopw [12] (fun i wr => ∃ k : Nat, k ≤ os.length ∧ i = .int .i64 k ∧ Hid (Below w.heap.size w wr ∧ Ls.Row wr wr.heap.size (some ⟨g1, 0, none⟩) os.length os ∧ Rd.Flags wr wr.heap.size (some ⟨g3, 0, none⟩) bs.length bs ∧ Nw.Nm wr lo gK gL gP zs bs os ∧ Rm.Room wr XC [.int .i64 n, .int .i64 f, .int .i64 q, .int .i64 x, .int .i64 l, .int .i64 m, .slice (some ⟨gK, 0, none⟩) zs.length kK, .slice (some ⟨gL, 0, none⟩) bs.length kL, .slice (some ⟨gP, 0, none⟩) os.length kP, .slice none 0 0, .int .i64 0, .slice none 0 0, .slice none 0 0] ∧ XC < wr.heap.size ∧ Ls.Row wr wr.heap.size (some ⟨gH, 0, none⟩) (Cd.HN bs bs.length).length (Cd.HN bs bs.length))) (fun i _ => os.length - (intOf i).toNat)
      case atStart => exact ⟨0, Nat.zero_le _, rfl, ⟨BZ, rO, rL, hlo, CB, z_CB, rH⟩⟩
      case round =>
        clear BZ rO rL hlo CB z_CB rH rK RX z_RX
        obtain ⟨k, hk, rfl, HH⟩ := hrel
        obtain ⟨BZ, rO, rL, NG, CB, z_CB, rH⟩ := HH.out
        clear HH
        by_cases hlt : k < os.length
        · have hi : (k : Int) < (os.length : Int) := by omega
          have hkb : k < bs.length := by have := hlb.out; omega
          have hib : (k : Int) < (bs.length : Int) := by omega
          have a0 := CB.cell 0 rfl
          have a1 := CB.cell 1 rfl
          have a2 := CB.cell 2 rfl
          have a3 := CB.cell 3 rfl
          have a4 := CB.cell 4 rfl
          have a5 := CB.cell 5 rfl
          have a6 := CB.cell 6 rfl
          have a7 := CB.cell 7 rfl
          have a8 := CB.cell 8 rfl
          have a9 := CB.cell 9 rfl
          have a10 := CB.cell 10 rfl
          have a11 := CB.cell 11 rfl
          have a12 := CB.cell 12 rfl
          go_wp2_with fail
          clear a0 a1 a2 a3 a4 a5 a6 a7 a8 a9 a10 a11 a12
          refine (Nw.readI n f q x l m zs os bs _ _ _ _ _ _ k _ NG.row NG.flags NG.peers (by omega) (by omega) (by omega) HN.out hlt).mono ?_
          rintro e wb ⟨rfl, bq⟩
          replace BZ := BZ.trans (bq.mono BZ.size)
          replace rO := (rO.later bq (Nat.le_refl _)).more bq.size
          replace rL := (rL.later bq (Nat.le_refl _)).more bq.size
          replace NG := NG.below bq
          replace z_CB := Nat.lt_of_lt_of_le z_CB bq.size
          replace CB := CB.below bq
          replace rH := (rH.later bq (Nat.le_refl _)).more bq.size
          clear bq
          go_wp2_with fail
          have bq := (Below.refl wb.heap.size wb).drew
          replace BZ := BZ.trans (bq.mono BZ.size)
          replace rO := (rO.later bq (Nat.le_refl _)).more bq.size
          replace rL := (rL.later bq (Nat.le_refl _)).more bq.size
          replace NG := NG.below bq
          replace z_CB := Nat.lt_of_lt_of_le z_CB bq.size
          replace CB := CB.below bq
          replace rH := (rH.later bq (Nat.le_refl _)).more bq.size
          clear bq
          have eO : ∀ {W : World}, Ls.Row W W.heap.size (some ⟨g1, 0, none⟩) os.length os → W.cell? ⟨g1, k, none⟩ = some (.int .i64 (Ls.el os k)) := fun h => cellO h hlt
          have eL : ∀ {W : World}, Rd.Flags W W.heap.size (some ⟨g3, 0, none⟩) bs.length bs → W.cell? ⟨g3, k, none⟩ = some (.bool (bs.getD k false)) := fun h => cellL h hkb
          have eP : ∀ {W : World}, Nw.Nm W lo gK gL gP zs bs os → W.cell? ⟨gP, k * 4 + 1, none⟩ = some (.int .i64 1) := fun h => h.P.R.cell _ (Ct.pcs_at os k hlt).2.1
          have HI : Hid (Mi.IH (Cd.HN bs bs.length) (k : Int) = !(bs.getD k false)) := by show _ = _; rw [Mi.ih_ho, Cd.ho_at hkb]
          have hee : (Ls.el os k != Ls.el os k) = false := by simp
          obtain ⟨bb, hbb⟩ : ∃ b, bs.getD k false = b := ⟨_, rfl⟩
          rw [hbb] at HI
          have HBB := Mi.hid hbb
          have eL2 : ∀ {W : World}, Rd.Flags W W.heap.size (some ⟨g3, 0, none⟩) bs.length bs → W.cell? ⟨g3, k, none⟩ = some (.bool bb) := fun h => by rw [eL h, HBB.out]
          clear hbb eL
          cases bb with
          | true =>
            refine wp_region_noPanic ?_
            refine wp_region_held_drew (S := (fun w' => w'.cell? ⟨g1, k, none⟩ = some (.int .i64 (Ls.el os k)) ∧ w'.cell? ⟨g3, k, none⟩ = some (.bool true) ∧ w'.cell? ⟨XC, 8, none⟩ = some (.slice (some ⟨gP, 0, none⟩) os.length kP) ∧ w'.cell? ⟨gP, k * 4 + 1, none⟩ = some (.int .i64 1))) (by kernel_rfl) ⟨eO rO, eL2 rL, CB.cell 8 rfl, eP NG⟩ (fun hHeld => ?_)
            generalize wb.drew = wc at hHeld BZ rO rL NG CB rH z_CB ⊢
            refine Tk.W 0 (some 70) (.move (.tmp 14)) 4 none ?_
            refine Tk.W 1 (some 71) (.unOp .not 4 (.tmp 70)) 4 none ?_
            refine Tk.W 2 (some 72) (.move (.tmp 71)) 4 none ?_
            refine Tk.W 3 (some 73) (.move (.tmp 13)) 2 (some (2, false)) ?_
            refine Tk.W 4 (some 74) (.move (.tmp 5)) 26 (some (2, false)) ?_
            refine Tk.W 5 (some 75) (.move (.tmp 12)) 2 (some (2, false)) ?_
            refine Tk.W 6 (some 76) (.indexAddr 26 (.tmp 74) (.tmp 75)) 0 (some (2, false)) ?_
            refine Tk.W 7 (some 77) (.load 2 (.tmp 76)) 2 (some (2, false)) ?_
            refine Tk.W 8 (some 78) (.binOp .neq 2 (.tmp 73) (.tmp 77) 2) 4 (some (2, false)) ?_
            refine Tk.W 9 (some 79) (.pick (.tmp 72) (.const (.bool true)) (.tmp 78)) 4 none ?_
            refine Tk.W 10 (some 80) (.move (.tmp 79)) 4 none ?_
            refine Tk.W 11 (some 81) (.move (.tmp 11)) 26 (some (10, false)) ?_
            refine Tk.W 12 (some 82) (.move (.tmp 12)) 2 (some (10, false)) ?_
            refine Tk.W 14 (some 84) (.move (.tmp 6)) 27 (some (10, false)) ?_
            refine Tk.W 15 (some 85) (.move (.tmp 12)) 2 (some (10, false)) ?_
            refine Tk.W 16 (some 86) (.indexAddr 27 (.tmp 84) (.tmp 85)) 0 (some (10, false)) ?_
            refine Tk.W 17 (some 87) (.load 4 (.tmp 86)) 4 (some (10, false)) ?_
            refine Tk.R 13 (some 83) (.call ⟨.value (.func 16), #[.tmp 81, .tmp 82], #[26, 2]⟩) 4 (some (10, false)) (fun K hK => ?_)
            go_simp
            refine (hasL _ (Cd.HN bs bs.length).length _ (Cd.HN bs bs.length) (k : Int) _ rH (by omega)).mono ?_
            rintro e wd ⟨rfl, rfl⟩
            rw [HI.out]
            try dsimp only
            refine hK.out _ _ hHeld ?_; clear hK K hHeld; intro hHeld; try simp only [Act.put, List.setIfInBounds_toArray, List.set_cons_zero, List.set_cons_succ]
            refine Tk.W 18 (some 88) (.binOp .eql 4 (.tmp 83) (.tmp 87) 4) 4 (some (10, false)) ?_
            refine Tk.W 19 (some 89) (.pick (.tmp 80) (.const (.bool true)) (.tmp 88)) 4 none ?_
            refine Tk.W 20 (some 90) (.move (.tmp 89)) 4 none ?_
            refine Tk.W 21 (some 91) (.fieldAddr 35 (.tmp 7) 3) 0 (some (20, false)) ?_
            refine Tk.W 22 (some 92) (.load 30 (.tmp 91)) 30 (some (20, false)) ?_
            refine Tk.W 23 (some 93) (.move (.tmp 12)) 2 (some (20, false)) ?_
            refine Tk.W 24 (some 94) (.indexAddr 30 (.tmp 92) (.tmp 93)) 0 (some (20, false)) ?_
            refine Tk.W 25 (some 95) (.fieldAddr 44 (.tmp 94) 1) 0 (some (20, false)) ?_
            refine Tk.W 26 (some 96) (.load 2 (.tmp 95)) 2 (some (20, false)) ?_
            refine Tk.W 27 (some 97) (.binOp .neq 2 (.tmp 96) (.const (.int .i64 1)) 2) 4 (some (20, false)) ?_
            refine Tk.W 28 (some 98) (.pick (.tmp 90) (.const (.bool true)) (.tmp 97)) 4 none ?_
            refine wpAnyH_done (by kernel_rfl) ?_ _
            refine NoPanic.normal ?_
            clear hHeld
            go_wp2
            go_roundw
            case rel => exact ⟨k + 1, by omega, by go_num, ⟨BZ, rO, rL, NG, CB, z_CB, rH⟩⟩
            case measure => simp [intOf]; omega
          | false =>
            refine wp_region_noPanic ?_
            refine wp_region_held_drew (S := (fun w' => w'.cell? ⟨g1, k, none⟩ = some (.int .i64 (Ls.el os k)) ∧ w'.cell? ⟨g3, k, none⟩ = some (.bool false) ∧ w'.cell? ⟨XC, 8, none⟩ = some (.slice (some ⟨gP, 0, none⟩) os.length kP) ∧ w'.cell? ⟨gP, k * 4 + 1, none⟩ = some (.int .i64 1))) (by kernel_rfl) ⟨eO rO, eL2 rL, CB.cell 8 rfl, eP NG⟩ (fun hHeld => ?_)
            generalize wb.drew = wc at hHeld BZ rO rL NG CB rH z_CB ⊢
            refine Tk.W 0 (some 70) (.move (.tmp 14)) 4 none ?_
            refine Tk.W 1 (some 71) (.unOp .not 4 (.tmp 70)) 4 none ?_
            refine Tk.W 2 (some 72) (.move (.tmp 71)) 4 none ?_
            refine Tk.W 3 (some 73) (.move (.tmp 13)) 2 (some (2, false)) ?_
            refine Tk.W 4 (some 74) (.move (.tmp 5)) 26 (some (2, false)) ?_
            refine Tk.W 5 (some 75) (.move (.tmp 12)) 2 (some (2, false)) ?_
            refine Tk.W 6 (some 76) (.indexAddr 26 (.tmp 74) (.tmp 75)) 0 (some (2, false)) ?_
            refine Tk.W 7 (some 77) (.load 2 (.tmp 76)) 2 (some (2, false)) ?_
            refine Tk.W 8 (some 78) (.binOp .neq 2 (.tmp 73) (.tmp 77) 2) 4 (some (2, false)) ?_
            refine Tk.W 9 (some 79) (.pick (.tmp 72) (.const (.bool true)) (.tmp 78)) 4 none ?_
            refine Tk.W 10 (some 80) (.move (.tmp 79)) 4 none ?_
            refine Tk.W 11 (some 81) (.move (.tmp 11)) 26 (some (10, false)) ?_
            refine Tk.W 12 (some 82) (.move (.tmp 12)) 2 (some (10, false)) ?_
            refine Tk.W 14 (some 84) (.move (.tmp 6)) 27 (some (10, false)) ?_
            refine Tk.W 15 (some 85) (.move (.tmp 12)) 2 (some (10, false)) ?_
            refine Tk.W 16 (some 86) (.indexAddr 27 (.tmp 84) (.tmp 85)) 0 (some (10, false)) ?_
            refine Tk.W 17 (some 87) (.load 4 (.tmp 86)) 4 (some (10, false)) ?_
            refine Tk.R 13 (some 83) (.call ⟨.value (.func 16), #[.tmp 81, .tmp 82], #[26, 2]⟩) 4 (some (10, false)) (fun K hK => ?_)
            go_simp
            refine (hasL _ (Cd.HN bs bs.length).length _ (Cd.HN bs bs.length) (k : Int) _ rH (by omega)).mono ?_
            rintro e wd ⟨rfl, rfl⟩
            rw [HI.out]
            try dsimp only
            refine hK.out _ _ hHeld ?_; clear hK K hHeld; intro hHeld; try simp only [Act.put, List.setIfInBounds_toArray, List.set_cons_zero, List.set_cons_succ]
            refine Tk.W 18 (some 88) (.binOp .eql 4 (.tmp 83) (.tmp 87) 4) 4 (some (10, false)) ?_
            refine Tk.W 19 (some 89) (.pick (.tmp 80) (.const (.bool true)) (.tmp 88)) 4 none ?_
            refine Tk.W 20 (some 90) (.move (.tmp 89)) 4 none ?_
            refine Tk.W 21 (some 91) (.fieldAddr 35 (.tmp 7) 3) 0 (some (20, false)) ?_
            refine Tk.W 22 (some 92) (.load 30 (.tmp 91)) 30 (some (20, false)) ?_
            refine Tk.W 23 (some 93) (.move (.tmp 12)) 2 (some (20, false)) ?_
            refine Tk.W 24 (some 94) (.indexAddr 30 (.tmp 92) (.tmp 93)) 0 (some (20, false)) ?_
            refine Tk.W 25 (some 95) (.fieldAddr 44 (.tmp 94) 1) 0 (some (20, false)) ?_
            refine Tk.W 26 (some 96) (.load 2 (.tmp 95)) 2 (some (20, false)) ?_
            refine Tk.W 27 (some 97) (.binOp .neq 2 (.tmp 96) (.const (.int .i64 1)) 2) 4 (some (20, false)) ?_
            refine Tk.W 28 (some 98) (.pick (.tmp 90) (.const (.bool true)) (.tmp 97)) 4 none ?_
            refine wpAnyH_done (by kernel_rfl) ?_ _
            refine NoPanic.normal ?_
            clear hHeld
            go_wp2
            go_roundw
            case rel => exact ⟨k + 1, by omega, by go_num, ⟨BZ, rO, rL, NG, CB, z_CB, rH⟩⟩
            case measure => simp [intOf]; omega
        · have hi : ¬ (k : Int) < (os.length : Int) := by omega
          have a0 := CB.cell 0 rfl
          have a1 := CB.cell 1 rfl
          have a2 := CB.cell 2 rfl
          have a3 := CB.cell 3 rfl
          have a4 := CB.cell 4 rfl
          have a5 := CB.cell 5 rfl
          have a6 := CB.cell 6 rfl
          have a7 := CB.cell 7 rfl
          have a8 := CB.cell 8 rfl
          have a9 := CB.cell 9 rfl
          have a10 := CB.cell 10 rfl
          have a11 := CB.cell 11 rfl
          have a12 := CB.cell 12 rfl
          go_wp2_with fail
          clear a0 a1 a2 a3 a4 a5 a6 a7 a8 a9 a10 a11 a12
          refine (Nw.courtI n f q x l m zs os bs _ _ _ _ _ _ _ NG.row NG.flags NG.peers (by omega) (by omega) (by omega)).mono ?_
          rintro e wb ⟨rfl, bq⟩
          replace BZ := BZ.trans (bq.mono BZ.size)
          replace rO := (rO.later bq (Nat.le_refl _)).more bq.size
          replace rL := (rL.later bq (Nat.le_refl _)).more bq.size
          replace NG := NG.below bq
          replace z_CB := Nat.lt_of_lt_of_le z_CB bq.size
          replace CB := CB.below bq
          replace rH := (rH.later bq (Nat.le_refl _)).more bq.size
          clear bq
          rw [HN.out]
          have a9 := CB.cell 9 rfl
          have a10 := CB.cell 10 rfl
          have a11 := CB.cell 11 rfl
          have a12 := CB.cell 12 rfl
          go_wp2
          go_ret
          exact ⟨rfl, BZ⟩
    | false =>
      have HN := Mi.hid hN
      clear hN
      refine (Nw.i_NewCourt n f q x l m zs os bs _ _ _ _ _ _ _ rK rO rL (by omega) (by omega) (by omega)).mono ?_
      rintro e w3 ⟨hq, bq⟩
      obtain ⟨_, rfl⟩ := hq.resolve_left (fun y => by have y1 := y.1; rw [HN.out] at y1; cases y1)
      skip
      replace BZ := BZ.trans (bq.mono BZ.size)
      replace rK := (rK.later bq (Nat.le_refl _)).more bq.size
      replace rO := (rO.later bq (Nat.le_refl _)).more bq.size
      replace rL := (rL.later bq (Nat.le_refl _)).more bq.size
      replace z_RX := Nat.lt_of_lt_of_le z_RX bq.size
      replace RX := RX.below bq
      clear bq
      have r0 := RX.cell 0 rfl
      have r1 := RX.cell 1 rfl
      have r2 := RX.cell 2 rfl
      have r3 := RX.cell 3 rfl
      have r4 := RX.cell 4 rfl
      have r5 := RX.cell 5 rfl
      have hx3 := z_RX
      have CB := Rm.Room.new w3 [.int .i64 0, .int .i64 0, .int .i64 0, .int .i64 0, .int .i64 0, .int .i64 0, .slice none 0 0, .slice none 0 0, .slice none 0 0, .slice none 0 0, .int .i64 0, .slice none 0 0, .slice none 0 0] 35
      have bq := (Below.refl w3.heap.size w3).alloc (Nat.le_refl _) (.cells #[.int .i64 0, .int .i64 0, .int .i64 0, .int .i64 0, .int .i64 0, .int .i64 0, .slice none 0 0, .slice none 0 0, .slice none 0 0, .slice none 0 0, .int .i64 0, .slice none 0 0, .slice none 0 0] 35)
      obtain ⟨XC, h_XC⟩ : ∃ y, y = w3.heap.size := ⟨_, rfl⟩
      have z_CB : XC < (w3.alloc (.cells #[.int .i64 0, .int .i64 0, .int .i64 0, .int .i64 0, .int .i64 0, .int .i64 0, .slice none 0 0, .slice none 0 0, .slice none 0 0, .slice none 0 0, .int .i64 0, .slice none 0 0, .slice none 0 0] 35)).heap.size := by rw [h_XC]; simp
      go_wp2_with fail
      try rw [← h_XC]
      replace BZ := BZ.trans (bq.mono BZ.size)
      replace rK := (rK.later bq (Nat.le_refl _)).more bq.size
      replace rO := (rO.later bq (Nat.le_refl _)).more bq.size
      replace rL := (rL.later bq (Nat.le_refl _)).more bq.size
      replace z_RX := Nat.lt_of_lt_of_le z_RX bq.size
      replace RX := RX.below bq
      generalize w3.alloc (.cells #[.int .i64 0, .int .i64 0, .int .i64 0, .int .i64 0, .int .i64 0, .int .i64 0, .slice none 0 0, .slice none 0 0, .slice none 0 0, .slice none 0 0, .int .i64 0, .slice none 0 0, .slice none 0 0] 35) = w4 at CB z_CB bq BZ rK rO rL RX z_RX ⊢
      clear bq
      rw [← h_XC] at CB
      clear h_XC
      clear hx3 r0 r1 r2 r3 r4 r5
      refine (Nw.s_NewCourt n f q x l m zs os bs _ _ _ _ _ _ _ rK rO rL (by omega) (by omega) (by omega)).mono ?_
      rintro e w5 ⟨hq, bq⟩
      obtain ⟨_, rfl⟩ := hq.resolve_left (fun y => by have y1 := y.1; rw [HN.out] at y1; cases y1)
      replace BZ := BZ.trans (bq.mono BZ.size)
      replace rK := (rK.later bq (Nat.le_refl _)).more bq.size
      replace rO := (rO.later bq (Nat.le_refl _)).more bq.size
      replace rL := (rL.later bq (Nat.le_refl _)).more bq.size
      replace z_RX := Nat.lt_of_lt_of_le z_RX bq.size
      replace RX := RX.below bq
      replace z_CB := Nat.lt_of_lt_of_le z_CB bq.size
      replace CB := CB.below bq
      clear bq
      have bq := (Below.refl w5.heap.size w5).alloc (Nat.le_refl _) (.cells #[.int .i64 0, .int .i64 0, .int .i64 0, .int .i64 0, .int .i64 0, .int .i64 0, .slice none 0 0, .slice none 0 0, .slice none 0 0, .slice none 0 0, .int .i64 0, .slice none 0 0, .slice none 0 0] 35)
      go_wp2_with fail
      replace BZ := BZ.trans (bq.mono BZ.size)
      replace rK := (rK.later bq (Nat.le_refl _)).more bq.size
      replace rO := (rO.later bq (Nat.le_refl _)).more bq.size
      replace rL := (rL.later bq (Nat.le_refl _)).more bq.size
      replace z_RX := Nat.lt_of_lt_of_le z_RX bq.size
      replace RX := RX.below bq
      replace z_CB := Nat.lt_of_lt_of_le z_CB bq.size
      replace CB := CB.below bq
      generalize w5.alloc (.cells #[.int .i64 0, .int .i64 0, .int .i64 0, .int .i64 0, .int .i64 0, .int .i64 0, .slice none 0 0, .slice none 0 0, .slice none 0 0, .slice none 0 0, .int .i64 0, .slice none 0 0, .slice none 0 0] 35) = w6 at bq BZ rK rO rL RX CB z_RX z_CB ⊢
      clear bq
      have bq := (Below.refl w6.heap.size w6).drew
      replace BZ := BZ.trans (bq.mono BZ.size)
      replace rK := (rK.later bq (Nat.le_refl _)).more bq.size
      replace rO := (rO.later bq (Nat.le_refl _)).more bq.size
      replace rL := (rL.later bq (Nat.le_refl _)).more bq.size
      replace z_RX := Nat.lt_of_lt_of_le z_RX bq.size
      replace RX := RX.below bq
      replace z_CB := Nat.lt_of_lt_of_le z_CB bq.size
      replace CB := CB.below bq
      clear bq
      obtain ⟨rv, hrv⟩ : ∃ v, Cd.RO n f q x l m = v := ⟨_, rfl⟩
      have HRV := Mi.hid hrv
      clear hrv
      have hvv : (rv != rv) = false := by cases rv <;> rfl
      refine wp_region_noPanic ?_
      refine wp_region_held_drew (S := (fun w' => w'.cell? ⟨X3, 0, none⟩ = some (.int .i64 n) ∧ w'.cell? ⟨X3, 1, none⟩ = some (.int .i64 f) ∧ w'.cell? ⟨X3, 2, none⟩ = some (.int .i64 q) ∧ w'.cell? ⟨X3, 3, none⟩ = some (.int .i64 x) ∧ w'.cell? ⟨X3, 4, none⟩ = some (.int .i64 l) ∧ w'.cell? ⟨X3, 5, none⟩ = some (.int .i64 m))) (by kernel_rfl) ⟨RX.cell 0 rfl, RX.cell 1 rfl, RX.cell 2 rfl, RX.cell 3 rfl, RX.cell 4 rfl, RX.cell 5 rfl⟩ (fun hHeld => ?_)
      generalize w6.drew = w7 at hHeld BZ rK rO rL RX CB z_RX z_CB ⊢
      refine Tk.W 0 (some 40) (.move (.tmp 8)) 4 none ?_
      refine Tk.W 1 (some 41) (.move (.tmp 10)) 4 none ?_
      refine Tk.W 2 (some 42) (.binOp .neq 4 (.tmp 40) (.tmp 41) 4) 4 none ?_
      refine Tk.W 3 (some 43) (.move (.tmp 42)) 4 none ?_
      refine Tk.W 4 (some 44) (.load 25 (.tmp 3)) 25 (some (3, false)) ?_
      refine Tk.W 6 (some 46) (.load 25 (.tmp 3)) 25 (some (3, false)) ?_
      refine Tk.R 5 (some 45) (.call ⟨.value (.func 12), #[.tmp 44], #[25]⟩) 4 (some (3, false)) (fun K hK => ?_)
      go_simp
      refine (Cd.i_RuleOk n f q x l m _).mono ?_
      rintro e w8 ⟨rfl, bq⟩
      replace BZ := BZ.trans (bq.mono BZ.size)
      replace rK := (rK.later bq (Nat.le_refl _)).more bq.size
      replace rO := (rO.later bq (Nat.le_refl _)).more bq.size
      replace rL := (rL.later bq (Nat.le_refl _)).more bq.size
      replace z_RX := Nat.lt_of_lt_of_le z_RX bq.size
      replace RX := RX.below bq
      replace z_CB := Nat.lt_of_lt_of_le z_CB bq.size
      replace CB := CB.below bq
      clear bq
      rw [HRV.out]
      try dsimp only
      refine hK.out _ _ ⟨RX.cell 0 rfl, RX.cell 1 rfl, RX.cell 2 rfl, RX.cell 3 rfl, RX.cell 4 rfl, RX.cell 5 rfl⟩ ?_; clear hK K hHeld; intro hHeld; try simp only [Act.put, List.setIfInBounds_toArray, List.set_cons_zero, List.set_cons_succ]
      refine Tk.R 7 (some 47) (.call ⟨.value (.func 13), #[.tmp 46], #[25]⟩) 4 (some (3, false)) (fun K hK => ?_)
      go_simp
      refine (Cd.ruleS n f q x l m _).mono ?_
      rintro e w9 ⟨rfl, bq⟩
      replace BZ := BZ.trans (bq.mono BZ.size)
      replace rK := (rK.later bq (Nat.le_refl _)).more bq.size
      replace rO := (rO.later bq (Nat.le_refl _)).more bq.size
      replace rL := (rL.later bq (Nat.le_refl _)).more bq.size
      replace z_RX := Nat.lt_of_lt_of_le z_RX bq.size
      replace RX := RX.below bq
      replace z_CB := Nat.lt_of_lt_of_le z_CB bq.size
      replace CB := CB.below bq
      clear bq
      rw [HRV.out]
      try dsimp only
      refine hK.out _ _ ⟨RX.cell 0 rfl, RX.cell 1 rfl, RX.cell 2 rfl, RX.cell 3 rfl, RX.cell 4 rfl, RX.cell 5 rfl⟩ ?_; clear hK K hHeld; intro hHeld; try simp only [Act.put, List.setIfInBounds_toArray, List.set_cons_zero, List.set_cons_succ]
      refine Tk.W 8 (some 48) (.binOp .neq 4 (.tmp 45) (.tmp 47) 4) 4 (some (3, false)) ?_
      refine Tk.W 9 (some 49) (.pick (.tmp 43) (.const (.bool true)) (.tmp 48)) 4 none ?_
      refine wpAnyH_done (by kernel_rfl) ?_ _
      refine NoPanic.normal ?_
      clear hHeld hvv
      have c8 := CB.cell 8 rfl
      go_wp2
      go_ret
      exact ⟨rfl, BZ⟩
  · go_enter Tryz.func3, Tryz.ntmps3
    go_wp2_with fail
    refine (great a0 len0 cap0 hl _).mono ?_
    rintro e w ⟨rfl, rfl⟩
    go_wp2
    go_ret
    exact ⟨rfl, Below.refl _ _⟩

/-! The row. -/
set_option maxRecDepth 100000 in
theorem lifted (os : Os) (started : os.Started) (H : Type) (enc : TypeId × Value → H) :
    ReturnsInHanded {} Tryz.checked os 3 .any (Rows.fnNewCourtSpec.pre6 enc Tryz.prog Tryz.f3 Rows.fnNewCourtRow.domain false) (Rows.fnNewCourtSpec.post enc Tryz.prog Tryz.f3 false true false false) := by
  refine returnsInHanded_of_change (C := Tryz.checked) own started (by kernel_rfl) Tryz.func3
    (ChangeSpec.witness6 (enc := enc) (C := Tryz.checked) false ⟨#[], #[.slice none 0 0], []⟩ 8 (by kernel_rfl) (by kernel_rfl) (by kernel_rfl) (by kernel_rfl)) ?_
  intro W base args ds gs before hval0 hW hcnd _
  have hval : ∀ (j : Nat) t v, Tryz.f3.params[j]? = some t → args[j]? = some v → Value.okWide Tryz.prog W .any base t v := hval0
  have hW' := hW
  obtain ⟨p, q, hA0, hV, rfl, hfz, hnd⟩ := hW
  have hA : DataW.TrodAll enc Tryz.prog W 0 (fun _ => true) true Tryz.f3.params.toList args.toList ds p := hA0
  rw [Tryz.params3] at hA hval
  obtain ⟨v0, vs0, d0, ds0, p0, q0, hargs, rfl, rfl, h0, r0⟩ := trodAll_cons hA
  obtain ⟨rfl, rfl, rfl⟩ := trodAll_nil r0
  obtain rfl : args = #[v0] := by cases args; simp_all
  obtain ⟨rfl, rfl⟩ := trodVars_none hV
  obtain ⟨a0, len0, cap0, rfl⟩ := okWide_slice Tryz.underlying22 (hval 0 22 v0 rfl rfl)
  have k0 := h0
  have lt0 : ∀ x ∈ p0, x.block < W.heap.size := by obtain ⟨m, hm⟩ := k0; exact DataW.trod_lt m _ _ _ hm
  obtain ⟨z0, w0⟩ : ∃ zs, IsRow .u8 W a0 len0 cap0 zs := by
    obtain ⟨fuel, hf⟩ := h0
    rcases open_ints Tryz.underlying22 Tryz.underlying5 (by kernel_rfl) hf with ⟨hcs, _⟩ | ⟨x, l, c, zs, hcs, _, hl, hm, hz, _, hcell, hwz⟩
    · simp [Value.cells] at hcs
      obtain ⟨rfl, rfl, rfl⟩ := hcs
      exact ⟨[], .inl ⟨rfl, rfl, rfl, rfl⟩⟩
    · simp [Value.cells] at hcs
      obtain ⟨rfl, rfl, rfl⟩ := hcs
      exact ⟨zs, .inr ⟨_, rfl, hl, hm, by simpa using hz, hcell, hwz⟩⟩
  clear hA0 hval0
  refine (walk a0 len0 cap0 z0 W w0).mono fun e W' ⟨he, bel⟩ => ?_
  subst he
  exact ⟨_, rfl, _, _, _, [], _, [], hW', trodAll_mk1 (shut_bool Tryz.underlying4 _), (trodAll_cons_mk (Below.trod laidOut (by kernel_rfl) (of_decide_eq_true (by kernel_rfl)) k0 bel lt0) trodAll_mk0), rfl, bel.frame _, fun h => by cases h⟩

theorem over : Rows.fnNewCourtRow.holds Tryz.pinned (OpenSpec.ofChange Rows.fnNewCourtSpec) :=
  OpenClaim.holds_of_wide 3 Tryz.f3 rfl rfl rfl rfl rfl rfl rfl ⟨rfl, rfl, rfl, rfl, rfl⟩ rfl rfl rfl rfl rfl (by kernel_rfl) Tryz.func3 (by kernel_rfl)
    (of_decide_eq_true (by kernel_rfl)) (by unfold Func.isWrapper; first | (rw [if_pos (by decide +kernel)]; kernel_rfl) | (rw [if_neg (by decide +kernel)]; exact ⟨rfl, rfl⟩))
    (fun os started H enc _ => lifted os started H enc)

end Go.Proofs.YtimakfokgcnklaaGreat.fnNewCourt

namespace Go.Proofs.YtimakfokgcnklaaGreat
/-- The given statement. -/
theorem fnNewCourt_holds : Rows.FnNewCourtSaid := fnNewCourt.over
#print axioms fnNewCourt_holds
end Go.Proofs.YtimakfokgcnklaaGreat
