/-
  Who does not lie is as the model says
-/
import Derived.Test.YtimakfokgcnklaaGreatRows
import Derived.WalkKit
import Derived.ProofKit
import Derived.OpenShut
import Derived.ChangeOld
import Derived.Below
import Derived.Lib.SmallJoins
import Derived.Test.YtimakfokgcnklaaGreatOpW
import Derived.Test.YtimakfokgcnklaaGreatIm12
import Derived.RegionTactic
import Derived.Deep.RegionHeld3
import Derived.Test.YtimakfokgcnklaaGreatTk
namespace Go.Proofs.YtimakfokgcnklaaGreat.fnExactHonestIn
open Go.ChangeShapes Go.WideShapes Go.ChangeAt Go.RowKit Go.Joins
set_option linter.unusedVariables false
set_option linter.unusedSimpArgs false

theorem own : ownKnob Tryz.prog.godebug = none := by kernel_rfl
theorem laidOut : laidOutB Tryz.prog = true := by kernel_rfl


/-! The walk. -/
set_option maxHeartbeats 20000000 in
set_option maxRecDepth 100000 in
theorem walk (cd : Cd.CD) (aK aL aP aQ aM aF : Option Addr) (cK cL cP cQ cM cF : Nat) (w : World) (hA : cd.At w aK aL aP aQ aM aF) (hFt : cd.Fit) :
    Calls Tryz.prog 7 #[.agg #[.int .i64 cd.n, .int .i64 cd.f, .int .i64 cd.p, .int .i64 cd.a, .int .i64 cd.l, .int .i64 cd.m, .slice aK cd.zs.length cK, .slice aL cd.bs.length cL, .slice aP cd.ps.length cP, .slice aQ cd.qs.length cQ, .int .i64 cd.now, .slice aM cd.ms.length cM, .slice aF cd.fs.length cF]] w fun e w' => e = .returned (.bool true) ∧ Below w.heap.size w w' := by
  have KB : Cd.Kb cd aK aL aP aQ aM aF w (w.alloc (.cells #[.int .i64 cd.n, .int .i64 cd.f, .int .i64 cd.p, .int .i64 cd.a, .int .i64 cd.l, .int .i64 cd.m, .slice aK cd.zs.length cK, .slice aL cd.bs.length cL, .slice aP cd.ps.length cP, .slice aQ cd.qs.length cQ, .int .i64 cd.now, .slice aM cd.ms.length cM, .slice aF cd.fs.length cF] 52)) [.int .i64 cd.n, .int .i64 cd.f, .int .i64 cd.p, .int .i64 cd.a, .int .i64 cd.l, .int .i64 cd.m, .slice aK cd.zs.length cK, .slice aL cd.bs.length cL, .slice aP cd.ps.length cP, .slice aQ cd.qs.length cQ, .int .i64 cd.now, .slice aM cd.ms.length cM, .slice aF cd.fs.length cF] := ⟨(Below.refl _ _).alloc (Nat.le_refl _) _, Rm.Room.new w [.int .i64 cd.n, .int .i64 cd.f, .int .i64 cd.p, .int .i64 cd.a, .int .i64 cd.l, .int .i64 cd.m, .slice aK cd.zs.length cK, .slice aL cd.bs.length cL, .slice aP cd.ps.length cP, .slice aQ cd.qs.length cQ, .int .i64 cd.now, .slice aM cd.ms.length cM, .slice aF cd.fs.length cF] 52, hA.below ((Below.refl _ _).alloc (Nat.le_refl _) _)⟩
  by_cases hz : cd.sz ≤ 1048576
  case neg =>
    have HZ : Hid (Cd.lf 1048576 cd.sz = -1) := Cd.lf_no (by omega)
    clear hz
    go_enter Tryz.func7, Tryz.ntmps7
    go_wp2_with fail
    generalize w.alloc (.cells #[.int .i64 cd.n, .int .i64 cd.f, .int .i64 cd.p, .int .i64 cd.a, .int .i64 cd.l, .int .i64 cd.m, .slice aK cd.zs.length cK, .slice aL cd.bs.length cL, .slice aP cd.ps.length cP, .slice aQ cd.qs.length cQ, .int .i64 cd.now, .slice aM cd.ms.length cM, .slice aF cd.fs.length cF] 52) = w0 at KB ⊢
    refine (Cd.szCourt cd aK aL aP aQ aM aF cK cL cP cQ cM cF _ KB.A hFt).mono ?_
    rintro e w1 ⟨rfl, b1⟩
    rw [HZ.out]
    replace KB := KB.below b1
    go_wp2
    go_ret
    exact ⟨rfl, KB.B⟩
  case pos =>
    have HZ : Hid (Cd.lf 1048576 cd.sz = 1048576 - (cd.sz : Int)) := Cd.lf_yes (by omega)
    have d : decide ((1048576 : Int) - (cd.sz : Int) < 0) = false := decide_eq_false (by omega)
    go_enter Tryz.func7, Tryz.ntmps7
    go_wp2_with fail
    generalize w.alloc (.cells #[.int .i64 cd.n, .int .i64 cd.f, .int .i64 cd.p, .int .i64 cd.a, .int .i64 cd.l, .int .i64 cd.m, .slice aK cd.zs.length cK, .slice aL cd.bs.length cL, .slice aP cd.ps.length cP, .slice aQ cd.qs.length cQ, .int .i64 cd.now, .slice aM cd.ms.length cM, .slice aF cd.fs.length cF] 52) = w0 at KB ⊢
    refine (Cd.szCourt cd aK aL aP aQ aM aF cK cL cP cQ cM cF _ KB.A hFt).mono ?_
    rintro e w1 ⟨rfl, b1⟩
    rw [HZ.out]
    replace KB := KB.below b1
    clear b1
    have k0 := KB.X.cell 0 rfl
    have k1 := KB.X.cell 1 rfl
    have k2 := KB.X.cell 2 rfl
    have k3 := KB.X.cell 3 rfl
    have k4 := KB.X.cell 4 rfl
    have k5 := KB.X.cell 5 rfl
    have k6 := KB.X.cell 6 rfl
    have k7 := KB.X.cell 7 rfl
    have k8 := KB.X.cell 8 rfl
    have k9 := KB.X.cell 9 rfl
    have k10 := KB.X.cell 10 rfl
    have k11 := KB.X.cell 11 rfl
    have k12 := KB.X.cell 12 rfl
    go_wp2_with fail
    clear k0 k1 k2 k3 k4 k5 k6 k7 k8 k9 k10 k11 k12
    refine (Cd.toCourt cd aK aL aP aQ aM aF cK cL cP cQ cM cF _ KB.A hz).mono ?_
    rintro e w21 ⟨⟨gK1, gL1, gP1, CP1, gQ1, CQ1, gM1, gF1, rfl, O1⟩, b2⟩
    replace KB := KB.below b2
    clear b2
    go_wp2_with fail
    refine (Cd.honestInS cd _ _ _ _ _ _ _ _ _ _ _ _ _ (O1.at rfl) (Cd.CD.Sm.of hz)).mono ?_
    rintro e w3 ⟨⟨gW, cW, rfl, oW⟩, b3⟩
    replace KB := KB.below b3
    clear b3 O1
    have hL0 : (Cd.HI cd).length ≤ 1048576 := by have := hz; unfold Cd.CD.sz at this; unfold Cd.HI; split; have := Cd.hn_len cd.bs cd.bs.length; omega; simp
    obtain ⟨L, hv⟩ : ∃ L, Cd.HI cd = L := ⟨_, rfl⟩
    have HV : Hid (Cd.HI cd = L) := hv
    rw [hv] at hL0
    clear hv
    rw [HV.out] at oW ⊢
    have hW : Ow.Has w3 gW gW 0 L.length L := ⟨oW.data.1, Nat.le_refl _, oW.lt, fun k hk => by rw [Nat.zero_add]; exact (oW.cell k hk).1, fun k hk => by rw [Nat.zero_add]; exact (oW.cell k hk).2⟩
    have lW := oW.lt
    clear oW
    have hwX := KB.X.lt (by simp)
    have k0 := KB.X.cell 0 rfl
    have k1 := KB.X.cell 1 rfl
    have k2 := KB.X.cell 2 rfl
    have k3 := KB.X.cell 3 rfl
    have k4 := KB.X.cell 4 rfl
    have k5 := KB.X.cell 5 rfl
    have k6 := KB.X.cell 6 rfl
    have k7 := KB.X.cell 7 rfl
    have k8 := KB.X.cell 8 rfl
    have k9 := KB.X.cell 9 rfl
    have k10 := KB.X.cell 10 rfl
    have k11 := KB.X.cell 11 rfl
    have k12 := KB.X.cell 12 rfl
    go_wp2_with fail
    clear k0 k1 k2 k3 k4 k5 k6 k7 k8 k9 k10 k11 k12
    refine (Cd.toCourt cd aK aL aP aQ aM aF cK cL cP cQ cM cF _ KB.A hz).mono ?_
    rintro e w22 ⟨⟨gK2, gL2, gP2, CP2, gQ2, CQ2, gM2, gF2, rfl, O2⟩, b2⟩
    replace KB := KB.below b2
    replace hW := hW.later b2 hW.2.2.1
    clear b2
    have hB : gW < w3.heap.size + 3 := by omega
    have hwB : w.heap.size < w3.heap.size + 3 := by omega
    obtain ⟨B2, hB2⟩ : ∃ B, B = w3.heap.size + 3 := ⟨_, rfl⟩
    rw [← hB2] at O2 hB hwB
    clear hB2 lW hwX
    go_wp2_with fail
    have RX := Rm.Room.new w22 [.int .i64 cd.n, .int .i64 cd.f, .int .i64 cd.p, .int .i64 cd.a, .int .i64 cd.l, .int .i64 cd.m, .slice (some ⟨gK2, 0, none⟩) cd.zs.length cd.zs.length, .slice (some ⟨gL2, 0, none⟩) cd.bs.length cd.bs.length, .slice (some ⟨gP2, 0, none⟩) cd.ps.length cd.ps.length, .slice (some ⟨gQ2, 0, none⟩) cd.qs.length cd.qs.length, .int .i64 cd.now, .slice (some ⟨gM2, 0, none⟩) cd.ms.length cd.ms.length, .slice (some ⟨gF2, 0, none⟩) cd.fs.length cd.fs.length] 35
    have b5 := (Below.refl w22.heap.size w22).alloc (Nat.le_refl _) (.cells #[.int .i64 cd.n, .int .i64 cd.f, .int .i64 cd.p, .int .i64 cd.a, .int .i64 cd.l, .int .i64 cd.m, .slice (some ⟨gK2, 0, none⟩) cd.zs.length cd.zs.length, .slice (some ⟨gL2, 0, none⟩) cd.bs.length cd.bs.length, .slice (some ⟨gP2, 0, none⟩) cd.ps.length cd.ps.length, .slice (some ⟨gQ2, 0, none⟩) cd.qs.length cd.qs.length, .int .i64 cd.now, .slice (some ⟨gM2, 0, none⟩) cd.ms.length cd.ms.length, .slice (some ⟨gF2, 0, none⟩) cd.fs.length cd.fs.length] 35)
    replace KB := KB.below b5
    replace O2 := O2.below b5
    replace hW := hW.later b5 hW.2.2.1
    obtain ⟨X, hX⟩ : ∃ X, X = w22.heap.size := ⟨_, rfl⟩
    rw [← hX] at RX ⊢
    generalize w22.alloc (.cells #[.int .i64 cd.n, .int .i64 cd.f, .int .i64 cd.p, .int .i64 cd.a, .int .i64 cd.l, .int .i64 cd.m, .slice (some ⟨gK2, 0, none⟩) cd.zs.length cd.zs.length, .slice (some ⟨gL2, 0, none⟩) cd.bs.length cd.bs.length, .slice (some ⟨gP2, 0, none⟩) cd.ps.length cd.ps.length, .slice (some ⟨gQ2, 0, none⟩) cd.qs.length cd.qs.length, .int .i64 cd.now, .slice (some ⟨gM2, 0, none⟩) cd.ms.length cd.ms.length, .slice (some ⟨gF2, 0, none⟩) cd.fs.length cd.fs.length] 35) = w6 at KB O2 RX hW ⊢
    clear b5 hX
    refine (Mi.i_HonestIn cd _ _ _ _ _ _ _ _ _ _ _ _ _ (O2.at rfl) (Cd.CD.Sm.of hz)).mono ?_
    rintro e w7 ⟨⟨gG, cG, rfl, oG⟩, b7⟩
    rw [HV.out] at oG ⊢
    have lF := (O2.F (by omega)).2.2.1
    have bG := oG.data.2.1
    have lWG := hW.2.2.1
    replace KB := KB.below b7
    replace O2 := O2.below b7
    replace RX := RX.below b7
    replace hW := hW.later b7 hW.2.2.1
    clear b7
    have hG : Ow.Has w7 gG gG 0 L.length L := ⟨oG.data.1, Nat.le_refl _, oG.lt, fun k hk => by rw [Nat.zero_add]; exact (oG.cell k hk).1, fun k hk => by rw [Nat.zero_add]; exact (oG.cell k hk).2⟩
    clear oG
    have hFG : gF2 + 1 ≤ gG := by omega
    have hWG : gW ≠ gG := by omega
    have hwG : w.heap.size < gG := by have a1 := O2.iK (by omega); have a2 := O2.iL (by omega); have a3 := O2.iP (by omega); have a4 := (O2.P (by omega)).lt; have a5 := O2.iQ (by omega); have a6 := (O2.Q (by omega)).lt; have a7 := O2.iM (by omega); have a8 := O2.iF (by omega); omega
    clear lF bG lWG
    go_wp2_with fail
    refine (Ls.eqInt64S _ _ _ _ _ L _ hG.row hW.row hL0).mono ?_
    rintro e w8 ⟨rfl, b8⟩
    replace KB := KB.below b8
    replace O2 := O2.below b8
    replace RX := RX.below b8
    replace hW := hW.later b8 hW.2.2.1
    replace hG := hG.later b8 hG.2.2.1
    clear b8
    go_wp2_with fail
    replace KB := KB.below (Below.refl _ _).drew
    replace O2 := O2.below (Below.refl _ _).drew
    replace RX := RX.drew
    have dW := hW.later (Below.refl _ _).drew hW.2.2.1
    have dG := hG.later (Below.refl _ _).drew hG.2.2.1
    clear hW hG
    refine wp_region_noPanic ?_
    refine wp_region_held_drew (S := (fun w' => (w'.cell? ⟨X, 0, none⟩ = some (.int .i64 cd.n) ∧ w'.cell? ⟨X, 1, none⟩ = some (.int .i64 cd.f) ∧ w'.cell? ⟨X, 2, none⟩ = some (.int .i64 cd.p) ∧ w'.cell? ⟨X, 3, none⟩ = some (.int .i64 cd.a) ∧ w'.cell? ⟨X, 4, none⟩ = some (.int .i64 cd.l) ∧ w'.cell? ⟨X, 5, none⟩ = some (.int .i64 cd.m) ∧ w'.cell? ⟨X, 6, none⟩ = some (.slice (some ⟨gK2, 0, none⟩) cd.zs.length cd.zs.length) ∧ w'.cell? ⟨X, 7, none⟩ = some (.slice (some ⟨gL2, 0, none⟩) cd.bs.length cd.bs.length) ∧ w'.cell? ⟨X, 8, none⟩ = some (.slice (some ⟨gP2, 0, none⟩) cd.ps.length cd.ps.length) ∧ w'.cell? ⟨X, 9, none⟩ = some (.slice (some ⟨gQ2, 0, none⟩) cd.qs.length cd.qs.length) ∧ w'.cell? ⟨X, 10, none⟩ = some (.int .i64 cd.now) ∧ w'.cell? ⟨X, 11, none⟩ = some (.slice (some ⟨gM2, 0, none⟩) cd.ms.length cd.ms.length) ∧ w'.cell? ⟨X, 12, none⟩ = some (.slice (some ⟨gF2, 0, none⟩) cd.fs.length cd.fs.length)) ∧ (w'.cell? ⟨w.heap.size, 0, none⟩ = some (.int .i64 cd.n) ∧ w'.cell? ⟨w.heap.size, 1, none⟩ = some (.int .i64 cd.f) ∧ w'.cell? ⟨w.heap.size, 2, none⟩ = some (.int .i64 cd.p) ∧ w'.cell? ⟨w.heap.size, 3, none⟩ = some (.int .i64 cd.a) ∧ w'.cell? ⟨w.heap.size, 4, none⟩ = some (.int .i64 cd.l) ∧ w'.cell? ⟨w.heap.size, 5, none⟩ = some (.int .i64 cd.m) ∧ w'.cell? ⟨w.heap.size, 6, none⟩ = some (.slice aK cd.zs.length cK) ∧ w'.cell? ⟨w.heap.size, 7, none⟩ = some (.slice aL cd.bs.length cL) ∧ w'.cell? ⟨w.heap.size, 8, none⟩ = some (.slice aP cd.ps.length cP) ∧ w'.cell? ⟨w.heap.size, 9, none⟩ = some (.slice aQ cd.qs.length cQ) ∧ w'.cell? ⟨w.heap.size, 10, none⟩ = some (.int .i64 cd.now) ∧ w'.cell? ⟨w.heap.size, 11, none⟩ = some (.slice aM cd.ms.length cM) ∧ w'.cell? ⟨w.heap.size, 12, none⟩ = some (.slice aF cd.fs.length cF)) ∧ Hid (Cd.Kb cd aK aL aP aQ aM aF w w' [.int .i64 cd.n, .int .i64 cd.f, .int .i64 cd.p, .int .i64 cd.a, .int .i64 cd.l, .int .i64 cd.m, .slice aK cd.zs.length cK, .slice aL cd.bs.length cL, .slice aP cd.ps.length cP, .slice aQ cd.qs.length cQ, .int .i64 cd.now, .slice aM cd.ms.length cM, .slice aF cd.fs.length cF] ∧ Cd.Own cd w' B2 gK2 gL2 gP2 CP2 gQ2 CQ2 gM2 gF2 6 ∧ Rm.Room w' X [.int .i64 cd.n, .int .i64 cd.f, .int .i64 cd.p, .int .i64 cd.a, .int .i64 cd.l, .int .i64 cd.m, .slice (some ⟨gK2, 0, none⟩) cd.zs.length cd.zs.length, .slice (some ⟨gL2, 0, none⟩) cd.bs.length cd.bs.length, .slice (some ⟨gP2, 0, none⟩) cd.ps.length cd.ps.length, .slice (some ⟨gQ2, 0, none⟩) cd.qs.length cd.qs.length, .int .i64 cd.now, .slice (some ⟨gM2, 0, none⟩) cd.ms.length cd.ms.length, .slice (some ⟨gF2, 0, none⟩) cd.fs.length cd.fs.length] ∧ Ow.Has w' gW gW 0 L.length L ∧ Ow.Has w' gG gG 0 L.length L))) (by kernel_rfl) ⟨⟨RX.cell 0 rfl, RX.cell 1 rfl, RX.cell 2 rfl, RX.cell 3 rfl, RX.cell 4 rfl, RX.cell 5 rfl, RX.cell 6 rfl, RX.cell 7 rfl, RX.cell 8 rfl, RX.cell 9 rfl, RX.cell 10 rfl, RX.cell 11 rfl, RX.cell 12 rfl⟩, ⟨KB.X.cell 0 rfl, KB.X.cell 1 rfl, KB.X.cell 2 rfl, KB.X.cell 3 rfl, KB.X.cell 4 rfl, KB.X.cell 5 rfl, KB.X.cell 6 rfl, KB.X.cell 7 rfl, KB.X.cell 8 rfl, KB.X.cell 9 rfl, KB.X.cell 10 rfl, KB.X.cell 11 rfl, KB.X.cell 12 rfl⟩, ⟨KB, O2, RX, dW, dG⟩⟩ (fun hHeld => ?_)
    refine Tk.W 0 (some 27) (.load 35 (.tmp 5)) 35 none ?_
    refine Tk.W 1 (some 28) (.load 52 (.tmp 1)) 52 none ?_
    refine Tk.R 2 (some 29) (.call ⟨.value (.func 20), #[.tmp 28], #[52]⟩) 35 none (fun K hK => ?_)
    go_simp
    refine (Cd.toCourt cd aK aL aP aQ aM aF cK cL cP cQ cM cF _ hHeld.2.2.out.1.A hz).mono ?_
    rintro e wv ⟨⟨gK3, gL3, gP3, CP3, gQ3, CQ3, gM3, gF3, rfl, O3⟩, b3⟩
    have KB3 := hHeld.2.2.out.1.below b3
    have O23 := hHeld.2.2.out.2.1.below b3
    have RX3 := hHeld.2.2.out.2.2.1.below b3
    have dWt3 := hHeld.2.2.out.2.2.2.1.later b3 (hHeld.2.2.out.2.2.2.1).2.2.1
    have dGt3 := hHeld.2.2.out.2.2.2.2.later b3 (hHeld.2.2.out.2.2.2.2).2.2.1
    clear b3
    try dsimp only
    refine hK.out _ _ ⟨⟨RX3.cell 0 rfl, RX3.cell 1 rfl, RX3.cell 2 rfl, RX3.cell 3 rfl, RX3.cell 4 rfl, RX3.cell 5 rfl, RX3.cell 6 rfl, RX3.cell 7 rfl, RX3.cell 8 rfl, RX3.cell 9 rfl, RX3.cell 10 rfl, RX3.cell 11 rfl, RX3.cell 12 rfl⟩, ⟨KB3.X.cell 0 rfl, KB3.X.cell 1 rfl, KB3.X.cell 2 rfl, KB3.X.cell 3 rfl, KB3.X.cell 4 rfl, KB3.X.cell 5 rfl, KB3.X.cell 6 rfl, KB3.X.cell 7 rfl, KB3.X.cell 8 rfl, KB3.X.cell 9 rfl, KB3.X.cell 10 rfl, KB3.X.cell 11 rfl, KB3.X.cell 12 rfl⟩, ⟨KB3, O23, RX3, dWt3, dGt3⟩⟩ ?_; clear hK K hHeld; intro hHeld; try simp only [Act.put, List.setIfInBounds_toArray, List.set_cons_zero, List.set_cons_succ]
    refine Tk.R 3 (some 30) (.call ⟨.value (.func 21), #[.tmp 27, .tmp 29], #[35, 35]⟩) 4 none (fun K hK => ?_)
    go_simp
    refine (Cd.eqCourt cd _ _ _ _ _ _ _ _ _ _ _ _ _ _ _ _ _ _ _ _ _ _ _ _ _ (hHeld.2.2.out.2.1.at rfl) (O3.at rfl) hz).mono ?_
    rintro e wu ⟨rfl, b4⟩
    have KB4 := hHeld.2.2.out.1.below b4
    have O24 := hHeld.2.2.out.2.1.below b4
    have RX4 := hHeld.2.2.out.2.2.1.below b4
    have dWt4 := hHeld.2.2.out.2.2.2.1.later b4 (hHeld.2.2.out.2.2.2.1).2.2.1
    have dGt4 := hHeld.2.2.out.2.2.2.2.later b4 (hHeld.2.2.out.2.2.2.2).2.2.1
    clear b4 O3
    try dsimp only
    refine hK.out _ _ ⟨⟨RX4.cell 0 rfl, RX4.cell 1 rfl, RX4.cell 2 rfl, RX4.cell 3 rfl, RX4.cell 4 rfl, RX4.cell 5 rfl, RX4.cell 6 rfl, RX4.cell 7 rfl, RX4.cell 8 rfl, RX4.cell 9 rfl, RX4.cell 10 rfl, RX4.cell 11 rfl, RX4.cell 12 rfl⟩, ⟨KB4.X.cell 0 rfl, KB4.X.cell 1 rfl, KB4.X.cell 2 rfl, KB4.X.cell 3 rfl, KB4.X.cell 4 rfl, KB4.X.cell 5 rfl, KB4.X.cell 6 rfl, KB4.X.cell 7 rfl, KB4.X.cell 8 rfl, KB4.X.cell 9 rfl, KB4.X.cell 10 rfl, KB4.X.cell 11 rfl, KB4.X.cell 12 rfl⟩, ⟨KB4, O24, RX4, dWt4, dGt4⟩⟩ ?_; clear hK K hHeld; intro hHeld; try simp only [Act.put, List.setIfInBounds_toArray, List.set_cons_zero, List.set_cons_succ]
    refine Tk.W 4 (some 31) (.unOp .not 4 (.tmp 30)) 4 none ?_
    refine wpAnyH_done (by kernel_rfl) ?_ _
    refine NoPanic.normal ?_
    have KB5 := hHeld.2.2.out.1
    have O25 := hHeld.2.2.out.2.1
    have RX5 := hHeld.2.2.out.2.2.1
    have hW := hHeld.2.2.out.2.2.2.1
    have hG := hHeld.2.2.out.2.2.2.2
    clear hHeld KB O2 RX
    have x0 := RX5.cell 0 rfl
    have x1 := RX5.cell 1 rfl
    have x2 := RX5.cell 2 rfl
    have x3 := RX5.cell 3 rfl
    have x4 := RX5.cell 4 rfl
    have x5 := RX5.cell 5 rfl
    have x6 := RX5.cell 6 rfl
    have x7 := RX5.cell 7 rfl
    have x8 := RX5.cell 8 rfl
    have x9 := RX5.cell 9 rfl
    have x10 := RX5.cell 10 rfl
    have x11 := RX5.cell 11 rfl
    have x12 := RX5.cell 12 rfl
    have dm : decide ((1 : Int) + (cd.mks : Int) < 0) = false := decide_eq_false (by omega)
    go_wp2_with fail
    clear x0 x1 x2 x3 x4 x5 x6 x7 x8 x9 x10 x11 x12 RX5
    refine (Cd.markCourt 1 cd B2 gK2 gL2 gP2 CP2 gQ2 CQ2 gM2 gF2 _ O25 hz (by omega) (by omega)).mono ?_
    rintro e wa ⟨rfl, ma⟩
    have KB := KB5.of_mid ma hwB hA
    replace hW := ma.has hW (.inl hB)
    replace hG := ma.has hG (.inr hFG)
    clear ma KB5 O25
    go_wp2_with fail
    refine (Ls.eqInt64S _ _ _ _ _ L _ hG.row hW.row hL0).mono ?_
    rintro e wb ⟨rfl, bb⟩
    replace KB := KB.below bb
    replace hW := hW.later bb hW.2.2.1
    replace hG := hG.later bb hG.2.2.1
    clear bb dm
    go_wp2_with fail
    refine (Ow.mark 1 gG gG 0 _ _ L _ hG hL0 (by omega) (by omega)).mono ?_
    rintro e wc ⟨rfl, hG2, gc⟩
    replace KB := KB.of_grown gc hwG hA
    replace hW := hW.kept gc hWG
    clear gc hG
    have dn : decide ((1 : Int) + (L.length : Int) < 0) = false := decide_eq_false (by omega)
    go_wp2_with fail
    refine (Ow.held 1 gG gG 0 _ _ _ hG2 hL0 (by omega) (by omega)).mono ?_
    rintro e wd ⟨rfl, rfl⟩
    have k0 := KB.X.cell 0 rfl
    have k1 := KB.X.cell 1 rfl
    have k2 := KB.X.cell 2 rfl
    have k3 := KB.X.cell 3 rfl
    have k4 := KB.X.cell 4 rfl
    have k5 := KB.X.cell 5 rfl
    have k6 := KB.X.cell 6 rfl
    have k7 := KB.X.cell 7 rfl
    have k8 := KB.X.cell 8 rfl
    have k9 := KB.X.cell 9 rfl
    have k10 := KB.X.cell 10 rfl
    have k11 := KB.X.cell 11 rfl
    have k12 := KB.X.cell 12 rfl
    go_wp2_with fail
    clear k0 k1 k2 k3 k4 k5 k6 k7 k8 k9 k10 k11 k12
    refine (Cd.toCourt cd aK aL aP aQ aM aF cK cL cP cQ cM cF _ KB.A hz).mono ?_
    rintro e we ⟨⟨gK4, gL4, gP4, CP4, gQ4, CQ4, gM4, gF4, rfl, O4⟩, be⟩
    replace KB := KB.below be
    replace hW := hW.later be hW.2.2.1
    replace hG2 := hG2.later be hG2.2.2.1
    clear be
    go_wp2_with fail
    refine (Mi.i_HonestIn cd _ _ _ _ _ _ _ _ _ _ _ _ _ (O4.at rfl) (Cd.CD.Sm.of hz)).mono ?_
    rintro e wf_ ⟨⟨gH, cH, rfl, oH⟩, bf⟩
    rw [HV.out] at oH ⊢
    replace KB := KB.below bf
    replace hW := hW.later bf hW.2.2.1
    replace hG2 := hG2.later bf hG2.2.2.1
    clear bf O4
    have hH : Ow.Has wf_ gH gH 0 L.length L := ⟨oH.data.1, Nat.le_refl _, oH.lt, fun k hk => by rw [Nat.zero_add]; exact (oH.cell k hk).1, fun k hk => by rw [Nat.zero_add]; exact (oH.cell k hk).2⟩
    clear oH
    go_wp2_with fail
    refine (Ls.eqInt64S _ _ _ _ _ L _ hH.row hW.row hL0).mono ?_
    rintro e wg ⟨rfl, bg⟩
    replace KB := KB.below bg
    replace hG2 := hG2.later bg hG2.2.2.1
    clear bg hH hW
    go_wp2_with fail
    refine (Ow.held 1 gG gG 0 _ _ _ hG2 hL0 (by omega) (by omega)).mono ?_
    rintro e wh ⟨rfl, rfl⟩
    go_wp2
    go_ret
    exact ⟨rfl, KB.B⟩

/-! The row. -/
set_option maxRecDepth 100000 in
theorem lifted (os : Os) (started : os.Started) (H : Type) (enc : TypeId × Value → H) :
    ReturnsInHanded {} Tryz.checked os 7 .any (Rows.fnExactHonestInSpec.pre6 enc Tryz.prog Tryz.f7 Rows.fnExactHonestInRow.domain false) (Rows.fnExactHonestInSpec.post enc Tryz.prog Tryz.f7 false true false false) := by
  refine returnsInHanded_of_change (C := Tryz.checked) own started (by kernel_rfl) Tryz.func7
    (ChangeSpec.witness6 (enc := enc) (C := Tryz.checked) false ⟨#[], #[.agg #[.int .i64 0, .int .i64 0, .int .i64 0, .int .i64 0, .int .i64 0, .int .i64 0, .slice none 0 0, .slice none 0 0, .slice none 0 0, .slice none 0 0, .int .i64 0, .slice none 0 0, .slice none 0 0]], []⟩ 8 (by kernel_rfl) (by kernel_rfl) (by kernel_rfl) (by kernel_rfl)) ?_
  intro W base args ds gs before hval0 hW hcnd _
  have hval : ∀ (j : Nat) t v, Tryz.f7.params[j]? = some t → args[j]? = some v → Value.okWide Tryz.prog W .any base t v := hval0
  have hW' := hW
  obtain ⟨p, q, hA0, hV, rfl, hfz, hnd⟩ := hW
  have hA : DataW.TrodAll enc Tryz.prog W 0 (fun _ => true) true Tryz.f7.params.toList args.toList ds p := hA0
  rw [Tryz.params7] at hA hval
  obtain ⟨v0, vs0, d0, ds0, p0, q0, hargs, rfl, rfl, h0, r0⟩ := trodAll_cons hA
  obtain ⟨rfl, rfl, rfl⟩ := trodAll_nil r0
  obtain rfl : args = #[v0] := by cases args; simp_all
  obtain ⟨rfl, rfl⟩ := trodVars_none hV
  have k0' := h0
  have lt0' : ∀ x ∈ p0, x.block < W.heap.size := by obtain ⟨m, hm⟩ := k0'; exact DataW.trod_lt m _ _ _ hm
  have rd0 := Rd.Reads.of h0
  obtain ⟨cs0, rfl, _⟩ := okWide_struct Tryz.underlying52 (hval 0 52 v0 rfl rfl)
  obtain ⟨cd, aK, aL, aP, aQ, aM, aF, cK, cL, cP, cQ, cM, cF, rfl, hA, hFt⟩ := Rd.court rd0
  clear hA0 hval0
  refine (walk cd aK aL aP aQ aM aF cK cL cP cQ cM cF W hA hFt).mono fun e W' ⟨he, bel⟩ => ?_
  subst he
  exact ⟨_, rfl, _, _, _, [], _, [], hW', trodAll_mk1 (shut_bool Tryz.underlying4 _), (trodAll_cons_mk (Below.trod laidOut (by kernel_rfl) (of_decide_eq_true (by kernel_rfl)) k0' bel lt0') trodAll_mk0), rfl, bel.frame _, fun h => by cases h⟩

theorem over : Rows.fnExactHonestInRow.holds Tryz.pinned (OpenSpec.ofChange Rows.fnExactHonestInSpec) :=
  OpenClaim.holds_of_wide 7 Tryz.f7 rfl rfl rfl rfl rfl rfl rfl ⟨rfl, rfl, rfl, rfl, rfl⟩ rfl rfl rfl rfl rfl (by kernel_rfl) Tryz.func7 (by kernel_rfl)
    (of_decide_eq_true (by kernel_rfl)) (by unfold Func.isWrapper; first | (rw [if_pos (by decide +kernel)]; kernel_rfl) | (rw [if_neg (by decide +kernel)]; exact ⟨rfl, rfl⟩))
    (fun os started H enc _ => lifted os started H enc)

end Go.Proofs.YtimakfokgcnklaaGreat.fnExactHonestIn

namespace Go.Proofs.YtimakfokgcnklaaGreat
/-- The given statement. -/
theorem fnExactHonestIn_holds : Rows.FnExactHonestInSaid := fnExactHonestIn.over
#print axioms fnExactHonestIn_holds
end Go.Proofs.YtimakfokgcnklaaGreat
