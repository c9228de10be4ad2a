/-
  Whether two courts are alike; one that is marked.
-/
import Derived.Test.YtimakfokgcnklaaGreatCco
import Derived.Test.YtimakfokgcnklaaGreatMark
import Derived.Test.YtimakfokgcnklaaGreatSpan
namespace Go.Proofs.YtimakfokgcnklaaGreat.Cd
open Go.ChangeShapes Go.WideShapes Go.ChangeAt Go.RowKit
open Ls (el Row)
open Ow (Has)
open Bo (HasB)
open Rm (Room)
open Rd (Flags)
open Sb (S3 es fl sl Row3 SHas)
open Ns
set_option linter.unusedVariables false
set_option linter.unusedSimpArgs false

set_option maxHeartbeats 8000000 in
theorem eqCourt (c : CD) (aK aL aP aQ aM aF bK bL bP bQ bM bF : Option Addr) (cK cL cP cQ cM cF dK dL dP dQ dM dF : Nat) (w : World) (hA : c.At w aK aL aP aQ aM aF) (hB : c.At w bK bL bP bQ bM bF) (hz : c.sz ≤ 1048576) :
    Calls Tryz.prog 21 #[crt c (.slice aK c.zs.length cK) (.slice aL c.bs.length cL) (.slice aP c.ps.length cP) (.slice aQ c.qs.length cQ) (.slice aM c.ms.length cM) (.slice aF c.fs.length cF), crt c (.slice bK c.zs.length dK) (.slice bL c.bs.length dL) (.slice bP c.ps.length dP) (.slice bQ c.qs.length dQ) (.slice bM c.ms.length dM) (.slice bF c.fs.length dF)] w fun e w' => e = .returned (.bool true) ∧ Below w.heap.size w w' := by
  have BB : Below w.heap.size w ((w.alloc (.cells #[.int .i64 c.n, .int .i64 c.f, .int .i64 c.p, .int .i64 c.a, .int .i64 c.l, .int .i64 c.m, .slice aK c.zs.length cK, .slice aL c.bs.length cL, .slice aP c.ps.length cP, .slice aQ c.qs.length cQ, .int .i64 c.now, .slice aM c.ms.length cM, .slice aF c.fs.length cF] 35)).alloc (.cells #[.int .i64 c.n, .int .i64 c.f, .int .i64 c.p, .int .i64 c.a, .int .i64 c.l, .int .i64 c.m, .slice bK c.zs.length dK, .slice bL c.bs.length dL, .slice bP c.ps.length dP, .slice bQ c.qs.length dQ, .int .i64 c.now, .slice bM c.ms.length dM, .slice bF c.fs.length dF] 35)) := ((Below.refl w.heap.size w).alloc (Nat.le_refl _) _).alloc (by simp) _
  have RX := (Room.new w [.int .i64 c.n, .int .i64 c.f, .int .i64 c.p, .int .i64 c.a, .int .i64 c.l, .int .i64 c.m, .slice aK c.zs.length cK, .slice aL c.bs.length cL, .slice aP c.ps.length cP, .slice aQ c.qs.length cQ, .int .i64 c.now, .slice aM c.ms.length cM, .slice aF c.fs.length cF] 35).alloc (.cells #[.int .i64 c.n, .int .i64 c.f, .int .i64 c.p, .int .i64 c.a, .int .i64 c.l, .int .i64 c.m, .slice bK c.zs.length dK, .slice bL c.bs.length dL, .slice bP c.ps.length dP, .slice bQ c.qs.length dQ, .int .i64 c.now, .slice bM c.ms.length dM, .slice bF c.fs.length dF] 35)
  have RY := Room.at (w.alloc (.cells #[.int .i64 c.n, .int .i64 c.f, .int .i64 c.p, .int .i64 c.a, .int .i64 c.l, .int .i64 c.m, .slice aK c.zs.length cK, .slice aL c.bs.length cL, .slice aP c.ps.length cP, .slice aQ c.qs.length cQ, .int .i64 c.now, .slice aM c.ms.length cM, .slice aF c.fs.length cF] 35)) [.int .i64 c.n, .int .i64 c.f, .int .i64 c.p, .int .i64 c.a, .int .i64 c.l, .int .i64 c.m, .slice bK c.zs.length dK, .slice bL c.bs.length dL, .slice bP c.ps.length dP, .slice bQ c.qs.length dQ, .int .i64 c.now, .slice bM c.ms.length dM, .slice bF c.fs.length dF] 35 (w.heap.size + 1) (by simp)
  unfold CD.sz at hz
  go_enter Tryz.func21, Tryz.ntmps21
  go_wp2_with fail
  generalize (w.alloc (.cells #[.int .i64 c.n, .int .i64 c.f, .int .i64 c.p, .int .i64 c.a, .int .i64 c.l, .int .i64 c.m, .slice aK c.zs.length cK, .slice aL c.bs.length cL, .slice aP c.ps.length cP, .slice aQ c.qs.length cQ, .int .i64 c.now, .slice aM c.ms.length cM, .slice aF c.fs.length cF] 35)).alloc (.cells #[.int .i64 c.n, .int .i64 c.f, .int .i64 c.p, .int .i64 c.a, .int .i64 c.l, .int .i64 c.m, .slice bK c.zs.length dK, .slice bL c.bs.length dL, .slice bP c.ps.length dP, .slice bQ c.qs.length dQ, .int .i64 c.now, .slice bM c.ms.length dM, .slice bF c.fs.length dF] 35) = w1 at BB RX RY ⊢
  refine (eqRule c _).mono ?_
  rintro e v0 ⟨rfl, b0⟩
  replace BB := BB.trans (b0.mono BB.size)
  replace RX := RX.below b0
  replace RY := RY.below b0
  clear b0
  have x6 := RX.cell 6 rfl
  have y6 := RY.cell 6 rfl
  go_wp2_with fail
  clear x6 y6
  refine (Ls.eqInt64S _ _ _ _ _ _ _ (hA.below BB).K (hB.below BB).K (by omega)).mono ?_
  rintro e v1 ⟨rfl, b1⟩
  replace BB := BB.trans (b1.mono BB.size)
  replace RX := RX.below b1
  replace RY := RY.below b1
  clear b1
  have x7 := RX.cell 7 rfl
  have y7 := RY.cell 7 rfl
  go_wp2_with fail
  clear x7 y7
  refine (Bo.eqBoolS _ _ _ _ _ _ _ (hA.below BB).L (hB.below BB).L (by omega)).mono ?_
  rintro e v2 ⟨rfl, b2⟩
  replace BB := BB.trans (b2.mono BB.size)
  replace RX := RX.below b2
  replace RY := RY.below b2
  clear b2
  have x8 := RX.cell 8 rfl
  have y8 := RY.cell 8 rfl
  go_wp2_with fail
  clear x8 y8
  refine (eqPeerS _ _ _ _ _ _ _ (hA.below BB).P (hB.below BB).P (by omega)).mono ?_
  rintro e v3 ⟨rfl, b3⟩
  replace BB := BB.trans (b3.mono BB.size)
  replace RX := RX.below b3
  replace RY := RY.below b3
  clear b3
  have x9 := RX.cell 9 rfl
  have y9 := RY.cell 9 rfl
  go_wp2_with fail
  clear x9 y9
  refine (eqParcelS _ _ _ _ _ _ _ (hA.below BB).Q (hB.below BB).Q (by omega)).mono ?_
  rintro e v4 ⟨rfl, b4⟩
  replace BB := BB.trans (b4.mono BB.size)
  replace RX := RX.below b4
  replace RY := RY.below b4
  clear b4
  have x10 := RX.cell 10 rfl
  have x11 := RX.cell 11 rfl
  have y10 := RY.cell 10 rfl
  have y11 := RY.cell 11 rfl
  go_wp2_with fail
  clear x10 y10 x11 y11
  refine (Sb.eqSealS _ _ _ _ _ _ _ (hA.below BB).M (hB.below BB).M (by omega)).mono ?_
  rintro e v5 ⟨rfl, b5⟩
  replace BB := BB.trans (b5.mono BB.size)
  replace RX := RX.below b5
  replace RY := RY.below b5
  clear b5
  have x12 := RX.cell 12 rfl
  have y12 := RY.cell 12 rfl
  go_wp2_with fail
  clear x12 y12
  refine (Fb.eqFactS _ _ _ _ _ _ _ (hA.below BB).F (hB.below BB).F (by omega)).mono ?_
  rintro e v6 ⟨rfl, b6⟩
  replace BB := BB.trans (b6.mono BB.size)
  replace RX := RX.below b6
  replace RY := RY.below b6
  clear b6
  go_wp2
  go_ret
  exact ⟨rfl, BB⟩

/-- What the marks of a court add. -/
def CD.mks (c : CD) : Nat := c.zs.length + c.bs.length + (3 * c.ps.length + 3 * pz c.ps c.ps.length) + (2 * c.qs.length + 3 * qz c.qs c.qs.length) + 3 * c.ms.length + 3 * c.fs.length
theorem CD.mks_le (c : CD) : c.mks ≤ 3 * c.sz := by unfold CD.mks CD.sz; omega
set_option maxHeartbeats 8000000 in
theorem markCourt (s : Int) (c : CD) (B gK gL gP CP gQ CQ gM gF : Nat) (w : World) (h : Own c w B gK gL gP CP gQ CQ gM gF 6) (hz : c.sz ≤ 1048576) (hs0 : 0 ≤ s) (hs1 : s ≤ 10000000) :
    Calls Tryz.prog 29 #[crt c (.slice (some ⟨gK, 0, none⟩) c.zs.length c.zs.length) (.slice (some ⟨gL, 0, none⟩) c.bs.length c.bs.length) (.slice (some ⟨gP, 0, none⟩) c.ps.length c.ps.length) (.slice (some ⟨gQ, 0, none⟩) c.qs.length c.qs.length) (.slice (some ⟨gM, 0, none⟩) c.ms.length c.ms.length) (.slice (some ⟨gF, 0, none⟩) c.fs.length c.fs.length), .int .i64 s] w fun e w' => e = .returned (.int .i64 (s + (c.mks : Int))) ∧ Mid B (gF + 1) w w' := by
  have hz2 := hz
  unfold CD.sz at hz2
  have iK := h.iK (by omega)
  have iL := h.iL (by omega)
  have iP := h.iP (by omega)
  have iQ := h.iQ (by omega)
  have iM := h.iM (by omega)
  have iF := h.iF (by omega)
  have lP := (h.P (by omega)).lt
  have lQ := (h.Q (by omega)).lt
  have lF := (h.F (by omega)).2.2.1
  have b0 : Below w.heap.size w (w.alloc (.cells #[.int .i64 c.n, .int .i64 c.f, .int .i64 c.p, .int .i64 c.a, .int .i64 c.l, .int .i64 c.m, .slice (some ⟨gK, 0, none⟩) c.zs.length c.zs.length, .slice (some ⟨gL, 0, none⟩) c.bs.length c.bs.length, .slice (some ⟨gP, 0, none⟩) c.ps.length c.ps.length, .slice (some ⟨gQ, 0, none⟩) c.qs.length c.qs.length, .int .i64 c.now, .slice (some ⟨gM, 0, none⟩) c.ms.length c.ms.length, .slice (some ⟨gF, 0, none⟩) c.fs.length c.fs.length] 35)) := (Below.refl _ _).alloc (Nat.le_refl _) _
  have RX := Room.new w [.int .i64 c.n, .int .i64 c.f, .int .i64 c.p, .int .i64 c.a, .int .i64 c.l, .int .i64 c.m, .slice (some ⟨gK, 0, none⟩) c.zs.length c.zs.length, .slice (some ⟨gL, 0, none⟩) c.bs.length c.bs.length, .slice (some ⟨gP, 0, none⟩) c.ps.length c.ps.length, .slice (some ⟨gQ, 0, none⟩) c.qs.length c.qs.length, .int .i64 c.now, .slice (some ⟨gM, 0, none⟩) c.ms.length c.ms.length, .slice (some ⟨gF, 0, none⟩) c.fs.length c.fs.length] 35
  have MW : Mid B (gF + 1) w (w.alloc (.cells #[.int .i64 c.n, .int .i64 c.f, .int .i64 c.p, .int .i64 c.a, .int .i64 c.l, .int .i64 c.m, .slice (some ⟨gK, 0, none⟩) c.zs.length c.zs.length, .slice (some ⟨gL, 0, none⟩) c.bs.length c.bs.length, .slice (some ⟨gP, 0, none⟩) c.ps.length c.ps.length, .slice (some ⟨gQ, 0, none⟩) c.qs.length c.qs.length, .int .i64 c.now, .slice (some ⟨gM, 0, none⟩) c.ms.length c.ms.length, .slice (some ⟨gF, 0, none⟩) c.fs.length c.fs.length] 35)) := Mid.of_below b0
  have hK := (h.below b0).K (by omega)
  have hL := (h.below b0).L (by omega)
  have hP := (h.below b0).P (by omega)
  have hQ := (h.below b0).Q (by omega)
  have hM := (h.below b0).M (by omega)
  have hF := (h.below b0).F (by omega)
  clear h b0
  go_enter Tryz.func29, Tryz.ntmps29
  go_wp2_with fail
  generalize w.alloc (.cells #[.int .i64 c.n, .int .i64 c.f, .int .i64 c.p, .int .i64 c.a, .int .i64 c.l, .int .i64 c.m, .slice (some ⟨gK, 0, none⟩) c.zs.length c.zs.length, .slice (some ⟨gL, 0, none⟩) c.bs.length c.bs.length, .slice (some ⟨gP, 0, none⟩) c.ps.length c.ps.length, .slice (some ⟨gQ, 0, none⟩) c.qs.length c.qs.length, .int .i64 c.now, .slice (some ⟨gM, 0, none⟩) c.ms.length c.ms.length, .slice (some ⟨gF, 0, none⟩) c.fs.length c.fs.length] 35) = w1 at MW RX hK hL hP hQ hM hF ⊢
  refine (Ow.mark (s) gK gK 0 _ _ _ _ hK (by omega) (by omega) (by omega)).mono ?_
  rintro e w2K ⟨rfl, -, q⟩
  have m := Mid.of_grown (B := gK) (C := gK + 1) q (Nat.le_refl _) (by omega)
  replace hL := m.hasB hL (by omega)
  replace hP := hP.mid m (by omega)
  replace hQ := hQ.mid m (by omega)
  replace hM := m.hasS hM (by omega)
  replace hF := m.hasS hF (by omega)
  replace MW := MW.trans (m.wide (by omega) (by omega))
  replace RX := m.room RX (by simp) (.inr (by omega))
  clear m q
  have x := RX.cell 7 rfl
  go_wp2_with fail
  clear x
  refine (Bo.mark (s + (c.zs.length : Int)) gL gL 0 _ _ _ _ hL (by omega) (by omega) (by omega)).mono ?_
  rintro e w2L ⟨rfl, q⟩
  have m := Mid.of_grown (B := gL) (C := gL + 1) q (Nat.le_refl _) (by omega)
  replace hP := hP.mid m (by omega)
  replace hQ := hQ.mid m (by omega)
  replace hM := m.hasS hM (by omega)
  replace hF := m.hasS hF (by omega)
  replace MW := MW.trans (m.wide (by omega) (by omega))
  replace RX := m.room RX (by simp) (.inr (by omega))
  clear m q
  have x := RX.cell 8 rfl
  go_wp2_with fail
  clear x
  obtain ⟨vP, GP, eP, uP⟩ := hP
  refine (markPeerS (s + (c.zs.length : Int) + (c.bs.length : Int)) CP gP _ _ vP c.ps GP _ uP eP (by omega) (by omega) (by omega)).mono ?_
  rintro e w2P ⟨rfl, q⟩
  have m := q
  replace hQ := hQ.mid m (by omega)
  replace hM := m.hasS hM (by omega)
  replace hF := m.hasS hF (by omega)
  replace MW := MW.trans (m.wide (by omega) (by omega))
  replace RX := m.room RX (by simp) (.inr (by omega))
  clear m q
  have x := RX.cell 9 rfl
  go_wp2_with fail
  clear x
  obtain ⟨vQ, GQ, eQ, uQ⟩ := hQ
  refine (markParcelS (s + (c.zs.length : Int) + (c.bs.length : Int) + 3 * ((c.ps.length : Nat) : Int) + 3 * (pz c.ps c.ps.length : Int)) CQ gQ _ _ vQ c.qs GQ _ uQ eQ (by omega) (by omega) (by omega)).mono ?_
  rintro e w2Q ⟨rfl, q⟩
  have m := q
  replace hM := m.hasS hM (by omega)
  replace hF := m.hasS hF (by omega)
  replace MW := MW.trans (m.wide (by omega) (by omega))
  replace RX := m.room RX (by simp) (.inr (by omega))
  clear m q
  have x := RX.cell 11 rfl
  go_wp2_with fail
  clear x
  refine (Sb.markSealS (s + (c.zs.length : Int) + (c.bs.length : Int) + 3 * ((c.ps.length : Nat) : Int) + 3 * (pz c.ps c.ps.length : Int) + 2 * ((c.qs.length : Nat) : Int) + 3 * (qz c.qs c.qs.length : Int)) gM gM 0 _ _ _ _ hM (by omega) (by omega) (by omega)).mono ?_
  rintro e w2M ⟨rfl, -, q⟩
  have m := Mid.of_grown (B := gM) (C := gM + 1) q (Nat.le_refl _) (by omega)
  replace hF := m.hasS hF (by omega)
  replace MW := MW.trans (m.wide (by omega) (by omega))
  replace RX := m.room RX (by simp) (.inr (by omega))
  clear m q
  have x := RX.cell 12 rfl
  go_wp2_with fail
  clear x
  refine (Fb.markFactS (s + (c.zs.length : Int) + (c.bs.length : Int) + 3 * ((c.ps.length : Nat) : Int) + 3 * (pz c.ps c.ps.length : Int) + 2 * ((c.qs.length : Nat) : Int) + 3 * (qz c.qs c.qs.length : Int) + 3 * (c.ms.length : Int)) gF gF 0 _ _ _ _ hF (by omega) (by omega) (by omega)).mono ?_
  rintro e w2F ⟨rfl, -, q⟩
  have m := Mid.of_grown (B := gF) (C := gF + 1) q (Nat.le_refl _) (by omega)
  replace MW := MW.trans (m.wide (by omega) (by omega))
  replace RX := m.room RX (by simp) (.inr (by omega))
  clear m q
  have HE : Hid (s + (c.zs.length : Int) + (c.bs.length : Int) + 3 * ((c.ps.length : Nat) : Int) + 3 * (pz c.ps c.ps.length : Int) + 2 * ((c.qs.length : Nat) : Int) + 3 * (qz c.qs c.qs.length : Int) + 3 * (c.ms.length : Int) + 3 * (c.fs.length : Int) = s + (c.mks : Int)) := by show s + (c.zs.length : Int) + (c.bs.length : Int) + 3 * ((c.ps.length : Nat) : Int) + 3 * (pz c.ps c.ps.length : Int) + 2 * ((c.qs.length : Nat) : Int) + 3 * (qz c.qs c.qs.length : Int) + 3 * (c.ms.length : Int) + 3 * (c.fs.length : Int) = s + (c.mks : Int); unfold CD.mks; omega
  go_wp2
  go_ret
  exact ⟨Sp.reti HE.out, MW⟩

end Go.Proofs.YtimakfokgcnklaaGreat.Cd
