/-
  A court: right or not (spec.CourtOk), at whatever court.
-/
import Derived.Test.YtimakfokgcnklaaGreatCs3
import Derived.Test.YtimakfokgcnklaaGreatCt1
import Derived.Test.YtimakfokgcnklaaGreatTk
namespace Go.Proofs.YtimakfokgcnklaaGreat.Cd
open Go.ChangeShapes Go.WideShapes Go.ChangeAt Go.RowKit
open Ls (el Row)
open Rm (Room)
open Rd (Flags)
open Sb (S3 es es_ext fl sl Row3 SHas)
open Ns
open Sl (KO lk_yes lk_no)
open Sp (LK retb)
open Ct (CT)
set_option linter.unusedVariables false
set_option linter.unusedSimpArgs false

/-- Each of its lists is of an ordinary length. -/
structure CD.Sm (c : CD) : Prop where
  K : c.zs.length ≤ 1048576
  L : c.bs.length ≤ 1048576
  P : c.ps.length ≤ 1048576
  P2 : ∀ j, j < c.ps.length → (pd c.ps j).2.2.2.length ≤ 1048576
  Q : c.qs.length ≤ 1048576
  Q2 : ∀ j, j < c.qs.length → (qd c.qs j).2.2.length ≤ 1048576
  M : c.ms.length ≤ 1048576
  F : c.fs.length ≤ 1048576
theorem CD.Sm.of {c : CD} (h : c.sz ≤ 1048576) : c.Sm := by
  unfold CD.sz at h
  exact ⟨by omega, by omega, by omega, fun j hj => by have := pl_pz c.ps hj; omega, by omega, fun j hj => by have := ql_qz c.qs hj; omega, by omega, by omega⟩
/-- A right fact. -/
def FK (c : CD) (x : S3) : Bool := HO c.bs x.1 && (decide (1 ≤ x.2.1 ∧ x.2.1 ≤ 1000) && decide (0 ≤ x.2.2 ∧ x.2.2 ≤ c.now))
def C1 (c : CD) : Prop := RO c.n c.f c.p c.a c.l c.m = true ∧ KO c.zs c.zs.length = true ∧ (c.zs.length : Int) = c.n ∧ c.bs.length = c.zs.length ∧ c.ps.length = c.zs.length ∧ (CT c.bs c.bs.length : Int) ≤ c.f
def C2 (c : CD) : Prop := c.qs.length ≤ 3000 ∧ (0 ≤ c.now ∧ c.now ≤ 100000) ∧ MD c.zs c.ms = true ∧ c.fs.length ≤ 3000
def C3 (c : CD) (k : Nat) : Prop := ∀ j, j < k → PK c.zs (pd c.ps j) = true
def C4 (c : CD) (k : Nat) : Prop := ∀ j, j < k → QK c (qd c.qs j) = true
def C5 (c : CD) (k : Nat) : Prop := ∀ j, j < k → FK c (es c.fs j) = true
instance (c : CD) : Decidable (C1 c) := by unfold C1; infer_instance
instance (c : CD) : Decidable (C2 c) := by unfold C2; infer_instance
instance (c : CD) (k : Nat) : Decidable (C3 c k) := by unfold C3; infer_instance
instance (c : CD) (k : Nat) : Decidable (C4 c k) := by unfold C4; infer_instance
instance (c : CD) (k : Nat) : Decidable (C5 c k) := by unfold C5; infer_instance
/-- A right court. -/
def CO (c : CD) : Bool := decide (C1 c ∧ C2 c ∧ C3 c c.ps.length ∧ C4 c c.qs.length ∧ C5 c c.fs.length)
theorem co_no {c : CD} (h : ¬ (C1 c ∧ C2 c ∧ C3 c c.ps.length ∧ C4 c c.qs.length ∧ C5 c c.fs.length)) : CO c = false := decide_eq_false h
/-- The court's own cells, what its lists hold. -/
structure Kb (c : CD) (aK aL aP aQ aM aF : Option Addr) (w w' : World) (cs : List Value) : Prop where
  B : Below w.heap.size w w'
  X : Room w' w.heap.size cs
  A : c.At w' aK aL aP aQ aM aF
theorem Kb.below {c : CD} {aK aL aP aQ aM aF : Option Addr} {w w' w2 : World} {cs : List Value} (h : Kb c aK aL aP aQ aM aF w w' cs) (b : Below w'.heap.size w' w2) : Kb c aK aL aP aQ aM aF w w2 cs := ⟨h.B.trans (b.mono h.B.size), h.X.below b, h.A.below b⟩

set_option maxHeartbeats 16000000 in
set_option maxRecDepth 100000 in
theorem courtS (c : CD) (aK aL aP aQ aM aF : Option Addr) (cK cL cP cQ cM cF : Nat) (w : World) (hA : c.At w aK aL aP aQ aM aF) (hz : c.Sm) :
    Calls Tryz.prog 19 #[.agg #[.int .i64 c.n, .int .i64 c.f, .int .i64 c.p, .int .i64 c.a, .int .i64 c.l, .int .i64 c.m, .slice aK c.zs.length cK, .slice aL c.bs.length cL, .slice aP c.ps.length cP, .slice aQ c.qs.length cQ, .int .i64 c.now, .slice aM c.ms.length cM, .slice aF c.fs.length cF]] w fun e w' => e = .returned (.bool (CO c)) ∧ Below w.heap.size w w' := by
  have z1 := hz.K
  have z2 := hz.L
  have z3 := hz.P
  have z4 := hz.Q
  have z5 := hz.M
  have z6 := hz.F
  have hAp := hA.P
  have hAq := hA.Q
  have PB : Kb c aK aL aP aQ aM aF w (w.alloc (.cells #[.int .i64 c.n, .int .i64 c.f, .int .i64 c.p, .int .i64 c.a, .int .i64 c.l, .int .i64 c.m, .slice aK c.zs.length cK, .slice aL c.bs.length cL, .slice aP c.ps.length cP, .slice aQ c.qs.length cQ, .int .i64 c.now, .slice aM c.ms.length cM, .slice aF c.fs.length cF] 35)) [.int .i64 c.n, .int .i64 c.f, .int .i64 c.p, .int .i64 c.a, .int .i64 c.l, .int .i64 c.m, .slice aK c.zs.length cK, .slice aL c.bs.length cL, .slice aP c.ps.length cP, .slice aQ c.qs.length cQ, .int .i64 c.now, .slice aM c.ms.length cM, .slice aF c.fs.length cF] := ⟨(Below.refl _ _).alloc (Nat.le_refl _) _, Room.new w [.int .i64 c.n, .int .i64 c.f, .int .i64 c.p, .int .i64 c.a, .int .i64 c.l, .int .i64 c.m, .slice aK c.zs.length cK, .slice aL c.bs.length cL, .slice aP c.ps.length cP, .slice aQ c.qs.length cQ, .int .i64 c.now, .slice aM c.ms.length cM, .slice aF c.fs.length cF] 35, hA.below ((Below.refl _ _).alloc (Nat.le_refl _) _)⟩
  by_cases h0 : RO c.n c.f c.p c.a c.l c.m = true
  · by_cases h1 : KO c.zs c.zs.length = true
    · by_cases h2 : (c.zs.length : Int) = c.n
      · by_cases h3 : c.bs.length = c.zs.length
        · by_cases h4 : c.ps.length = c.zs.length
          · by_cases h5 : (CT c.bs c.bs.length : Int) ≤ c.f
            · have v2 : ((c.zs.length : Int) != c.n) = false := by simp; omega
              have v3 : ((c.bs.length : Int) != (c.zs.length : Int)) = false := by simp; omega
              have v4 : ((c.ps.length : Int) != (c.zs.length : Int)) = false := by simp; omega
              have v5 : decide ((CT c.bs c.bs.length : Int) > c.f) = false := decide_eq_false (by omega)
              have H2 : Hid ((c.zs.length : Int) = c.n) := h2
              have H3 : Hid (c.bs.length = c.zs.length) := h3
              have H4 : Hid (c.ps.length = c.zs.length) := h4
              clear h2 h3 h4
              go_enter Tryz.func19, Tryz.ntmps19
              have k6 := PB.X.cell 6 rfl
              go_wp2_with fail
              clear k6
              generalize w.alloc (.cells #[.int .i64 c.n, .int .i64 c.f, .int .i64 c.p, .int .i64 c.a, .int .i64 c.l, .int .i64 c.m, .slice aK c.zs.length cK, .slice aL c.bs.length cL, .slice aP c.ps.length cP, .slice aQ c.qs.length cQ, .int .i64 c.now, .slice aM c.ms.length cM, .slice aF c.fs.length cF] 35) = w1 at PB ⊢
              refine wp_region_noPanic ?_
              refine wp_region_held_drew (S := (fun w' => (w'.cell? ⟨w.heap.size, 0, none⟩ = some (.int .i64 c.n) ∧ w'.cell? ⟨w.heap.size, 1, none⟩ = some (.int .i64 c.f) ∧ w'.cell? ⟨w.heap.size, 2, none⟩ = some (.int .i64 c.p) ∧ w'.cell? ⟨w.heap.size, 3, none⟩ = some (.int .i64 c.a) ∧ w'.cell? ⟨w.heap.size, 4, none⟩ = some (.int .i64 c.l) ∧ w'.cell? ⟨w.heap.size, 5, none⟩ = some (.int .i64 c.m) ∧ w'.cell? ⟨w.heap.size, 6, none⟩ = some (.slice aK c.zs.length cK) ∧ w'.cell? ⟨w.heap.size, 7, none⟩ = some (.slice aL c.bs.length cL) ∧ w'.cell? ⟨w.heap.size, 8, none⟩ = some (.slice aP c.ps.length cP)) ∧ Hid (Kb c aK aL aP aQ aM aF w w' [.int .i64 c.n, .int .i64 c.f, .int .i64 c.p, .int .i64 c.a, .int .i64 c.l, .int .i64 c.m, .slice aK c.zs.length cK, .slice aL c.bs.length cL, .slice aP c.ps.length cP, .slice aQ c.qs.length cQ, .int .i64 c.now, .slice aM c.ms.length cM, .slice aF c.fs.length cF]))) (by kernel_rfl) ⟨⟨(PB.below (Below.refl _ _).drew).X.cell 0 rfl, (PB.below (Below.refl _ _).drew).X.cell 1 rfl, (PB.below (Below.refl _ _).drew).X.cell 2 rfl, (PB.below (Below.refl _ _).drew).X.cell 3 rfl, (PB.below (Below.refl _ _).drew).X.cell 4 rfl, (PB.below (Below.refl _ _).drew).X.cell 5 rfl, (PB.below (Below.refl _ _).drew).X.cell 6 rfl, (PB.below (Below.refl _ _).drew).X.cell 7 rfl, (PB.below (Below.refl _ _).drew).X.cell 8 rfl⟩, (PB.below (Below.refl _ _).drew)⟩ (fun hHeld => ?_)
              refine Tk.W 0 (some 11) (.fieldAddr 35 (.tmp 1) 0) 0 none ?_
              refine Tk.W 1 (some 12) (.load 25 (.tmp 11)) 25 none ?_
              refine Tk.R 2 (some 13) (.call ⟨.value (.func 13), #[.tmp 12], #[25]⟩) 4 none (fun K hK => ?_)
              go_simp
              refine (ruleS c.n c.f c.p c.a c.l c.m _).mono ?_
              rintro e wv ⟨rfl, bq63⟩
              rw [h0]
              have Pq63 := hHeld.2.out.below bq63
              try dsimp only
              refine hK.out _ _ ⟨⟨Pq63.X.cell 0 rfl, Pq63.X.cell 1 rfl, Pq63.X.cell 2 rfl, Pq63.X.cell 3 rfl, Pq63.X.cell 4 rfl, Pq63.X.cell 5 rfl, Pq63.X.cell 6 rfl, Pq63.X.cell 7 rfl, Pq63.X.cell 8 rfl⟩, Pq63⟩ ?_; clear hK K hHeld; intro hHeld; try simp only [Act.put, List.setIfInBounds_toArray, List.set_cons_zero, List.set_cons_succ]
              refine Tk.W 3 (some 14) (.unOp .not 4 (.tmp 13)) 4 none ?_
              refine Tk.W 4 (some 15) (.move (.tmp 14)) 4 none ?_
              refine Tk.W 5 (some 16) (.fieldAddr 35 (.tmp 1) 1) 0 (some (4, false)) ?_
              refine Tk.W 6 (some 17) (.load 26 (.tmp 16)) 26 (some (4, false)) ?_
              refine Tk.R 7 (some 18) (.call ⟨.value (.func 61), #[.tmp 17], #[26]⟩) 4 (some (4, false)) (fun K hK => ?_)
              go_simp
              refine (Sl.s_KeysOk aK c.zs.length cK c.zs _ hHeld.2.out.A.K (by omega)).mono ?_
              rintro e wv ⟨rfl, rfl⟩
              rw [h1]
              try dsimp only
              refine hK.out _ _ hHeld ?_; clear hK K hHeld; intro hHeld; try simp only [Act.put, List.setIfInBounds_toArray, List.set_cons_zero, List.set_cons_succ]
              refine Tk.W 8 (some 19) (.unOp .not 4 (.tmp 18)) 4 (some (4, false)) ?_
              refine Tk.W 9 (some 20) (.pick (.tmp 15) (.const (.bool true)) (.tmp 19)) 4 none ?_
              refine Tk.W 10 (some 21) (.move (.tmp 20)) 4 none ?_
              refine Tk.W 11 (some 22) (.move (.tmp 3)) 2 (some (10, false)) ?_
              refine Tk.W 12 (some 23) (.fieldAddr 35 (.tmp 1) 0) 0 (some (10, false)) ?_
              refine Tk.W 13 (some 24) (.fieldAddr 25 (.tmp 23) 0) 0 (some (10, false)) ?_
              refine Tk.W 14 (some 25) (.load 2 (.tmp 24)) 2 (some (10, false)) ?_
              refine Tk.W 15 (some 26) (.binOp .neq 2 (.tmp 22) (.tmp 25) 2) 4 (some (10, false)) ?_
              refine Tk.W 16 (some 27) (.pick (.tmp 21) (.const (.bool true)) (.tmp 26)) 4 none ?_
              refine Tk.W 17 (some 28) (.move (.tmp 27)) 4 none ?_
              refine Tk.W 18 (some 29) (.fieldAddr 35 (.tmp 1) 2) 0 (some (17, false)) ?_
              refine Tk.W 19 (some 30) (.load 27 (.tmp 29)) 27 (some (17, false)) ?_
              refine Tk.W 20 (some 31) (.call ⟨.builtin .len, #[.tmp 30], #[27]⟩) 3 (some (17, false)) ?_
              refine Tk.W 21 (some 32) (.move (.tmp 3)) 2 (some (17, false)) ?_
              refine Tk.W 22 (some 33) (.binOp .neq 2 (.tmp 31) (.tmp 32) 2) 4 (some (17, false)) ?_
              refine Tk.W 23 (some 34) (.pick (.tmp 28) (.const (.bool true)) (.tmp 33)) 4 none ?_
              refine Tk.W 24 (some 35) (.move (.tmp 34)) 4 none ?_
              refine Tk.W 25 (some 36) (.fieldAddr 35 (.tmp 1) 3) 0 (some (24, false)) ?_
              refine Tk.W 26 (some 37) (.load 30 (.tmp 36)) 30 (some (24, false)) ?_
              refine Tk.W 27 (some 38) (.call ⟨.builtin .len, #[.tmp 37], #[30]⟩) 3 (some (24, false)) ?_
              refine Tk.W 28 (some 39) (.move (.tmp 3)) 2 (some (24, false)) ?_
              refine Tk.W 29 (some 40) (.binOp .neq 2 (.tmp 38) (.tmp 39) 2) 4 (some (24, false)) ?_
              refine Tk.W 30 (some 41) (.pick (.tmp 35) (.const (.bool true)) (.tmp 40)) 4 none ?_
              refine Tk.W 31 (some 42) (.move (.tmp 41)) 4 none ?_
              refine Tk.W 32 (some 43) (.fieldAddr 35 (.tmp 1) 2) 0 (some (31, false)) ?_
              refine Tk.W 33 (some 44) (.load 27 (.tmp 43)) 27 (some (31, false)) ?_
              refine Tk.W 35 (some 46) (.fieldAddr 35 (.tmp 1) 0) 0 (some (31, false)) ?_
              refine Tk.W 36 (some 47) (.fieldAddr 25 (.tmp 46) 1) 0 (some (31, false)) ?_
              refine Tk.W 37 (some 48) (.load 2 (.tmp 47)) 2 (some (31, false)) ?_
              refine Tk.R 34 (some 45) (.call ⟨.value (.func 62), #[.tmp 44], #[27]⟩) 2 (some (31, false)) (fun K hK => ?_)
              go_simp
              refine (Ct.count aL c.bs.length cL c.bs _ hHeld.2.out.A.L (by omega)).mono ?_
              rintro e wv ⟨rfl, rfl⟩
              try dsimp only
              refine hK.out _ _ hHeld ?_; clear hK K hHeld; intro hHeld; try simp only [Act.put, List.setIfInBounds_toArray, List.set_cons_zero, List.set_cons_succ]
              refine Tk.W 38 (some 49) (.binOp .gtr 2 (.tmp 45) (.tmp 48) 2) 4 (some (31, false)) ?_
              refine Tk.W 39 (some 50) (.pick (.tmp 42) (.const (.bool true)) (.tmp 49)) 4 none ?_
              refine wpAnyH_done (by kernel_rfl) ?_ _
              refine NoPanic.normal ?_
              have PX := hHeld.2.out
              clear hHeld v2 v3 v4 v5
              have HC1 : Hid (C1 c) := ⟨h0, h1, H2.out, H3.out, H4.out, h5⟩
              have hk16 := (Sl.ko_of h1).1
              have hrm := of_decide_eq_true h0
              unfold RK at hrm
              have hmm : 1 ≤ c.m ∧ c.m ≤ 1000 := by omega
              have hz1 : c.zs.length ≤ 1048576 := by omega
              have hb1 : c.bs.length ≤ 1048576 := by omega
              have hzn := H2.out
              have hbn := H3.out
              have hb2 : c.bs.length ≤ 1048576 := by omega
              clear hrm h0 h1 hzn hbn h5 PB
              have k6 := PX.X.cell 6 rfl
              have k9 := PX.X.cell 9 rfl
              have k10 := PX.X.cell 10 rfl
              have k11 := PX.X.cell 11 rfl
              have k12 := PX.X.cell 12 rfl
              by_cases g0 : c.qs.length ≤ 3000
              case neg =>
                have d0 : decide ((c.qs.length : Int) > 3000) = true := decide_eq_true (by omega)
                have HV : Hid (CO c = false) := co_no (fun h => absurd h.2.1.1 g0)
                clear g0
                go_wp2
                go_ret
                exact ⟨retb HV.out.symm, PX.B⟩
              case pos =>
                have d0 : decide ((c.qs.length : Int) > 3000) = false := decide_eq_false (by omega)
                by_cases g1 : 0 ≤ c.now ∧ c.now ≤ 100000
                case neg =>
                  have HV : Hid (CO c = false) := co_no (fun h => absurd h.2.1.2.1 g1)
                  go_wp2_with fail
                  refine (Sp.s_l1In 0 100000 c.now _).mono ?_
                  rintro e w3 ⟨rfl, rfl⟩
                  rw [lk_no g1]
                  clear g1
                  go_wp2
                  go_ret
                  exact ⟨retb HV.out.symm, PX.B⟩
                case pos =>
                  go_wp2_with fail
                  refine (Sp.s_l1In 0 100000 c.now _).mono ?_
                  rintro e w3 ⟨rfl, rfl⟩
                  rw [lk_yes g1]
                  go_wp2_with fail
                  refine (mergedS aK cK c.zs aM c.ms.length cM c.ms _ PX.A.K hz1 PX.A.M (by omega)).mono ?_
                  rintro e w4 ⟨rfl, b4⟩
                  replace PX := PX.below b4
                  clear b4 k6 k9 k10 k11 k12
                  have k12 := PX.X.cell 12 rfl
                  cases g2 : MD c.zs c.ms with
                  | false =>
                    have HV : Hid (CO c = false) := co_no (fun h => by have := h.2.1.2.2.1; rw [g2] at this; cases this)
                    clear g2
                    go_wp2
                    go_ret
                    exact ⟨retb HV.out.symm, PX.B⟩
                  | true =>
                    by_cases g3 : c.fs.length ≤ 3000
                    case neg =>
                      have d3 : decide ((c.fs.length : Int) > 3000) = true := decide_eq_true (by omega)
                      have HV : Hid (CO c = false) := co_no (fun h => absurd h.2.1.2.2.2 g3)
                      clear g3
                      go_wp2
                      go_ret
                      exact ⟨retb HV.out.symm, PX.B⟩
                    case pos =>
                      have d3 : decide ((c.fs.length : Int) > 3000) = false := decide_eq_false (by omega)
                      have HC2 : Hid (C2 c) := ⟨g0, g1, g2, g3⟩
                      clear g2
                      have k8 := PX.X.cell 8 rfl
                      go_wp2_with fail
                      clear k12
                      go_loopw [4] (fun i w' => ∃ k : Nat, k ≤ c.ps.length ∧ i = .int .i64 k ∧ Hid (Kb c aK aL aP aQ aM aF w w' [.int .i64 c.n, .int .i64 c.f, .int .i64 c.p, .int .i64 c.a, .int .i64 c.l, .int .i64 c.m, .slice aK c.zs.length cK, .slice aL c.bs.length cL, .slice aP c.ps.length cP, .slice aQ c.qs.length cQ, .int .i64 c.now, .slice aM c.ms.length cM, .slice aF c.fs.length cF] ∧ C3 c k)) (fun i _ => c.ps.length - (intOf i).toNat)
                      case atStart => exact ⟨0, Nat.zero_le _, rfl, ⟨PX, fun j hj => by omega⟩⟩
                      case round =>
                        clear PX k8
                        obtain ⟨k, hk, rfl, HH⟩ := hrel
                        have PX := HH.out.1
                        have k8 := PX.X.cell 8 rfl
                        by_cases hlt : k < c.ps.length
                        · have hi : (k : Int) < (c.ps.length : Int) := by omega
                          obtain ⟨_, hz | ⟨b, off, rfl, hb, hc⟩⟩ := hAp
                          · omega
                          obtain ⟨aS, cS, hq1, hq2⟩ := hc k hlt
                          have HC : Hid (∀ w', Below w.heap.size w w' → w'.cell? ⟨b, off + k * 4, none⟩ = some (.int .i64 (pd c.ps k).1) ∧ w'.cell? ⟨b, off + k * 4 + 1, none⟩ = some (.int .i64 (pd c.ps k).2.1) ∧ w'.cell? ⟨b, off + k * 4 + 2, none⟩ = some (.bool (pd c.ps k).2.2.1) ∧ w'.cell? ⟨b, off + k * 4 + 3, none⟩ = some (.slice aS (pd c.ps k).2.2.2.length cS)) := fun w' B => by
                            have q : ∀ o, w'.cell? ⟨b, o, none⟩ = w.cell? ⟨b, o, none⟩ := fun o => B.cell (p := ⟨b, o, none⟩) hb
                            simp only [q]
                            exact hq1
                          have HS : Hid (∀ w', Below w.heap.size w w' → Row3 w' w'.heap.size aS (pd c.ps k).2.2.2.length (pd c.ps k).2.2.2) := fun w' B => hq2.below B
                          have HL : Hid ((pd c.ps k).2.2.2.length ≤ 1048576) := hz.P2 k hlt
                          clear hc hq1 hq2
                          go_wp2_with fail
                          clear k8
                          have PD := PX.below (Below.refl _ _).drew
                          refine wp_region_noPanic ?_
                          refine wp_region_held_drew (S := (fun w' => (w'.cell? ⟨w.heap.size, 0, none⟩ = some (.int .i64 c.n) ∧ w'.cell? ⟨w.heap.size, 1, none⟩ = some (.int .i64 c.f) ∧ w'.cell? ⟨w.heap.size, 2, none⟩ = some (.int .i64 c.p) ∧ w'.cell? ⟨w.heap.size, 3, none⟩ = some (.int .i64 c.a) ∧ w'.cell? ⟨w.heap.size, 4, none⟩ = some (.int .i64 c.l) ∧ w'.cell? ⟨w.heap.size, 5, none⟩ = some (.int .i64 c.m) ∧ w'.cell? ⟨w.heap.size, 6, none⟩ = some (.slice aK c.zs.length cK) ∧ w'.cell? ⟨w.heap.size, 7, none⟩ = some (.slice aL c.bs.length cL) ∧ w'.cell? ⟨w.heap.size, 8, none⟩ = some (.slice (some ⟨b, off, none⟩) c.ps.length cP) ∧ w'.cell? ⟨w.heap.size, 9, none⟩ = some (.slice aQ c.qs.length cQ) ∧ w'.cell? ⟨w.heap.size, 10, none⟩ = some (.int .i64 c.now) ∧ w'.cell? ⟨w.heap.size, 11, none⟩ = some (.slice aM c.ms.length cM) ∧ w'.cell? ⟨w.heap.size, 12, none⟩ = some (.slice aF c.fs.length cF)) ∧ (w'.cell? ⟨b, off + k * 4, none⟩ = some (.int .i64 (pd c.ps k).1) ∧ w'.cell? ⟨b, off + k * 4 + 1, none⟩ = some (.int .i64 (pd c.ps k).2.1) ∧ w'.cell? ⟨b, off + k * 4 + 2, none⟩ = some (.bool (pd c.ps k).2.2.1) ∧ w'.cell? ⟨b, off + k * 4 + 3, none⟩ = some (.slice aS (pd c.ps k).2.2.2.length cS)) ∧ Hid (Kb c aK aL (some ⟨b, off, none⟩) aQ aM aF w w' [.int .i64 c.n, .int .i64 c.f, .int .i64 c.p, .int .i64 c.a, .int .i64 c.l, .int .i64 c.m, .slice aK c.zs.length cK, .slice aL c.bs.length cL, .slice (some ⟨b, off, none⟩) c.ps.length cP, .slice aQ c.qs.length cQ, .int .i64 c.now, .slice aM c.ms.length cM, .slice aF c.fs.length cF]))) (by kernel_rfl) ⟨⟨PD.X.cell 0 rfl, PD.X.cell 1 rfl, PD.X.cell 2 rfl, PD.X.cell 3 rfl, PD.X.cell 4 rfl, PD.X.cell 5 rfl, PD.X.cell 6 rfl, PD.X.cell 7 rfl, PD.X.cell 8 rfl, PD.X.cell 9 rfl, PD.X.cell 10 rfl, PD.X.cell 11 rfl, PD.X.cell 12 rfl⟩, HC.out _ PD.B, PD⟩ (fun hHeld => ?_)
                          refine Tk.W 0 (some 82) (.load 35 (.tmp 1)) 35 none ?_
                          refine Tk.W 1 (some 83) (.fieldAddr 35 (.tmp 1) 3) 0 none ?_
                          refine Tk.W 2 (some 84) (.load 30 (.tmp 83)) 30 none ?_
                          refine Tk.W 3 (some 85) (.move (.tmp 4)) 3 none ?_
                          refine Tk.W 4 (some 86) (.indexAddr 30 (.tmp 84) (.tmp 85)) 0 none ?_
                          refine Tk.W 5 (some 87) (.load 44 (.tmp 86)) 44 none ?_
                          refine Tk.R 6 (some 88) (.call ⟨.value (.func 64), #[.tmp 82, .tmp 87], #[35, 44]⟩) 4 none (fun K hK => ?_)
                          go_simp
                          refine (peerS c aK cK _ _ _ _ _ (pd c.ps k).1 (pd c.ps k).2.1 (pd c.ps k).2.2.1 aS cS (pd c.ps k).2.2.2 _ hHeld.2.2.out.A.K hz1 (HS.out _ hHeld.2.2.out.B) HL.out).mono ?_
                          rintro e wv ⟨rfl, b4⟩
                          have P4 := hHeld.2.2.out.below b4
                          try dsimp only
                          refine hK.out _ _ ⟨⟨P4.X.cell 0 rfl, P4.X.cell 1 rfl, P4.X.cell 2 rfl, P4.X.cell 3 rfl, P4.X.cell 4 rfl, P4.X.cell 5 rfl, P4.X.cell 6 rfl, P4.X.cell 7 rfl, P4.X.cell 8 rfl, P4.X.cell 9 rfl, P4.X.cell 10 rfl, P4.X.cell 11 rfl, P4.X.cell 12 rfl⟩, HC.out _ P4.B, P4⟩ ?_; clear hK K hHeld; intro hHeld; try simp only [Act.put, List.setIfInBounds_toArray, List.set_cons_zero, List.set_cons_succ]
                          refine Tk.W 7 (some 89) (.unOp .not 4 (.tmp 88)) 4 none ?_
                          refine wpAnyH_done (by kernel_rfl) ?_ _
                          refine NoPanic.normal ?_
                          have PY := hHeld.2.2.out
                          clear hHeld
                          cases hq : PK c.zs (pd c.ps k) with
                          | false =>
                            have HV : Hid (CO c = false) := co_no (fun h => by have := h.2.2.1 k hlt; rw [hq] at this; cases this)
                            clear hq
                            go_wp2
                            go_ret
                            exact ⟨retb HV.out.symm, PY.B⟩
                          | true =>
                            have HN : Hid (C3 c (k + 1)) := fun j hj => by
                              by_cases e : j = k
                              · subst e; exact hq
                              · exact HH.out.2 j (by omega)
                            clear hq
                            go_wp2
                            go_roundw
                            case rel => exact ⟨k + 1, by omega, by go_num, ⟨PY, HN.out⟩⟩
                            case measure => simp [intOf]; omega
                        · have hi : ¬ (k : Int) < (c.ps.length : Int) := by omega
                          obtain rfl : k = c.ps.length := by omega
                          have HC3 : Hid (C3 c c.ps.length) := HH.out.2
                          have k9 := PX.X.cell 9 rfl
                          go_wp2_with fail
                          clear k8 HH
                          go_loopw [5] (fun i w' => ∃ k : Nat, k ≤ c.qs.length ∧ i = .int .i64 k ∧ Hid (Kb c aK aL aP aQ aM aF w w' [.int .i64 c.n, .int .i64 c.f, .int .i64 c.p, .int .i64 c.a, .int .i64 c.l, .int .i64 c.m, .slice aK c.zs.length cK, .slice aL c.bs.length cL, .slice aP c.ps.length cP, .slice aQ c.qs.length cQ, .int .i64 c.now, .slice aM c.ms.length cM, .slice aF c.fs.length cF] ∧ C4 c k)) (fun i _ => c.qs.length - (intOf i).toNat)
                          case atStart => exact ⟨0, Nat.zero_le _, rfl, ⟨PX, fun j hj => by omega⟩⟩
                          case round =>
                            clear PX k9
                            obtain ⟨k, hk, rfl, HH⟩ := hrel
                            have PX := HH.out.1
                            have k9 := PX.X.cell 9 rfl
                            by_cases hlt : k < c.qs.length
                            · have hi : (k : Int) < (c.qs.length : Int) := by omega
                              obtain ⟨_, hz | ⟨b, off, rfl, hb, hc⟩⟩ := hAq
                              · omega
                              obtain ⟨aS, cS, hq1, hq2⟩ := hc k hlt
                              have HC : Hid (∀ w', Below w.heap.size w w' → w'.cell? ⟨b, off + k * 3, none⟩ = some (.int .i64 (qd c.qs k).1) ∧ w'.cell? ⟨b, off + k * 3 + 1, none⟩ = some (.int .i64 (qd c.qs k).2.1) ∧ w'.cell? ⟨b, off + k * 3 + 2, none⟩ = some (.slice aS (qd c.qs k).2.2.length cS)) := fun w' B => by
                                have q : ∀ o, w'.cell? ⟨b, o, none⟩ = w.cell? ⟨b, o, none⟩ := fun o => B.cell (p := ⟨b, o, none⟩) hb
                                simp only [q]
                                exact hq1
                              have HS : Hid (∀ w', Below w.heap.size w w' → Row3 w' w'.heap.size aS (qd c.qs k).2.2.length (qd c.qs k).2.2) := fun w' B => hq2.below B
                              have HL : Hid ((qd c.qs k).2.2.length ≤ 1048576) := hz.Q2 k hlt
                              clear hc hq1 hq2
                              go_wp2_with fail
                              clear k9
                              have PD := PX.below (Below.refl _ _).drew
                              refine wp_region_noPanic ?_
                              refine wp_region_held_drew (S := (fun w' => (w'.cell? ⟨w.heap.size, 0, none⟩ = some (.int .i64 c.n) ∧ w'.cell? ⟨w.heap.size, 1, none⟩ = some (.int .i64 c.f) ∧ w'.cell? ⟨w.heap.size, 2, none⟩ = some (.int .i64 c.p) ∧ w'.cell? ⟨w.heap.size, 3, none⟩ = some (.int .i64 c.a) ∧ w'.cell? ⟨w.heap.size, 4, none⟩ = some (.int .i64 c.l) ∧ w'.cell? ⟨w.heap.size, 5, none⟩ = some (.int .i64 c.m) ∧ w'.cell? ⟨w.heap.size, 6, none⟩ = some (.slice aK c.zs.length cK) ∧ w'.cell? ⟨w.heap.size, 7, none⟩ = some (.slice aL c.bs.length cL) ∧ w'.cell? ⟨w.heap.size, 8, none⟩ = some (.slice aP c.ps.length cP) ∧ w'.cell? ⟨w.heap.size, 9, none⟩ = some (.slice (some ⟨b, off, none⟩) c.qs.length cQ) ∧ w'.cell? ⟨w.heap.size, 10, none⟩ = some (.int .i64 c.now) ∧ w'.cell? ⟨w.heap.size, 11, none⟩ = some (.slice aM c.ms.length cM) ∧ w'.cell? ⟨w.heap.size, 12, none⟩ = some (.slice aF c.fs.length cF)) ∧ (w'.cell? ⟨b, off + k * 3, none⟩ = some (.int .i64 (qd c.qs k).1) ∧ w'.cell? ⟨b, off + k * 3 + 1, none⟩ = some (.int .i64 (qd c.qs k).2.1) ∧ w'.cell? ⟨b, off + k * 3 + 2, none⟩ = some (.slice aS (qd c.qs k).2.2.length cS)) ∧ Hid (Kb c aK aL aP (some ⟨b, off, none⟩) aM aF w w' [.int .i64 c.n, .int .i64 c.f, .int .i64 c.p, .int .i64 c.a, .int .i64 c.l, .int .i64 c.m, .slice aK c.zs.length cK, .slice aL c.bs.length cL, .slice aP c.ps.length cP, .slice (some ⟨b, off, none⟩) c.qs.length cQ, .int .i64 c.now, .slice aM c.ms.length cM, .slice aF c.fs.length cF]))) (by kernel_rfl) ⟨⟨PD.X.cell 0 rfl, PD.X.cell 1 rfl, PD.X.cell 2 rfl, PD.X.cell 3 rfl, PD.X.cell 4 rfl, PD.X.cell 5 rfl, PD.X.cell 6 rfl, PD.X.cell 7 rfl, PD.X.cell 8 rfl, PD.X.cell 9 rfl, PD.X.cell 10 rfl, PD.X.cell 11 rfl, PD.X.cell 12 rfl⟩, HC.out _ PD.B, PD⟩ (fun hHeld => ?_)
                              refine Tk.W 0 (some 97) (.load 35 (.tmp 1)) 35 none ?_
                              refine Tk.W 1 (some 98) (.fieldAddr 35 (.tmp 1) 4) 0 none ?_
                              refine Tk.W 2 (some 99) (.load 31 (.tmp 98)) 31 none ?_
                              refine Tk.W 3 (some 100) (.move (.tmp 5)) 3 none ?_
                              refine Tk.W 4 (some 101) (.indexAddr 31 (.tmp 99) (.tmp 100)) 0 none ?_
                              refine Tk.W 5 (some 102) (.load 96 (.tmp 101)) 96 none ?_
                              refine Tk.R 6 (some 103) (.call ⟨.value (.func 65), #[.tmp 97, .tmp 102], #[35, 96]⟩) 4 none (fun K hK => ?_)
                              go_simp
                              refine (parcelS c aK aL cK cL _ _ _ _ (qd c.qs k).1 (qd c.qs k).2.1 aS cS (qd c.qs k).2.2 _ hHeld.2.2.out.A.K hz1 hHeld.2.2.out.A.L hb1 (HS.out _ hHeld.2.2.out.B) HL.out g1 hmm).mono ?_
                              rintro e wv ⟨rfl, b4⟩
                              have P4 := hHeld.2.2.out.below b4
                              try dsimp only
                              refine hK.out _ _ ⟨⟨P4.X.cell 0 rfl, P4.X.cell 1 rfl, P4.X.cell 2 rfl, P4.X.cell 3 rfl, P4.X.cell 4 rfl, P4.X.cell 5 rfl, P4.X.cell 6 rfl, P4.X.cell 7 rfl, P4.X.cell 8 rfl, P4.X.cell 9 rfl, P4.X.cell 10 rfl, P4.X.cell 11 rfl, P4.X.cell 12 rfl⟩, HC.out _ P4.B, P4⟩ ?_; clear hK K hHeld; intro hHeld; try simp only [Act.put, List.setIfInBounds_toArray, List.set_cons_zero, List.set_cons_succ]
                              refine Tk.W 7 (some 104) (.unOp .not 4 (.tmp 103)) 4 none ?_
                              refine wpAnyH_done (by kernel_rfl) ?_ _
                              refine NoPanic.normal ?_
                              have PY := hHeld.2.2.out
                              clear hHeld
                              cases hq : QK c (qd c.qs k) with
                              | false =>
                                have HV : Hid (CO c = false) := co_no (fun h => by have := h.2.2.2.1 k hlt; rw [hq] at this; cases this)
                                clear hq
                                go_wp2
                                go_ret
                                exact ⟨retb HV.out.symm, PY.B⟩
                              | true =>
                                have HN : Hid (C4 c (k + 1)) := fun j hj => by
                                  by_cases e : j = k
                                  · subst e; exact hq
                                  · exact HH.out.2 j (by omega)
                                clear hq
                                go_wp2
                                go_roundw
                                case rel => exact ⟨k + 1, by omega, by go_num, ⟨PY, HN.out⟩⟩
                                case measure => simp [intOf]; omega
                            · have hi : ¬ (k : Int) < (c.qs.length : Int) := by omega
                              obtain rfl : k = c.qs.length := by omega
                              have HC4 : Hid (C4 c c.qs.length) := HH.out.2
                              have k12 := PX.X.cell 12 rfl
                              go_wp2_with fail
                              clear k9 HH
                              go_loopw [6] (fun i w' => ∃ k : Nat, k ≤ c.fs.length ∧ i = .int .i64 k ∧ Hid (Kb c aK aL aP aQ aM aF w w' [.int .i64 c.n, .int .i64 c.f, .int .i64 c.p, .int .i64 c.a, .int .i64 c.l, .int .i64 c.m, .slice aK c.zs.length cK, .slice aL c.bs.length cL, .slice aP c.ps.length cP, .slice aQ c.qs.length cQ, .int .i64 c.now, .slice aM c.ms.length cM, .slice aF c.fs.length cF] ∧ C5 c k)) (fun i _ => c.fs.length - (intOf i).toNat)
                              case atStart => exact ⟨0, Nat.zero_le _, rfl, ⟨PX, fun j hj => by omega⟩⟩
                              case round =>
                                clear PX k12
                                obtain ⟨k, hk, rfl, HH⟩ := hrel
                                have PX := HH.out.1
                                by_cases hlt : k < c.fs.length
                                · have hi : (k : Int) < (c.fs.length : Int) := by omega
                                  obtain ⟨_, hz | ⟨b, off, rfl, hb, hc⟩⟩ := hA.F
                                  · omega
                                  obtain ⟨q0, q1, q2⟩ := hc k hlt
                                  have e0 := (PX.B.cell (p := ⟨b, off + k * 3, none⟩) hb).trans q0
                                  have e1 := (PX.B.cell (p := ⟨b, off + k * 3 + 1, none⟩) hb).trans q1
                                  have e2 := (PX.B.cell (p := ⟨b, off + k * 3 + 2, none⟩) hb).trans q2
                                  clear q0 q1 q2 hc
                                  obtain ⟨q, hq⟩ : ∃ q, q = wr.heap.size := ⟨_, rfl⟩
                                  have HQ : Hid (q = wr.heap.size) := hq
                                  have hwl := PX.X.lt (by simp)
                                  have hbl : b < wr.heap.size := by have := PX.B.size; omega
                                  have hn1 : ¬ (b = wr.heap.size) := by omega
                                  have hn2 : ¬ (wr.heap.size = b) := by omega
                                  have hn3 : ¬ (w.heap.size = wr.heap.size) := by omega
                                  have hn4 : ¬ (wr.heap.size = w.heap.size) := by omega
                                  have s0 := PX.X.cell 0 rfl
                                  have s1 := PX.X.cell 1 rfl
                                  have s2 := PX.X.cell 2 rfl
                                  have s3 := PX.X.cell 3 rfl
                                  have s4 := PX.X.cell 4 rfl
                                  have s5 := PX.X.cell 5 rfl
                                  have s6 := PX.X.cell 6 rfl
                                  have s7 := PX.X.cell 7 rfl
                                  have s8 := PX.X.cell 8 rfl
                                  have s9 := PX.X.cell 9 rfl
                                  have s10 := PX.X.cell 10 rfl
                                  have s11 := PX.X.cell 11 rfl
                                  have s12 := PX.X.cell 12 rfl
                                  have HC5 : Hid (FK c (es c.fs k) = false → CO c = false) := fun hq => co_no (fun h => by have := h.2.2.2.2 k hlt; rw [hq] at this; cases this)
                                  have HF5 : Hid (FK c (es c.fs k) = true → C5 c (k + 1)) := fun hq j hj => by
                                    by_cases e : j = k
                                    · subst e; exact hq
                                    · exact HH.out.2 j (by omega)
                                  have PY := PX.below ((Below.refl wr.heap.size wr).alloc (Nat.le_refl _) (.cells #[.int .i64 (es c.fs k).1, .int .i64 (es c.fs k).2.1, .int .i64 (es c.fs k).2.2] 98))
                                  have RF := Room.at wr [.int .i64 (es c.fs k).1, .int .i64 (es c.fs k).2.1, .int .i64 (es c.fs k).2.2] 98 q hq
                                  clear hq HH PX
                                  generalize es c.fs k = x at e0 e1 e2 HC5 HF5 PY RF
                                  go_wp2_with fail
                                  rw [← HQ.out]
                                  generalize wr.alloc (.cells #[.int .i64 x.1, .int .i64 x.2.1, .int .i64 x.2.2] 98) = wS at PY RF ⊢
                                  clear e0 e1 e2 hbl hn1 hn2 hn3 hn4 hwl HQ s0 s1 s2 s3 s4 s5 s6 s7 s8 s9 s10 s11 s12
                                  refine (honestS c aL cL _ _ _ _ _ x.1 _ PY.A.L hb1).mono ?_
                                  rintro e w3 ⟨rfl, b3⟩
                                  replace PY := PY.below b3
                                  replace RF := RF.below b3
                                  clear b3
                                  have f1 := RF.cell 1 rfl
                                  have f2 := RF.cell 2 rfl
                                  have s10 := PY.X.cell 10 rfl
                                  cases hh : HO c.bs x.1 with
                                  | false =>
                                    have HV : Hid (CO c = false) := HC5.out (by unfold FK; rw [hh]; rfl)
                                    clear hh
                                    go_wp2
                                    go_ret
                                    exact ⟨retb HV.out.symm, PY.B⟩
                                  | true =>
                                    have HHO : Hid (HO c.bs x.1 = true) := hh
                                    clear hh
                                    by_cases t1 : 1 ≤ x.2.1 ∧ x.2.1 ≤ 1000
                                    case neg =>
                                      have HV : Hid (CO c = false) := HC5.out (by unfold FK; rw [HHO.out, decide_eq_false t1]; rfl)
                                      go_wp2_with fail
                                      refine (Sp.s_l1In 1 1000 x.2.1 _).mono ?_
                                      rintro e w4 ⟨rfl, rfl⟩
                                      rw [lk_no t1]
                                      clear t1
                                      go_wp2
                                      go_ret
                                      exact ⟨retb HV.out.symm, PY.B⟩
                                    case pos =>
                                      by_cases t2 : 0 ≤ x.2.2 ∧ x.2.2 ≤ c.now
                                      case neg =>
                                        have HV : Hid (CO c = false) := HC5.out (by unfold FK; rw [HHO.out, decide_eq_true t1, decide_eq_false t2]; rfl)
                                        go_wp2_with fail
                                        refine (Sp.s_l1In 1 1000 x.2.1 _).mono ?_
                                        rintro e w4 ⟨rfl, rfl⟩
                                        rw [lk_yes t1]
                                        go_wp2_with fail
                                        refine (Sp.s_l1In 0 c.now x.2.2 _).mono ?_
                                        rintro e w4 ⟨rfl, rfl⟩
                                        rw [lk_no t2]
                                        clear t2
                                        go_wp2
                                        go_ret
                                        exact ⟨retb HV.out.symm, PY.B⟩
                                      case pos =>
                                        have HN : Hid (C5 c (k + 1)) := HF5.out (by unfold FK; rw [HHO.out, decide_eq_true t1, decide_eq_true t2]; rfl)
                                        go_wp2_with fail
                                        refine (Sp.s_l1In 1 1000 x.2.1 _).mono ?_
                                        rintro e w4 ⟨rfl, rfl⟩
                                        rw [lk_yes t1]
                                        go_wp2_with fail
                                        refine (Sp.s_l1In 0 c.now x.2.2 _).mono ?_
                                        rintro e w4 ⟨rfl, rfl⟩
                                        rw [lk_yes t2]
                                        go_wp2
                                        go_roundw
                                        case rel => exact ⟨k + 1, by omega, by go_num, ⟨PY, HN.out⟩⟩
                                        case measure => simp [intOf]; omega
                                · have hi : ¬ (k : Int) < (c.fs.length : Int) := by omega
                                  obtain rfl : k = c.fs.length := by omega
                                  have k12 := PX.X.cell 12 rfl
                                  have HV : Hid (CO c = true) := decide_eq_true ⟨HC1.out, HC2.out, HC3.out, HC4.out, HH.out.2⟩
                                  go_wp2
                                  go_ret
                                  exact ⟨retb HV.out.symm, PX.B⟩
            · have HV : Hid (CO c = false) := co_no (fun h => absurd h.1.2.2.2.2.2 h5)
              have v2 : ((c.zs.length : Int) != c.n) = false := by simp; omega
              have v3 : ((c.bs.length : Int) != (c.zs.length : Int)) = false := by simp; omega
              have v4 : ((c.ps.length : Int) != (c.zs.length : Int)) = false := by simp; omega
              have v5 : decide ((CT c.bs c.bs.length : Int) > c.f) = true := decide_eq_true (by omega)
              have H2 : Hid ((c.zs.length : Int) = c.n) := h2
              have H3 : Hid (c.bs.length = c.zs.length) := h3
              have H4 : Hid (c.ps.length = c.zs.length) := h4
              clear h2 h3 h4
              go_enter Tryz.func19, Tryz.ntmps19
              have k6 := PB.X.cell 6 rfl
              go_wp2_with fail
              clear k6
              generalize w.alloc (.cells #[.int .i64 c.n, .int .i64 c.f, .int .i64 c.p, .int .i64 c.a, .int .i64 c.l, .int .i64 c.m, .slice aK c.zs.length cK, .slice aL c.bs.length cL, .slice aP c.ps.length cP, .slice aQ c.qs.length cQ, .int .i64 c.now, .slice aM c.ms.length cM, .slice aF c.fs.length cF] 35) = w1 at PB ⊢
              refine wp_region_noPanic ?_
              refine wp_region_held_drew (S := (fun w' => (w'.cell? ⟨w.heap.size, 0, none⟩ = some (.int .i64 c.n) ∧ w'.cell? ⟨w.heap.size, 1, none⟩ = some (.int .i64 c.f) ∧ w'.cell? ⟨w.heap.size, 2, none⟩ = some (.int .i64 c.p) ∧ w'.cell? ⟨w.heap.size, 3, none⟩ = some (.int .i64 c.a) ∧ w'.cell? ⟨w.heap.size, 4, none⟩ = some (.int .i64 c.l) ∧ w'.cell? ⟨w.heap.size, 5, none⟩ = some (.int .i64 c.m) ∧ w'.cell? ⟨w.heap.size, 6, none⟩ = some (.slice aK c.zs.length cK) ∧ w'.cell? ⟨w.heap.size, 7, none⟩ = some (.slice aL c.bs.length cL) ∧ w'.cell? ⟨w.heap.size, 8, none⟩ = some (.slice aP c.ps.length cP)) ∧ Hid (Kb c aK aL aP aQ aM aF w w' [.int .i64 c.n, .int .i64 c.f, .int .i64 c.p, .int .i64 c.a, .int .i64 c.l, .int .i64 c.m, .slice aK c.zs.length cK, .slice aL c.bs.length cL, .slice aP c.ps.length cP, .slice aQ c.qs.length cQ, .int .i64 c.now, .slice aM c.ms.length cM, .slice aF c.fs.length cF]))) (by kernel_rfl) ⟨⟨(PB.below (Below.refl _ _).drew).X.cell 0 rfl, (PB.below (Below.refl _ _).drew).X.cell 1 rfl, (PB.below (Below.refl _ _).drew).X.cell 2 rfl, (PB.below (Below.refl _ _).drew).X.cell 3 rfl, (PB.below (Below.refl _ _).drew).X.cell 4 rfl, (PB.below (Below.refl _ _).drew).X.cell 5 rfl, (PB.below (Below.refl _ _).drew).X.cell 6 rfl, (PB.below (Below.refl _ _).drew).X.cell 7 rfl, (PB.below (Below.refl _ _).drew).X.cell 8 rfl⟩, (PB.below (Below.refl _ _).drew)⟩ (fun hHeld => ?_)
              refine Tk.W 0 (some 11) (.fieldAddr 35 (.tmp 1) 0) 0 none ?_
              refine Tk.W 1 (some 12) (.load 25 (.tmp 11)) 25 none ?_
              refine Tk.R 2 (some 13) (.call ⟨.value (.func 13), #[.tmp 12], #[25]⟩) 4 none (fun K hK => ?_)
              go_simp
              refine (ruleS c.n c.f c.p c.a c.l c.m _).mono ?_
              rintro e wv ⟨rfl, bq53⟩
              rw [h0]
              have Pq53 := hHeld.2.out.below bq53
              try dsimp only
              refine hK.out _ _ ⟨⟨Pq53.X.cell 0 rfl, Pq53.X.cell 1 rfl, Pq53.X.cell 2 rfl, Pq53.X.cell 3 rfl, Pq53.X.cell 4 rfl, Pq53.X.cell 5 rfl, Pq53.X.cell 6 rfl, Pq53.X.cell 7 rfl, Pq53.X.cell 8 rfl⟩, Pq53⟩ ?_; clear hK K hHeld; intro hHeld; try simp only [Act.put, List.setIfInBounds_toArray, List.set_cons_zero, List.set_cons_succ]
              refine Tk.W 3 (some 14) (.unOp .not 4 (.tmp 13)) 4 none ?_
              refine Tk.W 4 (some 15) (.move (.tmp 14)) 4 none ?_
              refine Tk.W 5 (some 16) (.fieldAddr 35 (.tmp 1) 1) 0 (some (4, false)) ?_
              refine Tk.W 6 (some 17) (.load 26 (.tmp 16)) 26 (some (4, false)) ?_
              refine Tk.R 7 (some 18) (.call ⟨.value (.func 61), #[.tmp 17], #[26]⟩) 4 (some (4, false)) (fun K hK => ?_)
              go_simp
              refine (Sl.s_KeysOk aK c.zs.length cK c.zs _ hHeld.2.out.A.K (by omega)).mono ?_
              rintro e wv ⟨rfl, rfl⟩
              rw [h1]
              try dsimp only
              refine hK.out _ _ hHeld ?_; clear hK K hHeld; intro hHeld; try simp only [Act.put, List.setIfInBounds_toArray, List.set_cons_zero, List.set_cons_succ]
              refine Tk.W 8 (some 19) (.unOp .not 4 (.tmp 18)) 4 (some (4, false)) ?_
              refine Tk.W 9 (some 20) (.pick (.tmp 15) (.const (.bool true)) (.tmp 19)) 4 none ?_
              refine Tk.W 10 (some 21) (.move (.tmp 20)) 4 none ?_
              refine Tk.W 11 (some 22) (.move (.tmp 3)) 2 (some (10, false)) ?_
              refine Tk.W 12 (some 23) (.fieldAddr 35 (.tmp 1) 0) 0 (some (10, false)) ?_
              refine Tk.W 13 (some 24) (.fieldAddr 25 (.tmp 23) 0) 0 (some (10, false)) ?_
              refine Tk.W 14 (some 25) (.load 2 (.tmp 24)) 2 (some (10, false)) ?_
              refine Tk.W 15 (some 26) (.binOp .neq 2 (.tmp 22) (.tmp 25) 2) 4 (some (10, false)) ?_
              refine Tk.W 16 (some 27) (.pick (.tmp 21) (.const (.bool true)) (.tmp 26)) 4 none ?_
              refine Tk.W 17 (some 28) (.move (.tmp 27)) 4 none ?_
              refine Tk.W 18 (some 29) (.fieldAddr 35 (.tmp 1) 2) 0 (some (17, false)) ?_
              refine Tk.W 19 (some 30) (.load 27 (.tmp 29)) 27 (some (17, false)) ?_
              refine Tk.W 20 (some 31) (.call ⟨.builtin .len, #[.tmp 30], #[27]⟩) 3 (some (17, false)) ?_
              refine Tk.W 21 (some 32) (.move (.tmp 3)) 2 (some (17, false)) ?_
              refine Tk.W 22 (some 33) (.binOp .neq 2 (.tmp 31) (.tmp 32) 2) 4 (some (17, false)) ?_
              refine Tk.W 23 (some 34) (.pick (.tmp 28) (.const (.bool true)) (.tmp 33)) 4 none ?_
              refine Tk.W 24 (some 35) (.move (.tmp 34)) 4 none ?_
              refine Tk.W 25 (some 36) (.fieldAddr 35 (.tmp 1) 3) 0 (some (24, false)) ?_
              refine Tk.W 26 (some 37) (.load 30 (.tmp 36)) 30 (some (24, false)) ?_
              refine Tk.W 27 (some 38) (.call ⟨.builtin .len, #[.tmp 37], #[30]⟩) 3 (some (24, false)) ?_
              refine Tk.W 28 (some 39) (.move (.tmp 3)) 2 (some (24, false)) ?_
              refine Tk.W 29 (some 40) (.binOp .neq 2 (.tmp 38) (.tmp 39) 2) 4 (some (24, false)) ?_
              refine Tk.W 30 (some 41) (.pick (.tmp 35) (.const (.bool true)) (.tmp 40)) 4 none ?_
              refine Tk.W 31 (some 42) (.move (.tmp 41)) 4 none ?_
              refine Tk.W 32 (some 43) (.fieldAddr 35 (.tmp 1) 2) 0 (some (31, false)) ?_
              refine Tk.W 33 (some 44) (.load 27 (.tmp 43)) 27 (some (31, false)) ?_
              refine Tk.W 35 (some 46) (.fieldAddr 35 (.tmp 1) 0) 0 (some (31, false)) ?_
              refine Tk.W 36 (some 47) (.fieldAddr 25 (.tmp 46) 1) 0 (some (31, false)) ?_
              refine Tk.W 37 (some 48) (.load 2 (.tmp 47)) 2 (some (31, false)) ?_
              refine Tk.R 34 (some 45) (.call ⟨.value (.func 62), #[.tmp 44], #[27]⟩) 2 (some (31, false)) (fun K hK => ?_)
              go_simp
              refine (Ct.count aL c.bs.length cL c.bs _ hHeld.2.out.A.L (by omega)).mono ?_
              rintro e wv ⟨rfl, rfl⟩
              try dsimp only
              refine hK.out _ _ hHeld ?_; clear hK K hHeld; intro hHeld; try simp only [Act.put, List.setIfInBounds_toArray, List.set_cons_zero, List.set_cons_succ]
              refine Tk.W 38 (some 49) (.binOp .gtr 2 (.tmp 45) (.tmp 48) 2) 4 (some (31, false)) ?_
              refine Tk.W 39 (some 50) (.pick (.tmp 42) (.const (.bool true)) (.tmp 49)) 4 none ?_
              refine wpAnyH_done (by kernel_rfl) ?_ _
              refine NoPanic.normal ?_
              have PX := hHeld.2.out
              clear hHeld
              go_wp2
              go_ret
              exact ⟨retb HV.out.symm, PX.B⟩
          · have HV : Hid (CO c = false) := co_no (fun h => absurd h.1.2.2.2.2.1 h4)
            have v2 : ((c.zs.length : Int) != c.n) = false := by simp; omega
            have v3 : ((c.bs.length : Int) != (c.zs.length : Int)) = false := by simp; omega
            have v4 : ((c.ps.length : Int) != (c.zs.length : Int)) = true := by simp; omega
            have H2 : Hid ((c.zs.length : Int) = c.n) := h2
            have H3 : Hid (c.bs.length = c.zs.length) := h3
            clear h2 h3 h4
            go_enter Tryz.func19, Tryz.ntmps19
            have k6 := PB.X.cell 6 rfl
            go_wp2_with fail
            clear k6
            generalize w.alloc (.cells #[.int .i64 c.n, .int .i64 c.f, .int .i64 c.p, .int .i64 c.a, .int .i64 c.l, .int .i64 c.m, .slice aK c.zs.length cK, .slice aL c.bs.length cL, .slice aP c.ps.length cP, .slice aQ c.qs.length cQ, .int .i64 c.now, .slice aM c.ms.length cM, .slice aF c.fs.length cF] 35) = w1 at PB ⊢
            refine wp_region_noPanic ?_
            refine wp_region_held_drew (S := (fun w' => (w'.cell? ⟨w.heap.size, 0, none⟩ = some (.int .i64 c.n) ∧ w'.cell? ⟨w.heap.size, 1, none⟩ = some (.int .i64 c.f) ∧ w'.cell? ⟨w.heap.size, 2, none⟩ = some (.int .i64 c.p) ∧ w'.cell? ⟨w.heap.size, 3, none⟩ = some (.int .i64 c.a) ∧ w'.cell? ⟨w.heap.size, 4, none⟩ = some (.int .i64 c.l) ∧ w'.cell? ⟨w.heap.size, 5, none⟩ = some (.int .i64 c.m) ∧ w'.cell? ⟨w.heap.size, 6, none⟩ = some (.slice aK c.zs.length cK) ∧ w'.cell? ⟨w.heap.size, 7, none⟩ = some (.slice aL c.bs.length cL) ∧ w'.cell? ⟨w.heap.size, 8, none⟩ = some (.slice aP c.ps.length cP)) ∧ Hid (Kb c aK aL aP aQ aM aF w w' [.int .i64 c.n, .int .i64 c.f, .int .i64 c.p, .int .i64 c.a, .int .i64 c.l, .int .i64 c.m, .slice aK c.zs.length cK, .slice aL c.bs.length cL, .slice aP c.ps.length cP, .slice aQ c.qs.length cQ, .int .i64 c.now, .slice aM c.ms.length cM, .slice aF c.fs.length cF]))) (by kernel_rfl) ⟨⟨(PB.below (Below.refl _ _).drew).X.cell 0 rfl, (PB.below (Below.refl _ _).drew).X.cell 1 rfl, (PB.below (Below.refl _ _).drew).X.cell 2 rfl, (PB.below (Below.refl _ _).drew).X.cell 3 rfl, (PB.below (Below.refl _ _).drew).X.cell 4 rfl, (PB.below (Below.refl _ _).drew).X.cell 5 rfl, (PB.below (Below.refl _ _).drew).X.cell 6 rfl, (PB.below (Below.refl _ _).drew).X.cell 7 rfl, (PB.below (Below.refl _ _).drew).X.cell 8 rfl⟩, (PB.below (Below.refl _ _).drew)⟩ (fun hHeld => ?_)
            refine Tk.W 0 (some 11) (.fieldAddr 35 (.tmp 1) 0) 0 none ?_
            refine Tk.W 1 (some 12) (.load 25 (.tmp 11)) 25 none ?_
            refine Tk.R 2 (some 13) (.call ⟨.value (.func 13), #[.tmp 12], #[25]⟩) 4 none (fun K hK => ?_)
            go_simp
            refine (ruleS c.n c.f c.p c.a c.l c.m _).mono ?_
            rintro e wv ⟨rfl, bq43⟩
            rw [h0]
            have Pq43 := hHeld.2.out.below bq43
            try dsimp only
            refine hK.out _ _ ⟨⟨Pq43.X.cell 0 rfl, Pq43.X.cell 1 rfl, Pq43.X.cell 2 rfl, Pq43.X.cell 3 rfl, Pq43.X.cell 4 rfl, Pq43.X.cell 5 rfl, Pq43.X.cell 6 rfl, Pq43.X.cell 7 rfl, Pq43.X.cell 8 rfl⟩, Pq43⟩ ?_; clear hK K hHeld; intro hHeld; try simp only [Act.put, List.setIfInBounds_toArray, List.set_cons_zero, List.set_cons_succ]
            refine Tk.W 3 (some 14) (.unOp .not 4 (.tmp 13)) 4 none ?_
            refine Tk.W 4 (some 15) (.move (.tmp 14)) 4 none ?_
            refine Tk.W 5 (some 16) (.fieldAddr 35 (.tmp 1) 1) 0 (some (4, false)) ?_
            refine Tk.W 6 (some 17) (.load 26 (.tmp 16)) 26 (some (4, false)) ?_
            refine Tk.R 7 (some 18) (.call ⟨.value (.func 61), #[.tmp 17], #[26]⟩) 4 (some (4, false)) (fun K hK => ?_)
            go_simp
            refine (Sl.s_KeysOk aK c.zs.length cK c.zs _ hHeld.2.out.A.K (by omega)).mono ?_
            rintro e wv ⟨rfl, rfl⟩
            rw [h1]
            try dsimp only
            refine hK.out _ _ hHeld ?_; clear hK K hHeld; intro hHeld; try simp only [Act.put, List.setIfInBounds_toArray, List.set_cons_zero, List.set_cons_succ]
            refine Tk.W 8 (some 19) (.unOp .not 4 (.tmp 18)) 4 (some (4, false)) ?_
            refine Tk.W 9 (some 20) (.pick (.tmp 15) (.const (.bool true)) (.tmp 19)) 4 none ?_
            refine Tk.W 10 (some 21) (.move (.tmp 20)) 4 none ?_
            refine Tk.W 11 (some 22) (.move (.tmp 3)) 2 (some (10, false)) ?_
            refine Tk.W 12 (some 23) (.fieldAddr 35 (.tmp 1) 0) 0 (some (10, false)) ?_
            refine Tk.W 13 (some 24) (.fieldAddr 25 (.tmp 23) 0) 0 (some (10, false)) ?_
            refine Tk.W 14 (some 25) (.load 2 (.tmp 24)) 2 (some (10, false)) ?_
            refine Tk.W 15 (some 26) (.binOp .neq 2 (.tmp 22) (.tmp 25) 2) 4 (some (10, false)) ?_
            refine Tk.W 16 (some 27) (.pick (.tmp 21) (.const (.bool true)) (.tmp 26)) 4 none ?_
            refine Tk.W 17 (some 28) (.move (.tmp 27)) 4 none ?_
            refine Tk.W 18 (some 29) (.fieldAddr 35 (.tmp 1) 2) 0 (some (17, false)) ?_
            refine Tk.W 19 (some 30) (.load 27 (.tmp 29)) 27 (some (17, false)) ?_
            refine Tk.W 20 (some 31) (.call ⟨.builtin .len, #[.tmp 30], #[27]⟩) 3 (some (17, false)) ?_
            refine Tk.W 21 (some 32) (.move (.tmp 3)) 2 (some (17, false)) ?_
            refine Tk.W 22 (some 33) (.binOp .neq 2 (.tmp 31) (.tmp 32) 2) 4 (some (17, false)) ?_
            refine Tk.W 23 (some 34) (.pick (.tmp 28) (.const (.bool true)) (.tmp 33)) 4 none ?_
            refine Tk.W 24 (some 35) (.move (.tmp 34)) 4 none ?_
            refine Tk.W 25 (some 36) (.fieldAddr 35 (.tmp 1) 3) 0 (some (24, false)) ?_
            refine Tk.W 26 (some 37) (.load 30 (.tmp 36)) 30 (some (24, false)) ?_
            refine Tk.W 27 (some 38) (.call ⟨.builtin .len, #[.tmp 37], #[30]⟩) 3 (some (24, false)) ?_
            refine Tk.W 28 (some 39) (.move (.tmp 3)) 2 (some (24, false)) ?_
            refine Tk.W 29 (some 40) (.binOp .neq 2 (.tmp 38) (.tmp 39) 2) 4 (some (24, false)) ?_
            refine Tk.W 30 (some 41) (.pick (.tmp 35) (.const (.bool true)) (.tmp 40)) 4 none ?_
            refine Tk.W 31 (some 42) (.move (.tmp 41)) 4 none ?_
            refine Tk.N 32 (some 43) (.fieldAddr 35 (.tmp 1) 2) 0 (some (31, false)) ?_
            refine Tk.N 33 (some 44) (.load 27 (.tmp 43)) 27 (some (31, false)) ?_
            refine Tk.N 34 (some 45) (.call ⟨.value (.func 62), #[.tmp 44], #[27]⟩) 2 (some (31, false)) ?_
            refine Tk.N 35 (some 46) (.fieldAddr 35 (.tmp 1) 0) 0 (some (31, false)) ?_
            refine Tk.N 36 (some 47) (.fieldAddr 25 (.tmp 46) 1) 0 (some (31, false)) ?_
            refine Tk.N 37 (some 48) (.load 2 (.tmp 47)) 2 (some (31, false)) ?_
            refine Tk.N 38 (some 49) (.binOp .gtr 2 (.tmp 45) (.tmp 48) 2) 4 (some (31, false)) ?_
            refine Tk.W 39 (some 50) (.pick (.tmp 42) (.const (.bool true)) (.tmp 49)) 4 none ?_
            refine wpAnyH_done (by kernel_rfl) ?_ _
            refine NoPanic.normal ?_
            have PX := hHeld.2.out
            clear hHeld
            go_wp2
            go_ret
            exact ⟨retb HV.out.symm, PX.B⟩
        · have HV : Hid (CO c = false) := co_no (fun h => absurd h.1.2.2.2.1 h3)
          have v2 : ((c.zs.length : Int) != c.n) = false := by simp; omega
          have v3 : ((c.bs.length : Int) != (c.zs.length : Int)) = true := by simp; omega
          have H2 : Hid ((c.zs.length : Int) = c.n) := h2
          clear h2 h3
          go_enter Tryz.func19, Tryz.ntmps19
          have k6 := PB.X.cell 6 rfl
          go_wp2_with fail
          clear k6
          generalize w.alloc (.cells #[.int .i64 c.n, .int .i64 c.f, .int .i64 c.p, .int .i64 c.a, .int .i64 c.l, .int .i64 c.m, .slice aK c.zs.length cK, .slice aL c.bs.length cL, .slice aP c.ps.length cP, .slice aQ c.qs.length cQ, .int .i64 c.now, .slice aM c.ms.length cM, .slice aF c.fs.length cF] 35) = w1 at PB ⊢
          refine wp_region_noPanic ?_
          refine wp_region_held_drew (S := (fun w' => (w'.cell? ⟨w.heap.size, 0, none⟩ = some (.int .i64 c.n) ∧ w'.cell? ⟨w.heap.size, 1, none⟩ = some (.int .i64 c.f) ∧ w'.cell? ⟨w.heap.size, 2, none⟩ = some (.int .i64 c.p) ∧ w'.cell? ⟨w.heap.size, 3, none⟩ = some (.int .i64 c.a) ∧ w'.cell? ⟨w.heap.size, 4, none⟩ = some (.int .i64 c.l) ∧ w'.cell? ⟨w.heap.size, 5, none⟩ = some (.int .i64 c.m) ∧ w'.cell? ⟨w.heap.size, 6, none⟩ = some (.slice aK c.zs.length cK) ∧ w'.cell? ⟨w.heap.size, 7, none⟩ = some (.slice aL c.bs.length cL) ∧ w'.cell? ⟨w.heap.size, 8, none⟩ = some (.slice aP c.ps.length cP)) ∧ Hid (Kb c aK aL aP aQ aM aF w w' [.int .i64 c.n, .int .i64 c.f, .int .i64 c.p, .int .i64 c.a, .int .i64 c.l, .int .i64 c.m, .slice aK c.zs.length cK, .slice aL c.bs.length cL, .slice aP c.ps.length cP, .slice aQ c.qs.length cQ, .int .i64 c.now, .slice aM c.ms.length cM, .slice aF c.fs.length cF]))) (by kernel_rfl) ⟨⟨(PB.below (Below.refl _ _).drew).X.cell 0 rfl, (PB.below (Below.refl _ _).drew).X.cell 1 rfl, (PB.below (Below.refl _ _).drew).X.cell 2 rfl, (PB.below (Below.refl _ _).drew).X.cell 3 rfl, (PB.below (Below.refl _ _).drew).X.cell 4 rfl, (PB.below (Below.refl _ _).drew).X.cell 5 rfl, (PB.below (Below.refl _ _).drew).X.cell 6 rfl, (PB.below (Below.refl _ _).drew).X.cell 7 rfl, (PB.below (Below.refl _ _).drew).X.cell 8 rfl⟩, (PB.below (Below.refl _ _).drew)⟩ (fun hHeld => ?_)
          refine Tk.W 0 (some 11) (.fieldAddr 35 (.tmp 1) 0) 0 none ?_
          refine Tk.W 1 (some 12) (.load 25 (.tmp 11)) 25 none ?_
          refine Tk.R 2 (some 13) (.call ⟨.value (.func 13), #[.tmp 12], #[25]⟩) 4 none (fun K hK => ?_)
          go_simp
          refine (ruleS c.n c.f c.p c.a c.l c.m _).mono ?_
          rintro e wv ⟨rfl, bq33⟩
          rw [h0]
          have Pq33 := hHeld.2.out.below bq33
          try dsimp only
          refine hK.out _ _ ⟨⟨Pq33.X.cell 0 rfl, Pq33.X.cell 1 rfl, Pq33.X.cell 2 rfl, Pq33.X.cell 3 rfl, Pq33.X.cell 4 rfl, Pq33.X.cell 5 rfl, Pq33.X.cell 6 rfl, Pq33.X.cell 7 rfl, Pq33.X.cell 8 rfl⟩, Pq33⟩ ?_; clear hK K hHeld; intro hHeld; try simp only [Act.put, List.setIfInBounds_toArray, List.set_cons_zero, List.set_cons_succ]
          refine Tk.W 3 (some 14) (.unOp .not 4 (.tmp 13)) 4 none ?_
          refine Tk.W 4 (some 15) (.move (.tmp 14)) 4 none ?_
          refine Tk.W 5 (some 16) (.fieldAddr 35 (.tmp 1) 1) 0 (some (4, false)) ?_
          refine Tk.W 6 (some 17) (.load 26 (.tmp 16)) 26 (some (4, false)) ?_
          refine Tk.R 7 (some 18) (.call ⟨.value (.func 61), #[.tmp 17], #[26]⟩) 4 (some (4, false)) (fun K hK => ?_)
          go_simp
          refine (Sl.s_KeysOk aK c.zs.length cK c.zs _ hHeld.2.out.A.K (by omega)).mono ?_
          rintro e wv ⟨rfl, rfl⟩
          rw [h1]
          try dsimp only
          refine hK.out _ _ hHeld ?_; clear hK K hHeld; intro hHeld; try simp only [Act.put, List.setIfInBounds_toArray, List.set_cons_zero, List.set_cons_succ]
          refine Tk.W 8 (some 19) (.unOp .not 4 (.tmp 18)) 4 (some (4, false)) ?_
          refine Tk.W 9 (some 20) (.pick (.tmp 15) (.const (.bool true)) (.tmp 19)) 4 none ?_
          refine Tk.W 10 (some 21) (.move (.tmp 20)) 4 none ?_
          refine Tk.W 11 (some 22) (.move (.tmp 3)) 2 (some (10, false)) ?_
          refine Tk.W 12 (some 23) (.fieldAddr 35 (.tmp 1) 0) 0 (some (10, false)) ?_
          refine Tk.W 13 (some 24) (.fieldAddr 25 (.tmp 23) 0) 0 (some (10, false)) ?_
          refine Tk.W 14 (some 25) (.load 2 (.tmp 24)) 2 (some (10, false)) ?_
          refine Tk.W 15 (some 26) (.binOp .neq 2 (.tmp 22) (.tmp 25) 2) 4 (some (10, false)) ?_
          refine Tk.W 16 (some 27) (.pick (.tmp 21) (.const (.bool true)) (.tmp 26)) 4 none ?_
          refine Tk.W 17 (some 28) (.move (.tmp 27)) 4 none ?_
          refine Tk.W 18 (some 29) (.fieldAddr 35 (.tmp 1) 2) 0 (some (17, false)) ?_
          refine Tk.W 19 (some 30) (.load 27 (.tmp 29)) 27 (some (17, false)) ?_
          refine Tk.W 20 (some 31) (.call ⟨.builtin .len, #[.tmp 30], #[27]⟩) 3 (some (17, false)) ?_
          refine Tk.W 21 (some 32) (.move (.tmp 3)) 2 (some (17, false)) ?_
          refine Tk.W 22 (some 33) (.binOp .neq 2 (.tmp 31) (.tmp 32) 2) 4 (some (17, false)) ?_
          refine Tk.W 23 (some 34) (.pick (.tmp 28) (.const (.bool true)) (.tmp 33)) 4 none ?_
          refine Tk.W 24 (some 35) (.move (.tmp 34)) 4 none ?_
          refine Tk.N 25 (some 36) (.fieldAddr 35 (.tmp 1) 3) 0 (some (24, false)) ?_
          refine Tk.N 26 (some 37) (.load 30 (.tmp 36)) 30 (some (24, false)) ?_
          refine Tk.N 27 (some 38) (.call ⟨.builtin .len, #[.tmp 37], #[30]⟩) 3 (some (24, false)) ?_
          refine Tk.N 28 (some 39) (.move (.tmp 3)) 2 (some (24, false)) ?_
          refine Tk.N 29 (some 40) (.binOp .neq 2 (.tmp 38) (.tmp 39) 2) 4 (some (24, false)) ?_
          refine Tk.W 30 (some 41) (.pick (.tmp 35) (.const (.bool true)) (.tmp 40)) 4 none ?_
          refine Tk.W 31 (some 42) (.move (.tmp 41)) 4 none ?_
          refine Tk.N 32 (some 43) (.fieldAddr 35 (.tmp 1) 2) 0 (some (31, false)) ?_
          refine Tk.N 33 (some 44) (.load 27 (.tmp 43)) 27 (some (31, false)) ?_
          refine Tk.N 34 (some 45) (.call ⟨.value (.func 62), #[.tmp 44], #[27]⟩) 2 (some (31, false)) ?_
          refine Tk.N 35 (some 46) (.fieldAddr 35 (.tmp 1) 0) 0 (some (31, false)) ?_
          refine Tk.N 36 (some 47) (.fieldAddr 25 (.tmp 46) 1) 0 (some (31, false)) ?_
          refine Tk.N 37 (some 48) (.load 2 (.tmp 47)) 2 (some (31, false)) ?_
          refine Tk.N 38 (some 49) (.binOp .gtr 2 (.tmp 45) (.tmp 48) 2) 4 (some (31, false)) ?_
          refine Tk.W 39 (some 50) (.pick (.tmp 42) (.const (.bool true)) (.tmp 49)) 4 none ?_
          refine wpAnyH_done (by kernel_rfl) ?_ _
          refine NoPanic.normal ?_
          have PX := hHeld.2.out
          clear hHeld
          go_wp2
          go_ret
          exact ⟨retb HV.out.symm, PX.B⟩
      · have HV : Hid (CO c = false) := co_no (fun h => absurd h.1.2.2.1 h2)
        have v2 : ((c.zs.length : Int) != c.n) = true := by simp; omega
        clear h2
        go_enter Tryz.func19, Tryz.ntmps19
        have k6 := PB.X.cell 6 rfl
        go_wp2_with fail
        clear k6
        generalize w.alloc (.cells #[.int .i64 c.n, .int .i64 c.f, .int .i64 c.p, .int .i64 c.a, .int .i64 c.l, .int .i64 c.m, .slice aK c.zs.length cK, .slice aL c.bs.length cL, .slice aP c.ps.length cP, .slice aQ c.qs.length cQ, .int .i64 c.now, .slice aM c.ms.length cM, .slice aF c.fs.length cF] 35) = w1 at PB ⊢
        refine wp_region_noPanic ?_
        refine wp_region_held_drew (S := (fun w' => (w'.cell? ⟨w.heap.size, 0, none⟩ = some (.int .i64 c.n) ∧ w'.cell? ⟨w.heap.size, 1, none⟩ = some (.int .i64 c.f) ∧ w'.cell? ⟨w.heap.size, 2, none⟩ = some (.int .i64 c.p) ∧ w'.cell? ⟨w.heap.size, 3, none⟩ = some (.int .i64 c.a) ∧ w'.cell? ⟨w.heap.size, 4, none⟩ = some (.int .i64 c.l) ∧ w'.cell? ⟨w.heap.size, 5, none⟩ = some (.int .i64 c.m) ∧ w'.cell? ⟨w.heap.size, 6, none⟩ = some (.slice aK c.zs.length cK) ∧ w'.cell? ⟨w.heap.size, 7, none⟩ = some (.slice aL c.bs.length cL) ∧ w'.cell? ⟨w.heap.size, 8, none⟩ = some (.slice aP c.ps.length cP)) ∧ Hid (Kb c aK aL aP aQ aM aF w w' [.int .i64 c.n, .int .i64 c.f, .int .i64 c.p, .int .i64 c.a, .int .i64 c.l, .int .i64 c.m, .slice aK c.zs.length cK, .slice aL c.bs.length cL, .slice aP c.ps.length cP, .slice aQ c.qs.length cQ, .int .i64 c.now, .slice aM c.ms.length cM, .slice aF c.fs.length cF]))) (by kernel_rfl) ⟨⟨(PB.below (Below.refl _ _).drew).X.cell 0 rfl, (PB.below (Below.refl _ _).drew).X.cell 1 rfl, (PB.below (Below.refl _ _).drew).X.cell 2 rfl, (PB.below (Below.refl _ _).drew).X.cell 3 rfl, (PB.below (Below.refl _ _).drew).X.cell 4 rfl, (PB.below (Below.refl _ _).drew).X.cell 5 rfl, (PB.below (Below.refl _ _).drew).X.cell 6 rfl, (PB.below (Below.refl _ _).drew).X.cell 7 rfl, (PB.below (Below.refl _ _).drew).X.cell 8 rfl⟩, (PB.below (Below.refl _ _).drew)⟩ (fun hHeld => ?_)
        refine Tk.W 0 (some 11) (.fieldAddr 35 (.tmp 1) 0) 0 none ?_
        refine Tk.W 1 (some 12) (.load 25 (.tmp 11)) 25 none ?_
        refine Tk.R 2 (some 13) (.call ⟨.value (.func 13), #[.tmp 12], #[25]⟩) 4 none (fun K hK => ?_)
        go_simp
        refine (ruleS c.n c.f c.p c.a c.l c.m _).mono ?_
        rintro e wv ⟨rfl, bq23⟩
        rw [h0]
        have Pq23 := hHeld.2.out.below bq23
        try dsimp only
        refine hK.out _ _ ⟨⟨Pq23.X.cell 0 rfl, Pq23.X.cell 1 rfl, Pq23.X.cell 2 rfl, Pq23.X.cell 3 rfl, Pq23.X.cell 4 rfl, Pq23.X.cell 5 rfl, Pq23.X.cell 6 rfl, Pq23.X.cell 7 rfl, Pq23.X.cell 8 rfl⟩, Pq23⟩ ?_; clear hK K hHeld; intro hHeld; try simp only [Act.put, List.setIfInBounds_toArray, List.set_cons_zero, List.set_cons_succ]
        refine Tk.W 3 (some 14) (.unOp .not 4 (.tmp 13)) 4 none ?_
        refine Tk.W 4 (some 15) (.move (.tmp 14)) 4 none ?_
        refine Tk.W 5 (some 16) (.fieldAddr 35 (.tmp 1) 1) 0 (some (4, false)) ?_
        refine Tk.W 6 (some 17) (.load 26 (.tmp 16)) 26 (some (4, false)) ?_
        refine Tk.R 7 (some 18) (.call ⟨.value (.func 61), #[.tmp 17], #[26]⟩) 4 (some (4, false)) (fun K hK => ?_)
        go_simp
        refine (Sl.s_KeysOk aK c.zs.length cK c.zs _ hHeld.2.out.A.K (by omega)).mono ?_
        rintro e wv ⟨rfl, rfl⟩
        rw [h1]
        try dsimp only
        refine hK.out _ _ hHeld ?_; clear hK K hHeld; intro hHeld; try simp only [Act.put, List.setIfInBounds_toArray, List.set_cons_zero, List.set_cons_succ]
        refine Tk.W 8 (some 19) (.unOp .not 4 (.tmp 18)) 4 (some (4, false)) ?_
        refine Tk.W 9 (some 20) (.pick (.tmp 15) (.const (.bool true)) (.tmp 19)) 4 none ?_
        refine Tk.W 10 (some 21) (.move (.tmp 20)) 4 none ?_
        refine Tk.W 11 (some 22) (.move (.tmp 3)) 2 (some (10, false)) ?_
        refine Tk.W 12 (some 23) (.fieldAddr 35 (.tmp 1) 0) 0 (some (10, false)) ?_
        refine Tk.W 13 (some 24) (.fieldAddr 25 (.tmp 23) 0) 0 (some (10, false)) ?_
        refine Tk.W 14 (some 25) (.load 2 (.tmp 24)) 2 (some (10, false)) ?_
        refine Tk.W 15 (some 26) (.binOp .neq 2 (.tmp 22) (.tmp 25) 2) 4 (some (10, false)) ?_
        refine Tk.W 16 (some 27) (.pick (.tmp 21) (.const (.bool true)) (.tmp 26)) 4 none ?_
        refine Tk.W 17 (some 28) (.move (.tmp 27)) 4 none ?_
        refine Tk.N 18 (some 29) (.fieldAddr 35 (.tmp 1) 2) 0 (some (17, false)) ?_
        refine Tk.N 19 (some 30) (.load 27 (.tmp 29)) 27 (some (17, false)) ?_
        refine Tk.N 20 (some 31) (.call ⟨.builtin .len, #[.tmp 30], #[27]⟩) 3 (some (17, false)) ?_
        refine Tk.N 21 (some 32) (.move (.tmp 3)) 2 (some (17, false)) ?_
        refine Tk.N 22 (some 33) (.binOp .neq 2 (.tmp 31) (.tmp 32) 2) 4 (some (17, false)) ?_
        refine Tk.W 23 (some 34) (.pick (.tmp 28) (.const (.bool true)) (.tmp 33)) 4 none ?_
        refine Tk.W 24 (some 35) (.move (.tmp 34)) 4 none ?_
        refine Tk.N 25 (some 36) (.fieldAddr 35 (.tmp 1) 3) 0 (some (24, false)) ?_
        refine Tk.N 26 (some 37) (.load 30 (.tmp 36)) 30 (some (24, false)) ?_
        refine Tk.N 27 (some 38) (.call ⟨.builtin .len, #[.tmp 37], #[30]⟩) 3 (some (24, false)) ?_
        refine Tk.N 28 (some 39) (.move (.tmp 3)) 2 (some (24, false)) ?_
        refine Tk.N 29 (some 40) (.binOp .neq 2 (.tmp 38) (.tmp 39) 2) 4 (some (24, false)) ?_
        refine Tk.W 30 (some 41) (.pick (.tmp 35) (.const (.bool true)) (.tmp 40)) 4 none ?_
        refine Tk.W 31 (some 42) (.move (.tmp 41)) 4 none ?_
        refine Tk.N 32 (some 43) (.fieldAddr 35 (.tmp 1) 2) 0 (some (31, false)) ?_
        refine Tk.N 33 (some 44) (.load 27 (.tmp 43)) 27 (some (31, false)) ?_
        refine Tk.N 34 (some 45) (.call ⟨.value (.func 62), #[.tmp 44], #[27]⟩) 2 (some (31, false)) ?_
        refine Tk.N 35 (some 46) (.fieldAddr 35 (.tmp 1) 0) 0 (some (31, false)) ?_
        refine Tk.N 36 (some 47) (.fieldAddr 25 (.tmp 46) 1) 0 (some (31, false)) ?_
        refine Tk.N 37 (some 48) (.load 2 (.tmp 47)) 2 (some (31, false)) ?_
        refine Tk.N 38 (some 49) (.binOp .gtr 2 (.tmp 45) (.tmp 48) 2) 4 (some (31, false)) ?_
        refine Tk.W 39 (some 50) (.pick (.tmp 42) (.const (.bool true)) (.tmp 49)) 4 none ?_
        refine wpAnyH_done (by kernel_rfl) ?_ _
        refine NoPanic.normal ?_
        have PX := hHeld.2.out
        clear hHeld
        go_wp2
        go_ret
        exact ⟨retb HV.out.symm, PX.B⟩
    · have HV : Hid (CO c = false) := co_no (fun h => absurd h.1.2.1 h1)
      have hF : KO c.zs c.zs.length = false := by simpa using h1
      go_enter Tryz.func19, Tryz.ntmps19
      have k6 := PB.X.cell 6 rfl
      go_wp2_with fail
      clear k6
      generalize w.alloc (.cells #[.int .i64 c.n, .int .i64 c.f, .int .i64 c.p, .int .i64 c.a, .int .i64 c.l, .int .i64 c.m, .slice aK c.zs.length cK, .slice aL c.bs.length cL, .slice aP c.ps.length cP, .slice aQ c.qs.length cQ, .int .i64 c.now, .slice aM c.ms.length cM, .slice aF c.fs.length cF] 35) = w1 at PB ⊢
      refine wp_region_noPanic ?_
      refine wp_region_held_drew (S := (fun w' => (w'.cell? ⟨w.heap.size, 0, none⟩ = some (.int .i64 c.n) ∧ w'.cell? ⟨w.heap.size, 1, none⟩ = some (.int .i64 c.f) ∧ w'.cell? ⟨w.heap.size, 2, none⟩ = some (.int .i64 c.p) ∧ w'.cell? ⟨w.heap.size, 3, none⟩ = some (.int .i64 c.a) ∧ w'.cell? ⟨w.heap.size, 4, none⟩ = some (.int .i64 c.l) ∧ w'.cell? ⟨w.heap.size, 5, none⟩ = some (.int .i64 c.m) ∧ w'.cell? ⟨w.heap.size, 6, none⟩ = some (.slice aK c.zs.length cK) ∧ w'.cell? ⟨w.heap.size, 7, none⟩ = some (.slice aL c.bs.length cL) ∧ w'.cell? ⟨w.heap.size, 8, none⟩ = some (.slice aP c.ps.length cP)) ∧ Hid (Kb c aK aL aP aQ aM aF w w' [.int .i64 c.n, .int .i64 c.f, .int .i64 c.p, .int .i64 c.a, .int .i64 c.l, .int .i64 c.m, .slice aK c.zs.length cK, .slice aL c.bs.length cL, .slice aP c.ps.length cP, .slice aQ c.qs.length cQ, .int .i64 c.now, .slice aM c.ms.length cM, .slice aF c.fs.length cF]))) (by kernel_rfl) ⟨⟨(PB.below (Below.refl _ _).drew).X.cell 0 rfl, (PB.below (Below.refl _ _).drew).X.cell 1 rfl, (PB.below (Below.refl _ _).drew).X.cell 2 rfl, (PB.below (Below.refl _ _).drew).X.cell 3 rfl, (PB.below (Below.refl _ _).drew).X.cell 4 rfl, (PB.below (Below.refl _ _).drew).X.cell 5 rfl, (PB.below (Below.refl _ _).drew).X.cell 6 rfl, (PB.below (Below.refl _ _).drew).X.cell 7 rfl, (PB.below (Below.refl _ _).drew).X.cell 8 rfl⟩, (PB.below (Below.refl _ _).drew)⟩ (fun hHeld => ?_)
      refine Tk.W 0 (some 11) (.fieldAddr 35 (.tmp 1) 0) 0 none ?_
      refine Tk.W 1 (some 12) (.load 25 (.tmp 11)) 25 none ?_
      refine Tk.R 2 (some 13) (.call ⟨.value (.func 13), #[.tmp 12], #[25]⟩) 4 none (fun K hK => ?_)
      go_simp
      refine (ruleS c.n c.f c.p c.a c.l c.m _).mono ?_
      rintro e wv ⟨rfl, bq13⟩
      rw [h0]
      have Pq13 := hHeld.2.out.below bq13
      try dsimp only
      refine hK.out _ _ ⟨⟨Pq13.X.cell 0 rfl, Pq13.X.cell 1 rfl, Pq13.X.cell 2 rfl, Pq13.X.cell 3 rfl, Pq13.X.cell 4 rfl, Pq13.X.cell 5 rfl, Pq13.X.cell 6 rfl, Pq13.X.cell 7 rfl, Pq13.X.cell 8 rfl⟩, Pq13⟩ ?_; clear hK K hHeld; intro hHeld; try simp only [Act.put, List.setIfInBounds_toArray, List.set_cons_zero, List.set_cons_succ]
      refine Tk.W 3 (some 14) (.unOp .not 4 (.tmp 13)) 4 none ?_
      refine Tk.W 4 (some 15) (.move (.tmp 14)) 4 none ?_
      refine Tk.W 5 (some 16) (.fieldAddr 35 (.tmp 1) 1) 0 (some (4, false)) ?_
      refine Tk.W 6 (some 17) (.load 26 (.tmp 16)) 26 (some (4, false)) ?_
      refine Tk.R 7 (some 18) (.call ⟨.value (.func 61), #[.tmp 17], #[26]⟩) 4 (some (4, false)) (fun K hK => ?_)
      go_simp
      refine (Sl.s_KeysOk aK c.zs.length cK c.zs _ hHeld.2.out.A.K (by omega)).mono ?_
      rintro e wv ⟨rfl, rfl⟩
      rw [hF]
      try dsimp only
      refine hK.out _ _ hHeld ?_; clear hK K hHeld; intro hHeld; try simp only [Act.put, List.setIfInBounds_toArray, List.set_cons_zero, List.set_cons_succ]
      refine Tk.W 8 (some 19) (.unOp .not 4 (.tmp 18)) 4 (some (4, false)) ?_
      refine Tk.W 9 (some 20) (.pick (.tmp 15) (.const (.bool true)) (.tmp 19)) 4 none ?_
      refine Tk.W 10 (some 21) (.move (.tmp 20)) 4 none ?_
      refine Tk.N 11 (some 22) (.move (.tmp 3)) 2 (some (10, false)) ?_
      refine Tk.N 12 (some 23) (.fieldAddr 35 (.tmp 1) 0) 0 (some (10, false)) ?_
      refine Tk.N 13 (some 24) (.fieldAddr 25 (.tmp 23) 0) 0 (some (10, false)) ?_
      refine Tk.N 14 (some 25) (.load 2 (.tmp 24)) 2 (some (10, false)) ?_
      refine Tk.N 15 (some 26) (.binOp .neq 2 (.tmp 22) (.tmp 25) 2) 4 (some (10, false)) ?_
      refine Tk.W 16 (some 27) (.pick (.tmp 21) (.const (.bool true)) (.tmp 26)) 4 none ?_
      refine Tk.W 17 (some 28) (.move (.tmp 27)) 4 none ?_
      refine Tk.N 18 (some 29) (.fieldAddr 35 (.tmp 1) 2) 0 (some (17, false)) ?_
      refine Tk.N 19 (some 30) (.load 27 (.tmp 29)) 27 (some (17, false)) ?_
      refine Tk.N 20 (some 31) (.call ⟨.builtin .len, #[.tmp 30], #[27]⟩) 3 (some (17, false)) ?_
      refine Tk.N 21 (some 32) (.move (.tmp 3)) 2 (some (17, false)) ?_
      refine Tk.N 22 (some 33) (.binOp .neq 2 (.tmp 31) (.tmp 32) 2) 4 (some (17, false)) ?_
      refine Tk.W 23 (some 34) (.pick (.tmp 28) (.const (.bool true)) (.tmp 33)) 4 none ?_
      refine Tk.W 24 (some 35) (.move (.tmp 34)) 4 none ?_
      refine Tk.N 25 (some 36) (.fieldAddr 35 (.tmp 1) 3) 0 (some (24, false)) ?_
      refine Tk.N 26 (some 37) (.load 30 (.tmp 36)) 30 (some (24, false)) ?_
      refine Tk.N 27 (some 38) (.call ⟨.builtin .len, #[.tmp 37], #[30]⟩) 3 (some (24, false)) ?_
      refine Tk.N 28 (some 39) (.move (.tmp 3)) 2 (some (24, false)) ?_
      refine Tk.N 29 (some 40) (.binOp .neq 2 (.tmp 38) (.tmp 39) 2) 4 (some (24, false)) ?_
      refine Tk.W 30 (some 41) (.pick (.tmp 35) (.const (.bool true)) (.tmp 40)) 4 none ?_
      refine Tk.W 31 (some 42) (.move (.tmp 41)) 4 none ?_
      refine Tk.N 32 (some 43) (.fieldAddr 35 (.tmp 1) 2) 0 (some (31, false)) ?_
      refine Tk.N 33 (some 44) (.load 27 (.tmp 43)) 27 (some (31, false)) ?_
      refine Tk.N 34 (some 45) (.call ⟨.value (.func 62), #[.tmp 44], #[27]⟩) 2 (some (31, false)) ?_
      refine Tk.N 35 (some 46) (.fieldAddr 35 (.tmp 1) 0) 0 (some (31, false)) ?_
      refine Tk.N 36 (some 47) (.fieldAddr 25 (.tmp 46) 1) 0 (some (31, false)) ?_
      refine Tk.N 37 (some 48) (.load 2 (.tmp 47)) 2 (some (31, false)) ?_
      refine Tk.N 38 (some 49) (.binOp .gtr 2 (.tmp 45) (.tmp 48) 2) 4 (some (31, false)) ?_
      refine Tk.W 39 (some 50) (.pick (.tmp 42) (.const (.bool true)) (.tmp 49)) 4 none ?_
      refine wpAnyH_done (by kernel_rfl) ?_ _
      refine NoPanic.normal ?_
      have PX := hHeld.2.out
      clear hHeld
      go_wp2
      go_ret
      exact ⟨retb HV.out.symm, PX.B⟩
  · have HV : Hid (CO c = false) := co_no (fun h => absurd h.1.1 h0)
    have hF : RO c.n c.f c.p c.a c.l c.m = false := by simpa using h0
    go_enter Tryz.func19, Tryz.ntmps19
    have k6 := PB.X.cell 6 rfl
    go_wp2_with fail
    clear k6
    generalize w.alloc (.cells #[.int .i64 c.n, .int .i64 c.f, .int .i64 c.p, .int .i64 c.a, .int .i64 c.l, .int .i64 c.m, .slice aK c.zs.length cK, .slice aL c.bs.length cL, .slice aP c.ps.length cP, .slice aQ c.qs.length cQ, .int .i64 c.now, .slice aM c.ms.length cM, .slice aF c.fs.length cF] 35) = w1 at PB ⊢
    refine wp_region_noPanic ?_
    refine wp_region_held_drew (S := (fun w' => (w'.cell? ⟨w.heap.size, 0, none⟩ = some (.int .i64 c.n) ∧ w'.cell? ⟨w.heap.size, 1, none⟩ = some (.int .i64 c.f) ∧ w'.cell? ⟨w.heap.size, 2, none⟩ = some (.int .i64 c.p) ∧ w'.cell? ⟨w.heap.size, 3, none⟩ = some (.int .i64 c.a) ∧ w'.cell? ⟨w.heap.size, 4, none⟩ = some (.int .i64 c.l) ∧ w'.cell? ⟨w.heap.size, 5, none⟩ = some (.int .i64 c.m) ∧ w'.cell? ⟨w.heap.size, 6, none⟩ = some (.slice aK c.zs.length cK) ∧ w'.cell? ⟨w.heap.size, 7, none⟩ = some (.slice aL c.bs.length cL) ∧ w'.cell? ⟨w.heap.size, 8, none⟩ = some (.slice aP c.ps.length cP)) ∧ Hid (Kb c aK aL aP aQ aM aF w w' [.int .i64 c.n, .int .i64 c.f, .int .i64 c.p, .int .i64 c.a, .int .i64 c.l, .int .i64 c.m, .slice aK c.zs.length cK, .slice aL c.bs.length cL, .slice aP c.ps.length cP, .slice aQ c.qs.length cQ, .int .i64 c.now, .slice aM c.ms.length cM, .slice aF c.fs.length cF]))) (by kernel_rfl) ⟨⟨(PB.below (Below.refl _ _).drew).X.cell 0 rfl, (PB.below (Below.refl _ _).drew).X.cell 1 rfl, (PB.below (Below.refl _ _).drew).X.cell 2 rfl, (PB.below (Below.refl _ _).drew).X.cell 3 rfl, (PB.below (Below.refl _ _).drew).X.cell 4 rfl, (PB.below (Below.refl _ _).drew).X.cell 5 rfl, (PB.below (Below.refl _ _).drew).X.cell 6 rfl, (PB.below (Below.refl _ _).drew).X.cell 7 rfl, (PB.below (Below.refl _ _).drew).X.cell 8 rfl⟩, (PB.below (Below.refl _ _).drew)⟩ (fun hHeld => ?_)
    refine Tk.W 0 (some 11) (.fieldAddr 35 (.tmp 1) 0) 0 none ?_
    refine Tk.W 1 (some 12) (.load 25 (.tmp 11)) 25 none ?_
    refine Tk.R 2 (some 13) (.call ⟨.value (.func 13), #[.tmp 12], #[25]⟩) 4 none (fun K hK => ?_)
    go_simp
    refine (ruleS c.n c.f c.p c.a c.l c.m _).mono ?_
    rintro e wv ⟨rfl, bq03⟩
    rw [hF]
    have Pq03 := hHeld.2.out.below bq03
    try dsimp only
    refine hK.out _ _ ⟨⟨Pq03.X.cell 0 rfl, Pq03.X.cell 1 rfl, Pq03.X.cell 2 rfl, Pq03.X.cell 3 rfl, Pq03.X.cell 4 rfl, Pq03.X.cell 5 rfl, Pq03.X.cell 6 rfl, Pq03.X.cell 7 rfl, Pq03.X.cell 8 rfl⟩, Pq03⟩ ?_; clear hK K hHeld; intro hHeld; try simp only [Act.put, List.setIfInBounds_toArray, List.set_cons_zero, List.set_cons_succ]
    refine Tk.W 3 (some 14) (.unOp .not 4 (.tmp 13)) 4 none ?_
    refine Tk.W 4 (some 15) (.move (.tmp 14)) 4 none ?_
    refine Tk.N 5 (some 16) (.fieldAddr 35 (.tmp 1) 1) 0 (some (4, false)) ?_
    refine Tk.N 6 (some 17) (.load 26 (.tmp 16)) 26 (some (4, false)) ?_
    refine Tk.N 7 (some 18) (.call ⟨.value (.func 61), #[.tmp 17], #[26]⟩) 4 (some (4, false)) ?_
    refine Tk.N 8 (some 19) (.unOp .not 4 (.tmp 18)) 4 (some (4, false)) ?_
    refine Tk.W 9 (some 20) (.pick (.tmp 15) (.const (.bool true)) (.tmp 19)) 4 none ?_
    refine Tk.W 10 (some 21) (.move (.tmp 20)) 4 none ?_
    refine Tk.N 11 (some 22) (.move (.tmp 3)) 2 (some (10, false)) ?_
    refine Tk.N 12 (some 23) (.fieldAddr 35 (.tmp 1) 0) 0 (some (10, false)) ?_
    refine Tk.N 13 (some 24) (.fieldAddr 25 (.tmp 23) 0) 0 (some (10, false)) ?_
    refine Tk.N 14 (some 25) (.load 2 (.tmp 24)) 2 (some (10, false)) ?_
    refine Tk.N 15 (some 26) (.binOp .neq 2 (.tmp 22) (.tmp 25) 2) 4 (some (10, false)) ?_
    refine Tk.W 16 (some 27) (.pick (.tmp 21) (.const (.bool true)) (.tmp 26)) 4 none ?_
    refine Tk.W 17 (some 28) (.move (.tmp 27)) 4 none ?_
    refine Tk.N 18 (some 29) (.fieldAddr 35 (.tmp 1) 2) 0 (some (17, false)) ?_
    refine Tk.N 19 (some 30) (.load 27 (.tmp 29)) 27 (some (17, false)) ?_
    refine Tk.N 20 (some 31) (.call ⟨.builtin .len, #[.tmp 30], #[27]⟩) 3 (some (17, false)) ?_
    refine Tk.N 21 (some 32) (.move (.tmp 3)) 2 (some (17, false)) ?_
    refine Tk.N 22 (some 33) (.binOp .neq 2 (.tmp 31) (.tmp 32) 2) 4 (some (17, false)) ?_
    refine Tk.W 23 (some 34) (.pick (.tmp 28) (.const (.bool true)) (.tmp 33)) 4 none ?_
    refine Tk.W 24 (some 35) (.move (.tmp 34)) 4 none ?_
    refine Tk.N 25 (some 36) (.fieldAddr 35 (.tmp 1) 3) 0 (some (24, false)) ?_
    refine Tk.N 26 (some 37) (.load 30 (.tmp 36)) 30 (some (24, false)) ?_
    refine Tk.N 27 (some 38) (.call ⟨.builtin .len, #[.tmp 37], #[30]⟩) 3 (some (24, false)) ?_
    refine Tk.N 28 (some 39) (.move (.tmp 3)) 2 (some (24, false)) ?_
    refine Tk.N 29 (some 40) (.binOp .neq 2 (.tmp 38) (.tmp 39) 2) 4 (some (24, false)) ?_
    refine Tk.W 30 (some 41) (.pick (.tmp 35) (.const (.bool true)) (.tmp 40)) 4 none ?_
    refine Tk.W 31 (some 42) (.move (.tmp 41)) 4 none ?_
    refine Tk.N 32 (some 43) (.fieldAddr 35 (.tmp 1) 2) 0 (some (31, false)) ?_
    refine Tk.N 33 (some 44) (.load 27 (.tmp 43)) 27 (some (31, false)) ?_
    refine Tk.N 34 (some 45) (.call ⟨.value (.func 62), #[.tmp 44], #[27]⟩) 2 (some (31, false)) ?_
    refine Tk.N 35 (some 46) (.fieldAddr 35 (.tmp 1) 0) 0 (some (31, false)) ?_
    refine Tk.N 36 (some 47) (.fieldAddr 25 (.tmp 46) 1) 0 (some (31, false)) ?_
    refine Tk.N 37 (some 48) (.load 2 (.tmp 47)) 2 (some (31, false)) ?_
    refine Tk.N 38 (some 49) (.binOp .gtr 2 (.tmp 45) (.tmp 48) 2) 4 (some (31, false)) ?_
    refine Tk.W 39 (some 50) (.pick (.tmp 42) (.const (.bool true)) (.tmp 49)) 4 none ?_
    refine wpAnyH_done (by kernel_rfl) ?_ _
    refine NoPanic.normal ?_
    have PX := hHeld.2.out
    clear hHeld
    go_wp2
    go_ret
    exact ⟨retb HV.out.symm, PX.B⟩

end Go.Proofs.YtimakfokgcnklaaGreat.Cd
