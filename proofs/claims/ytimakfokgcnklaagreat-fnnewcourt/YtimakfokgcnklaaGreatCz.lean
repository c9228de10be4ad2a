/-
  Courts: what lies in memory of one; how great one is (laws.szCourt and what it calls).
-/
import Derived.Test.YtimakfokgcnklaaGreatNst
namespace Go.Proofs.YtimakfokgcnklaaGreat.Cd
open Go.ChangeShapes Go.WideShapes Go.ChangeAt Go.RowKit
open Ls (el Row)
open Rm (Room)
open Rd (Flags)
open Sb (S3 es fl sl Row3 SHas)
open Ns
set_option linter.unusedVariables false
set_option linter.unusedSimpArgs false

/-- A court. -/
structure CD where
  n : Int
  f : Int
  p : Int
  a : Int
  l : Int
  m : Int
  zs : List Int
  bs : List Bool
  ps : List PD
  qs : List QD
  now : Int
  ms : List S3
  fs : List S3
abbrev CD.cells (c : CD) (K L P Q M F : Value) : List Value := [.int .i64 c.n, .int .i64 c.f, .int .i64 c.p, .int .i64 c.a, .int .i64 c.l, .int .i64 c.m, K, L, P, Q, .int .i64 c.now, M, F]
abbrev crt (c : CD) (K L P Q M F : Value) : Value := .agg #[.int .i64 c.n, .int .i64 c.f, .int .i64 c.p, .int .i64 c.a, .int .i64 c.l, .int .i64 c.m, K, L, P, Q, .int .i64 c.now, M, F]
abbrev rul (c : CD) : Value := .agg #[.int .i64 c.n, .int .i64 c.f, .int .i64 c.p, .int .i64 c.a, .int .i64 c.l, .int .i64 c.m]
/-- Its lists lie there. -/
structure CD.At (c : CD) (w : World) (aK aL aP aQ aM aF : Option Addr) : Prop where
  K : Row w w.heap.size aK c.zs.length c.zs
  L : Flags w w.heap.size aL c.bs.length c.bs
  P : PeersAt w w.heap.size aP c.ps.length c.ps
  Q : ParcelsAt w w.heap.size aQ c.qs.length c.qs
  M : Row3 w w.heap.size aM c.ms.length c.ms
  F : Row3 w w.heap.size aF c.fs.length c.fs
theorem CD.At.below {c : CD} {w w' : World} {aK aL aP aQ aM aF : Option Addr} (h : c.At w aK aL aP aQ aM aF) (b : Below w.heap.size w w') : c.At w' aK aL aP aQ aM aF :=
  ⟨(h.K.later b (Nat.le_refl _)).more b.size, (h.L.later b (Nat.le_refl _)).more b.size, h.P.below b, h.Q.below b, h.M.below b, h.F.below b⟩
/-- How much it holds. -/
def CD.sz (c : CD) : Nat := c.zs.length + c.bs.length + (c.ps.length + pz c.ps c.ps.length) + (c.qs.length + qz c.qs c.qs.length) + c.ms.length + c.fs.length
/-- Its lists are slices. -/
structure CD.Fit (c : CD) : Prop where
  K : c.zs.length ≤ maxLen
  L : c.bs.length ≤ maxLen
  P : c.ps.length ≤ maxLen
  P2 : ∀ j, j < c.ps.length → (pd c.ps j).2.2.2.length ≤ maxLen
  Q : c.qs.length ≤ maxLen
  Q2 : ∀ j, j < c.qs.length → (qd c.qs j).2.2.length ≤ maxLen
  M : c.ms.length ≤ maxLen
  F : c.fs.length ≤ maxLen
/-- What is left of q. -/
def lf (q : Int) (z : Nat) : Int := if (z : Int) ≤ q then q - z else -1
theorem lf_yes {q : Int} {z : Nat} (h : (z : Int) ≤ q) : lf q z = q - z := if_pos h
theorem lf_no {q : Int} {z : Nat} (h : ¬ (z : Int) ≤ q) : lf q z = -1 := if_neg h

theorem szInts (a : Option Addr) (n cap : Nat) (k : Int) (w : World) (h0 : 0 ≤ k) (h1 : k ≤ 1048576) (hm : n ≤ maxLen) :
    Calls Tryz.prog 55 #[.slice a n cap, .int .i64 k] w fun e w' => e = .returned (.int .i64 (lf k n)) ∧ w' = w := by
  unfold maxLen at hm
  by_cases h : (n : Int) ≤ k
  · rw [lf_yes h]
    have h2 : decide (k - (n : Int) < 0) = false := by simp; omega
    go_enter Tryz.func55, Tryz.ntmps55
    go_wp2
    go_ret
    exact ⟨rfl, rfl⟩
  · rw [lf_no h]
    have h2 : decide (k - (n : Int) < 0) = true := by simp; omega
    go_enter Tryz.func55, Tryz.ntmps55
    go_wp2
    go_ret
    exact ⟨rfl, rfl⟩
theorem szBools (a : Option Addr) (n cap : Nat) (k : Int) (w : World) (h0 : 0 ≤ k) (h1 : k ≤ 1048576) (hm : n ≤ maxLen) :
    Calls Tryz.prog 56 #[.slice a n cap, .int .i64 k] w fun e w' => e = .returned (.int .i64 (lf k n)) ∧ w' = w := by
  unfold maxLen at hm
  by_cases h : (n : Int) ≤ k
  · rw [lf_yes h]
    have h2 : decide (k - (n : Int) < 0) = false := by simp; omega
    go_enter Tryz.func56, Tryz.ntmps56
    go_wp2
    go_ret
    exact ⟨rfl, rfl⟩
  · rw [lf_no h]
    have h2 : decide (k - (n : Int) < 0) = true := by simp; omega
    go_enter Tryz.func56, Tryz.ntmps56
    go_wp2
    go_ret
    exact ⟨rfl, rfl⟩
theorem szSeals (a : Option Addr) (n cap : Nat) (k : Int) (w : World) (h0 : 0 ≤ k) (h1 : k ≤ 1048576) (hm : n ≤ maxLen) :
    Calls Tryz.prog 59 #[.slice a n cap, .int .i64 k] w fun e w' => e = .returned (.int .i64 (lf k n)) ∧ w' = w := by
  unfold maxLen at hm
  by_cases h : (n : Int) ≤ k
  · rw [lf_yes h]
    have h2 : decide (k - (n : Int) < 0) = false := by simp; omega
    go_enter Tryz.func59, Tryz.ntmps59
    go_wp2
    go_ret
    exact ⟨rfl, rfl⟩
  · rw [lf_no h]
    have h2 : decide (k - (n : Int) < 0) = true := by simp; omega
    go_enter Tryz.func59, Tryz.ntmps59
    go_wp2
    go_ret
    exact ⟨rfl, rfl⟩
theorem szFacts (a : Option Addr) (n cap : Nat) (k : Int) (w : World) (h0 : 0 ≤ k) (h1 : k ≤ 1048576) (hm : n ≤ maxLen) :
    Calls Tryz.prog 60 #[.slice a n cap, .int .i64 k] w fun e w' => e = .returned (.int .i64 (lf k n)) ∧ w' = w := by
  unfold maxLen at hm
  by_cases h : (n : Int) ≤ k
  · rw [lf_yes h]
    have h2 : decide (k - (n : Int) < 0) = false := by simp; omega
    go_enter Tryz.func60, Tryz.ntmps60
    go_wp2
    go_ret
    exact ⟨rfl, rfl⟩
  · rw [lf_no h]
    have h2 : decide (k - (n : Int) < 0) = true := by simp; omega
    go_enter Tryz.func60, Tryz.ntmps60
    go_wp2
    go_ret
    exact ⟨rfl, rfl⟩
set_option maxHeartbeats 1000000 in
theorem szPeer (x y : Int) (z : Bool) (a : Option Addr) (n cap : Nat) (q : Int) (w : World) (h0 : 0 ≤ q) (h1 : q ≤ 1048576) (hm : n ≤ maxLen) :
    Calls Tryz.prog 103 #[.agg #[.int .i64 x, .int .i64 y, .bool z, .slice a n cap], .int .i64 q] w fun e w' => e = .returned (.int .i64 (lf q n)) ∧ Below w.heap.size w w' := by
  have B1 := (Below.refl w.heap.size w).alloc (Nat.le_refl _) (.cells #[.int .i64 x, .int .i64 y, .bool z, .slice a n cap] 133)
  by_cases h : (n : Int) ≤ q
  · have HV : Hid (lf q n = q - n) := lf_yes h
    have h2 : decide (q - (n : Int) < 0) = false := by simp; omega
    go_enter Tryz.func103, Tryz.ntmps103
    go_wp2_with fail
    refine (szSeals a n cap q _ h0 h1 hm).mono ?_
    rintro e w1 ⟨rfl, rfl⟩
    rw [HV.out]
    go_wp2
    go_ret
    exact ⟨by rw [HV.out]; rfl, B1⟩
  · have HV : Hid (lf q n = -1) := lf_no h
    clear h
    go_enter Tryz.func103, Tryz.ntmps103
    go_wp2_with fail
    refine (szSeals a n cap q _ h0 h1 hm).mono ?_
    rintro e w1 ⟨rfl, rfl⟩
    rw [HV.out]
    go_wp2
    go_ret
    exact ⟨by rw [HV.out]; rfl, B1⟩

set_option maxHeartbeats 4000000 in
theorem szPeerS (a : Option Addr) (n cap : Nat) (ps : List PD) (q : Int) (w : World) (hT : PeersAt w w.heap.size a n ps) (h0 : 0 ≤ q) (h1 : q ≤ 1048576) (hm : n ≤ maxLen) (hF : ∀ j, j < n → (pd ps j).2.2.2.length ≤ maxLen) :
    Calls Tryz.prog 57 #[.slice a n cap, .int .i64 q] w fun e w' => e = .returned (.int .i64 (lf q (n + pz ps n))) ∧ Below w.heap.size w w' := by
  have HF : Hid (∀ j, j < n → (pd ps j).2.2.2.length ≤ maxLen) := hF
  unfold maxLen at hm
  clear hF
  by_cases hq : (n : Int) ≤ q
  · have h2 : decide (q - (n : Int) < 0) = false := by simp; omega
    go_enter Tryz.func57, Tryz.ntmps57
    go_wp2_with fail
    go_loopw [1, 5] (fun v i wr => ∃ k : Nat, k ≤ n ∧ i = .int .i64 k ∧ v = .int .i64 (q - n - pz ps k) ∧ 0 ≤ q - n - pz ps k ∧ Below w.heap.size w wr) (fun _ i _ => n - (intOf i).toNat)
    case atStart => exact ⟨0, Nat.zero_le _, rfl, by simp [pz], by simp [pz]; omega, Below.refl _ _⟩
    case round =>
      obtain ⟨k, hk, rfl, rfl, hp, BB⟩ := hrel
      by_cases hlt : k < n
      · have hi : (k : Int) < n := by omega
        have TR := hT.below BB
        obtain ⟨zT, hz | ⟨gT, oT, rfl, hgT, hcT⟩⟩ := id TR
        · omega
        obtain ⟨aS, cS, ⟨e0, e1, e2, e3⟩, hA⟩ := hcT k hlt
        have hsz := pz_le ps (show k + 1 ≤ n from hlt)
        have hs2 : pz ps (k + 1) = pz ps k + (pd ps k).2.2.2.length := rfl
        by_cases hx : ((pd ps k).2.2.2.length : Int) ≤ q - n - pz ps k
        · have h3 : decide (q - (n : Int) - pz ps k - (pd ps k).2.2.2.length < 0) = false := by simp; omega
          have HV : Hid (lf (q - n - pz ps k) (pd ps k).2.2.2.length = q - n - pz ps k - (pd ps k).2.2.2.length) := lf_yes hx
          go_wp2_with fail
          clear e0 e1 e2 e3
          refine (szPeer _ _ _ aS _ cS _ _ hp (by omega) (HF.out k hlt)).mono ?_
          rintro e w2 ⟨rfl, b2⟩
          rw [HV.out]
          replace BB := BB.trans (b2.mono BB.size)
          clear b2 hA TR hcT
          go_wp2_with fail
          go_roundw
          case rel => exact ⟨k + 1, by omega, by go_num, by rw [show (q - (n : Int) - pz ps k - (pd ps k).2.2.2.length) = q - n - pz ps (k + 1) by omega], by omega, BB⟩
          case measure => simp [intOf]; omega
        · have HV : Hid (lf (q - n - pz ps k) (pd ps k).2.2.2.length = -1) := lf_no hx
          have HE : Hid (lf q (n + pz ps n) = -1) := lf_no (by omega)
          clear hx
          go_wp2_with fail
          clear e0 e1 e2 e3
          refine (szPeer _ _ _ aS _ cS _ _ hp (by omega) (HF.out k hlt)).mono ?_
          rintro e w2 ⟨rfl, b2⟩
          rw [HV.out]
          replace BB := BB.trans (b2.mono BB.size)
          clear b2 hA TR hcT
          go_wp2
          go_ret
          exact ⟨by rw [HE.out]; rfl, BB⟩
      · have hi : ¬ (k : Int) < n := by omega
        have e : k = n := by omega
        subst e
        have HE : Hid (lf q (k + pz ps k) = q - k - pz ps k) := by show lf q (k + pz ps k) = _; rw [lf_yes (by omega)]; omega
        go_wp2
        go_ret
        exact ⟨by rw [HE.out]; rfl, BB⟩
  · have HE : Hid (lf q (n + pz ps n) = -1) := lf_no (by omega)
    have h3 : decide (q - (n : Int) < 0) = true := by simp; omega
    go_enter Tryz.func57, Tryz.ntmps57
    go_wp2
    go_ret
    exact ⟨by rw [HE.out]; rfl, Below.refl _ _⟩

set_option maxHeartbeats 1000000 in
theorem szParcel (x y : Int) (a : Option Addr) (n cap : Nat) (q : Int) (w : World) (h0 : 0 ≤ q) (h1 : q ≤ 1048576) (hm : n ≤ maxLen) :
    Calls Tryz.prog 104 #[.agg #[.int .i64 x, .int .i64 y, .slice a n cap], .int .i64 q] w fun e w' => e = .returned (.int .i64 (lf q n)) ∧ Below w.heap.size w w' := by
  have B1 := (Below.refl w.heap.size w).alloc (Nat.le_refl _) (.cells #[.int .i64 x, .int .i64 y, .slice a n cap] 136)
  by_cases h : (n : Int) ≤ q
  · have HV : Hid (lf q n = q - n) := lf_yes h
    have h2 : decide (q - (n : Int) < 0) = false := by simp; omega
    go_enter Tryz.func104, Tryz.ntmps104
    go_wp2_with fail
    refine (szSeals a n cap q _ h0 h1 hm).mono ?_
    rintro e w1 ⟨rfl, rfl⟩
    rw [HV.out]
    go_wp2
    go_ret
    exact ⟨by rw [HV.out]; rfl, B1⟩
  · have HV : Hid (lf q n = -1) := lf_no h
    clear h
    go_enter Tryz.func104, Tryz.ntmps104
    go_wp2_with fail
    refine (szSeals a n cap q _ h0 h1 hm).mono ?_
    rintro e w1 ⟨rfl, rfl⟩
    rw [HV.out]
    go_wp2
    go_ret
    exact ⟨by rw [HV.out]; rfl, B1⟩

set_option maxHeartbeats 4000000 in
theorem szParcelS (a : Option Addr) (n cap : Nat) (ps : List QD) (q : Int) (w : World) (hT : ParcelsAt w w.heap.size a n ps) (h0 : 0 ≤ q) (h1 : q ≤ 1048576) (hm : n ≤ maxLen) (hF : ∀ j, j < n → (qd ps j).2.2.length ≤ maxLen) :
    Calls Tryz.prog 58 #[.slice a n cap, .int .i64 q] w fun e w' => e = .returned (.int .i64 (lf q (n + qz ps n))) ∧ Below w.heap.size w w' := by
  have HF : Hid (∀ j, j < n → (qd ps j).2.2.length ≤ maxLen) := hF
  unfold maxLen at hm
  clear hF
  by_cases hq : (n : Int) ≤ q
  · have h2 : decide (q - (n : Int) < 0) = false := by simp; omega
    go_enter Tryz.func58, Tryz.ntmps58
    go_wp2_with fail
    go_loopw [1, 5] (fun v i wr => ∃ k : Nat, k ≤ n ∧ i = .int .i64 k ∧ v = .int .i64 (q - n - qz ps k) ∧ 0 ≤ q - n - qz ps k ∧ Below w.heap.size w wr) (fun _ i _ => n - (intOf i).toNat)
    case atStart => exact ⟨0, Nat.zero_le _, rfl, by simp [qz], by simp [qz]; omega, Below.refl _ _⟩
    case round =>
      obtain ⟨k, hk, rfl, rfl, hp, BB⟩ := hrel
      by_cases hlt : k < n
      · have hi : (k : Int) < n := by omega
        have TR := hT.below BB
        obtain ⟨zT, hz | ⟨gT, oT, rfl, hgT, hcT⟩⟩ := id TR
        · omega
        obtain ⟨aS, cS, ⟨e0, e1, e2⟩, hA⟩ := hcT k hlt
        have hsz := qz_le ps (show k + 1 ≤ n from hlt)
        have hs2 : qz ps (k + 1) = qz ps k + (qd ps k).2.2.length := rfl
        by_cases hx : ((qd ps k).2.2.length : Int) ≤ q - n - qz ps k
        · have h3 : decide (q - (n : Int) - qz ps k - (qd ps k).2.2.length < 0) = false := by simp; omega
          have HV : Hid (lf (q - n - qz ps k) (qd ps k).2.2.length = q - n - qz ps k - (qd ps k).2.2.length) := lf_yes hx
          go_wp2_with fail
          clear e0 e1 e2
          refine (szParcel _ _ aS _ cS _ _ hp (by omega) (HF.out k hlt)).mono ?_
          rintro e w2 ⟨rfl, b2⟩
          rw [HV.out]
          replace BB := BB.trans (b2.mono BB.size)
          clear b2 hA TR hcT
          go_wp2_with fail
          go_roundw
          case rel => exact ⟨k + 1, by omega, by go_num, by rw [show (q - (n : Int) - qz ps k - (qd ps k).2.2.length) = q - n - qz ps (k + 1) by omega], by omega, BB⟩
          case measure => simp [intOf]; omega
        · have HV : Hid (lf (q - n - qz ps k) (qd ps k).2.2.length = -1) := lf_no hx
          have HE : Hid (lf q (n + qz ps n) = -1) := lf_no (by omega)
          clear hx
          go_wp2_with fail
          clear e0 e1 e2
          refine (szParcel _ _ aS _ cS _ _ hp (by omega) (HF.out k hlt)).mono ?_
          rintro e w2 ⟨rfl, b2⟩
          rw [HV.out]
          replace BB := BB.trans (b2.mono BB.size)
          clear b2 hA TR hcT
          go_wp2
          go_ret
          exact ⟨by rw [HE.out]; rfl, BB⟩
      · have hi : ¬ (k : Int) < n := by omega
        have e : k = n := by omega
        subst e
        have HE : Hid (lf q (k + qz ps k) = q - k - qz ps k) := by show lf q (k + qz ps k) = _; rw [lf_yes (by omega)]; omega
        go_wp2
        go_ret
        exact ⟨by rw [HE.out]; rfl, BB⟩
  · have HE : Hid (lf q (n + qz ps n) = -1) := lf_no (by omega)
    have h3 : decide (q - (n : Int) < 0) = true := by simp; omega
    go_enter Tryz.func58, Tryz.ntmps58
    go_wp2
    go_ret
    exact ⟨by rw [HE.out]; rfl, Below.refl _ _⟩

set_option maxHeartbeats 8000000 in
theorem szCourt (c : CD) (aK aL aP aQ aM aF : Option Addr) (cK cL cP cQ cM cF : Nat) (w : World) (hA : c.At w aK aL aP aQ aM aF) (hF : c.Fit) :
    Calls Tryz.prog 18 #[crt c (.slice aK c.zs.length cK) (.slice aL c.bs.length cL) (.slice aP c.ps.length cP) (.slice aQ c.qs.length cQ) (.slice aM c.ms.length cM) (.slice aF c.fs.length cF), .int .i64 1048576] w fun e w' => e = .returned (.int .i64 (lf 1048576 c.sz)) ∧ Below w.heap.size w w' := by
  have BB : Below w.heap.size w (w.alloc (.cells #[.int .i64 c.n, .int .i64 c.f, .int .i64 c.p, .int .i64 c.a, .int .i64 c.l, .int .i64 c.m, .slice aK c.zs.length cK, .slice aL c.bs.length cL, .slice aP c.ps.length cP, .slice aQ c.qs.length cQ, .int .i64 c.now, .slice aM c.ms.length cM, .slice aF c.fs.length cF] 52)) := (Below.refl w.heap.size w).alloc (Nat.le_refl _) _
  have RX := Room.new w [.int .i64 c.n, .int .i64 c.f, .int .i64 c.p, .int .i64 c.a, .int .i64 c.l, .int .i64 c.m, .slice aK c.zs.length cK, .slice aL c.bs.length cL, .slice aP c.ps.length cP, .slice aQ c.qs.length cQ, .int .i64 c.now, .slice aM c.ms.length cM, .slice aF c.fs.length cF] 52
  go_enter Tryz.func18, Tryz.ntmps18
  by_cases h0 : ((c.zs.length : Nat) : Int) ≤ (1048576 : Int)
  · have h0v : Hid (lf ((1048576 : Int)) c.zs.length = (1048576 : Int) - (c.zs.length : Nat)) := lf_yes h0
    have d0 : decide ((1048576 : Int) - (c.zs.length : Nat) < 0) = false := by simp; omega
    have x0 := RX.cell 6 rfl
    go_wp2_with fail
    clear x0
    refine (szInts aK _ cK ((1048576 : Int)) _ (by omega) (by omega) hF.K).mono ?_
    rintro e w0 ⟨rfl, rfl⟩
    rw [h0v.out]
    by_cases h1 : ((c.bs.length : Nat) : Int) ≤ (1048576 : Int) - (c.zs.length : Nat)
    · have h1v : Hid (lf ((1048576 : Int) - (c.zs.length : Nat)) c.bs.length = (1048576 : Int) - (c.zs.length : Nat) - (c.bs.length : Nat)) := lf_yes h1
      have d1 : decide ((1048576 : Int) - (c.zs.length : Nat) - (c.bs.length : Nat) < 0) = false := by simp; omega
      have x1 := RX.cell 7 rfl
      go_wp2_with fail
      clear x1
      refine (szBools aL _ cL ((1048576 : Int) - (c.zs.length : Nat)) _ (by omega) (by omega) hF.L).mono ?_
      rintro e w1 ⟨rfl, rfl⟩
      rw [h1v.out]
      by_cases h2 : (((c.ps.length + pz c.ps c.ps.length) : Nat) : Int) ≤ (1048576 : Int) - (c.zs.length : Nat) - (c.bs.length : Nat)
      · have h2v : Hid (lf ((1048576 : Int) - (c.zs.length : Nat) - (c.bs.length : Nat)) (c.ps.length + pz c.ps c.ps.length) = (1048576 : Int) - (c.zs.length : Nat) - (c.bs.length : Nat) - ((c.ps.length + pz c.ps c.ps.length) : Nat)) := lf_yes h2
        have d2 : decide ((1048576 : Int) - (c.zs.length : Nat) - (c.bs.length : Nat) - ((c.ps.length + pz c.ps c.ps.length) : Nat) < 0) = false := by simp; omega
        have x2 := RX.cell 8 rfl
        go_wp2_with fail
        clear x2
        refine (szPeerS aP _ cP c.ps ((1048576 : Int) - (c.zs.length : Nat) - (c.bs.length : Nat)) _ (hA.below BB).P (by omega) (by omega) hF.P hF.P2).mono ?_
        rintro e w2 ⟨rfl, b2⟩
        replace BB := BB.trans (b2.mono BB.size)
        replace RX := RX.below b2
        clear b2
        rw [h2v.out]
        by_cases h3 : (((c.qs.length + qz c.qs c.qs.length) : Nat) : Int) ≤ (1048576 : Int) - (c.zs.length : Nat) - (c.bs.length : Nat) - ((c.ps.length + pz c.ps c.ps.length) : Nat)
        · have h3v : Hid (lf ((1048576 : Int) - (c.zs.length : Nat) - (c.bs.length : Nat) - ((c.ps.length + pz c.ps c.ps.length) : Nat)) (c.qs.length + qz c.qs c.qs.length) = (1048576 : Int) - (c.zs.length : Nat) - (c.bs.length : Nat) - ((c.ps.length + pz c.ps c.ps.length) : Nat) - ((c.qs.length + qz c.qs c.qs.length) : Nat)) := lf_yes h3
          have d3 : decide ((1048576 : Int) - (c.zs.length : Nat) - (c.bs.length : Nat) - ((c.ps.length + pz c.ps c.ps.length) : Nat) - ((c.qs.length + qz c.qs c.qs.length) : Nat) < 0) = false := by simp; omega
          have x3 := RX.cell 9 rfl
          go_wp2_with fail
          clear x3
          refine (szParcelS aQ _ cQ c.qs ((1048576 : Int) - (c.zs.length : Nat) - (c.bs.length : Nat) - ((c.ps.length + pz c.ps c.ps.length) : Nat)) _ (hA.below BB).Q (by omega) (by omega) hF.Q hF.Q2).mono ?_
          rintro e w3 ⟨rfl, b3⟩
          replace BB := BB.trans (b3.mono BB.size)
          replace RX := RX.below b3
          clear b3
          rw [h3v.out]
          by_cases h4 : ((c.ms.length : Nat) : Int) ≤ (1048576 : Int) - (c.zs.length : Nat) - (c.bs.length : Nat) - ((c.ps.length + pz c.ps c.ps.length) : Nat) - ((c.qs.length + qz c.qs c.qs.length) : Nat)
          · have h4v : Hid (lf ((1048576 : Int) - (c.zs.length : Nat) - (c.bs.length : Nat) - ((c.ps.length + pz c.ps c.ps.length) : Nat) - ((c.qs.length + qz c.qs c.qs.length) : Nat)) c.ms.length = (1048576 : Int) - (c.zs.length : Nat) - (c.bs.length : Nat) - ((c.ps.length + pz c.ps c.ps.length) : Nat) - ((c.qs.length + qz c.qs c.qs.length) : Nat) - (c.ms.length : Nat)) := lf_yes h4
            have d4 : decide ((1048576 : Int) - (c.zs.length : Nat) - (c.bs.length : Nat) - ((c.ps.length + pz c.ps c.ps.length) : Nat) - ((c.qs.length + qz c.qs c.qs.length) : Nat) - (c.ms.length : Nat) < 0) = false := by simp; omega
            have x4 := RX.cell 11 rfl
            go_wp2_with fail
            clear x4
            refine (szSeals aM _ cM ((1048576 : Int) - (c.zs.length : Nat) - (c.bs.length : Nat) - ((c.ps.length + pz c.ps c.ps.length) : Nat) - ((c.qs.length + qz c.qs c.qs.length) : Nat)) _ (by omega) (by omega) hF.M).mono ?_
            rintro e w4 ⟨rfl, rfl⟩
            rw [h4v.out]
            by_cases h5 : ((c.fs.length : Nat) : Int) ≤ (1048576 : Int) - (c.zs.length : Nat) - (c.bs.length : Nat) - ((c.ps.length + pz c.ps c.ps.length) : Nat) - ((c.qs.length + qz c.qs c.qs.length) : Nat) - (c.ms.length : Nat)
            · have h5v : Hid (lf ((1048576 : Int) - (c.zs.length : Nat) - (c.bs.length : Nat) - ((c.ps.length + pz c.ps c.ps.length) : Nat) - ((c.qs.length + qz c.qs c.qs.length) : Nat) - (c.ms.length : Nat)) c.fs.length = (1048576 : Int) - (c.zs.length : Nat) - (c.bs.length : Nat) - ((c.ps.length + pz c.ps c.ps.length) : Nat) - ((c.qs.length + qz c.qs c.qs.length) : Nat) - (c.ms.length : Nat) - (c.fs.length : Nat)) := lf_yes h5
              have d5 : decide ((1048576 : Int) - (c.zs.length : Nat) - (c.bs.length : Nat) - ((c.ps.length + pz c.ps c.ps.length) : Nat) - ((c.qs.length + qz c.qs c.qs.length) : Nat) - (c.ms.length : Nat) - (c.fs.length : Nat) < 0) = false := by simp; omega
              have HE : Hid (lf 1048576 c.sz = (1048576 : Int) - (c.zs.length : Nat) - (c.bs.length : Nat) - ((c.ps.length + pz c.ps c.ps.length) : Nat) - ((c.qs.length + qz c.qs c.qs.length) : Nat) - (c.ms.length : Nat) - (c.fs.length : Nat)) := by show lf 1048576 c.sz = _; rw [lf_yes (by unfold CD.sz; omega)]; unfold CD.sz; omega
              have x5 := RX.cell 12 rfl
              go_wp2_with fail
              clear x5
              refine (szFacts aF _ cF ((1048576 : Int) - (c.zs.length : Nat) - (c.bs.length : Nat) - ((c.ps.length + pz c.ps c.ps.length) : Nat) - ((c.qs.length + qz c.qs c.qs.length) : Nat) - (c.ms.length : Nat)) _ (by omega) (by omega) hF.F).mono ?_
              rintro e w5 ⟨rfl, rfl⟩
              rw [h5v.out]
              go_wp2
              go_ret
              exact ⟨by rw [HE.out]; rfl, BB⟩
            · have h5v : Hid (lf ((1048576 : Int) - (c.zs.length : Nat) - (c.bs.length : Nat) - ((c.ps.length + pz c.ps c.ps.length) : Nat) - ((c.qs.length + qz c.qs c.qs.length) : Nat) - (c.ms.length : Nat)) c.fs.length = -1) := lf_no h5
              have HE : Hid (lf 1048576 c.sz = -1) := lf_no (by unfold CD.sz; omega)
              have x5 := RX.cell 12 rfl
              go_wp2_with fail
              clear x5
              refine (szFacts aF _ cF ((1048576 : Int) - (c.zs.length : Nat) - (c.bs.length : Nat) - ((c.ps.length + pz c.ps c.ps.length) : Nat) - ((c.qs.length + qz c.qs c.qs.length) : Nat) - (c.ms.length : Nat)) _ (by omega) (by omega) hF.F).mono ?_
              rintro e w5 ⟨rfl, rfl⟩
              rw [h5v.out]
              go_wp2
              go_ret
              exact ⟨by rw [HE.out]; rfl, BB⟩
          · have h4v : Hid (lf ((1048576 : Int) - (c.zs.length : Nat) - (c.bs.length : Nat) - ((c.ps.length + pz c.ps c.ps.length) : Nat) - ((c.qs.length + qz c.qs c.qs.length) : Nat)) c.ms.length = -1) := lf_no h4
            have HE : Hid (lf 1048576 c.sz = -1) := lf_no (by unfold CD.sz; omega)
            have x4 := RX.cell 11 rfl
            go_wp2_with fail
            clear x4
            refine (szSeals aM _ cM ((1048576 : Int) - (c.zs.length : Nat) - (c.bs.length : Nat) - ((c.ps.length + pz c.ps c.ps.length) : Nat) - ((c.qs.length + qz c.qs c.qs.length) : Nat)) _ (by omega) (by omega) hF.M).mono ?_
            rintro e w4 ⟨rfl, rfl⟩
            rw [h4v.out]
            go_wp2
            go_ret
            exact ⟨by rw [HE.out]; rfl, BB⟩
        · have h3v : Hid (lf ((1048576 : Int) - (c.zs.length : Nat) - (c.bs.length : Nat) - ((c.ps.length + pz c.ps c.ps.length) : Nat)) (c.qs.length + qz c.qs c.qs.length) = -1) := lf_no h3
          have HE : Hid (lf 1048576 c.sz = -1) := lf_no (by unfold CD.sz; omega)
          have x3 := RX.cell 9 rfl
          go_wp2_with fail
          clear x3
          refine (szParcelS aQ _ cQ c.qs ((1048576 : Int) - (c.zs.length : Nat) - (c.bs.length : Nat) - ((c.ps.length + pz c.ps c.ps.length) : Nat)) _ (hA.below BB).Q (by omega) (by omega) hF.Q hF.Q2).mono ?_
          rintro e w3 ⟨rfl, b3⟩
          replace BB := BB.trans (b3.mono BB.size)
          replace RX := RX.below b3
          clear b3
          rw [h3v.out]
          go_wp2
          go_ret
          exact ⟨by rw [HE.out]; rfl, BB⟩
      · have h2v : Hid (lf ((1048576 : Int) - (c.zs.length : Nat) - (c.bs.length : Nat)) (c.ps.length + pz c.ps c.ps.length) = -1) := lf_no h2
        have HE : Hid (lf 1048576 c.sz = -1) := lf_no (by unfold CD.sz; omega)
        have x2 := RX.cell 8 rfl
        go_wp2_with fail
        clear x2
        refine (szPeerS aP _ cP c.ps ((1048576 : Int) - (c.zs.length : Nat) - (c.bs.length : Nat)) _ (hA.below BB).P (by omega) (by omega) hF.P hF.P2).mono ?_
        rintro e w2 ⟨rfl, b2⟩
        replace BB := BB.trans (b2.mono BB.size)
        replace RX := RX.below b2
        clear b2
        rw [h2v.out]
        go_wp2
        go_ret
        exact ⟨by rw [HE.out]; rfl, BB⟩
    · have h1v : Hid (lf ((1048576 : Int) - (c.zs.length : Nat)) c.bs.length = -1) := lf_no h1
      have HE : Hid (lf 1048576 c.sz = -1) := lf_no (by unfold CD.sz; omega)
      have x1 := RX.cell 7 rfl
      go_wp2_with fail
      clear x1
      refine (szBools aL _ cL ((1048576 : Int) - (c.zs.length : Nat)) _ (by omega) (by omega) hF.L).mono ?_
      rintro e w1 ⟨rfl, rfl⟩
      rw [h1v.out]
      go_wp2
      go_ret
      exact ⟨by rw [HE.out]; rfl, BB⟩
  · have h0v : Hid (lf ((1048576 : Int)) c.zs.length = -1) := lf_no h0
    have HE : Hid (lf 1048576 c.sz = -1) := lf_no (by unfold CD.sz; omega)
    have x0 := RX.cell 6 rfl
    go_wp2_with fail
    clear x0
    refine (szInts aK _ cK ((1048576 : Int)) _ (by omega) (by omega) hF.K).mono ?_
    rintro e w0 ⟨rfl, rfl⟩
    rw [h0v.out]
    go_wp2
    go_ret
    exact ⟨by rw [HE.out]; rfl, BB⟩

end Go.Proofs.YtimakfokgcnklaaGreat.Cd
