/-
  Peers and parcels of the laws: copies of them; whether two are alike.
-/
import Derived.Test.YtimakfokgcnklaaGreatCz
import Derived.Deep.RegionHeld3
import Derived.Test.YtimakfokgcnklaaGreatTk
namespace Go.Proofs.YtimakfokgcnklaaGreat.Cd
open Go.ChangeShapes Go.WideShapes Go.ChangeAt Go.RowKit
open Ls (el Row)
open Rm (Room)
open Rd (Flags)
open Sb (S3 es fl sl Row3 SHas)
open Ns
set_option linter.unusedVariables false
set_option linter.unusedSimpArgs false

theorem retp {fn : Func} {ts : Array Value} {W : World} {R i : Nat} (x y : Int) (z : Bool) {a : Option Addr} {n c : Nat} (hf : fn.results = #[.cell i 44]) (h2 : ts[i]? = some (.pointer (some ⟨R, 0, none⟩))) (h : Room W R [.int .i64 x, .int .i64 y, .bool z, .slice a n c]) :
    (results fn ts).run Tryz.prog W = .ok (.agg #[.int .i64 x, .int .i64 y, .bool z, .slice a n c]) W := by
  have q0 := h.cell 0 rfl
  have q1 := h.cell 1 rfl
  have q2 := h.cell 2 rfl
  have q3 := h.cell 3 rfl
  simp [results, hf, h2, go_sem, q0, q1, q2, q3]

set_option maxHeartbeats 4000000 in
theorem toPeer (x y : Int) (z : Bool) (a : Option Addr) (n cap : Nat) (ss : List S3) (w : World) (hr : Row3 w w.heap.size a n ss) (hn : n ≤ 1048576) :
    Calls Tryz.prog 109 #[.agg #[.int .i64 x, .int .i64 y, .bool z, .slice a n cap]] w fun e w' => (∃ g, e = .returned (.agg #[.int .i64 x, .int .i64 y, .bool z, (.slice (some ⟨g, 0, none⟩) n n)]) ∧ SHas w' w.heap.size g 0 n ss) ∧ Below w.heap.size w w' := by
  have RX := (Room.at (w.alloc (.cells #[.int .i64 x, .int .i64 y, .bool z, .slice a n cap] 133)) [.int .i64 0, .int .i64 0, .bool false, .slice none 0 0] 44 (w.heap.size + 1) (by simp)).alloc (.cells #[.int .i64 x, .int .i64 y, .bool z, .slice none 0 0] 44)
  have RY := Room.at ((w.alloc (.cells #[.int .i64 x, .int .i64 y, .bool z, .slice a n cap] 133)).alloc (.cells #[.int .i64 0, .int .i64 0, .bool false, .slice none 0 0] 44)) [.int .i64 x, .int .i64 y, .bool z, .slice none 0 0] 44 (w.heap.size + 1 + 1) (by simp)
  have B : Below w.heap.size w (((w.alloc (.cells #[.int .i64 x, .int .i64 y, .bool z, .slice a n cap] 133)).alloc (.cells #[.int .i64 0, .int .i64 0, .bool false, .slice none 0 0] 44)).alloc (.cells #[.int .i64 x, .int .i64 y, .bool z, .slice none 0 0] 44)) := (((Below.refl w.heap.size w).alloc (Nat.le_refl _) _).alloc (by simp) _).alloc (by simp <;> omega) _
  have hz1 : w.heap.size + 3 ≤ (((w.alloc (.cells #[.int .i64 x, .int .i64 y, .bool z, .slice a n cap] 133)).alloc (.cells #[.int .i64 0, .int .i64 0, .bool false, .slice none 0 0] 44)).alloc (.cells #[.int .i64 x, .int .i64 y, .bool z, .slice none 0 0] 44)).heap.size := by simp
  go_enter Tryz.func109, Tryz.ntmps109
  go_wp2_with fail
  generalize ((w.alloc (.cells #[.int .i64 x, .int .i64 y, .bool z, .slice a n cap] 133)).alloc (.cells #[.int .i64 0, .int .i64 0, .bool false, .slice none 0 0] 44)).alloc (.cells #[.int .i64 x, .int .i64 y, .bool z, .slice none 0 0] 44) = w1 at RX RY B hz1 ⊢
  refine (Sb.toSealS a n cap ss _ (hr.below B) hn).mono ?_
  rintro e w2 ⟨⟨g, rfl, hS⟩, b2⟩
  replace RX := RX.below b2
  replace RY := RY.below b2
  replace B := B.trans (b2.mono B.size)
  have hg := hS.2.1
  clear b2
  have c2 := RY.cell 3 rfl
  have f2 := RY.froz 3 rfl
  have RY2 := RY.set 3 (.slice (some ⟨g, 0, none⟩) n n)
  have RX2 := RX.setOther (q := w.heap.size + 1 + 1) (by omega) 3 (.slice (some ⟨g, 0, none⟩) n n)
  have HS2 : Hid (SHas (w2.setCell ⟨w.heap.size + 1 + 1, 3, none⟩ (.slice (some ⟨g, 0, none⟩) n n)) w1.heap.size g 0 n ss) := hS.setOther (by omega) _ _
  have BB : Below w.heap.size w (w2.setCell ⟨w.heap.size + 1 + 1, 3, none⟩ (.slice (some ⟨g, 0, none⟩) n n)) := B.setCell (by simp; omega) _
  clear RX RY B hS
  have HY : Hid (Room (w2.setCell ⟨w.heap.size + 1 + 1, 3, none⟩ (.slice (some ⟨g, 0, none⟩) n n)) (w.heap.size + 1 + 1) [.int .i64 x, .int .i64 y, .bool z, .slice (some ⟨g, 0, none⟩) n n] ∧ Room (w2.setCell ⟨w.heap.size + 1 + 1, 3, none⟩ (.slice (some ⟨g, 0, none⟩) n n)) (w.heap.size + 1) [.int .i64 0, .int .i64 0, .bool false, .slice none 0 0]) := ⟨RY2, RX2⟩
  have d0 := RX2.cell 0 rfl
  have d1 := RX2.cell 1 rfl
  have d2 := RX2.cell 2 rfl
  have d3 := RX2.cell 3 rfl
  have g0 := RX2.froz 0 rfl
  have g1 := RX2.froz 1 rfl
  have g2 := RX2.froz 2 rfl
  have g3 := RX2.froz 3 rfl
  have e0 := RY2.cell 0 rfl
  have e1 := RY2.cell 1 rfl
  have e2 := RY2.cell 2 rfl
  have e3 := RY2.cell 3 rfl
  clear RX2 RY2
  go_wp2_with fail
  clear d0 g0 e0 d1 g1 e1 d2 g2 e2 d3 g3 e3 c2 f2
  generalize w2.setCell ⟨w.heap.size + 1 + 1, 3, none⟩ (.slice (some ⟨g, 0, none⟩) n n) = w3 at HY HS2 BB ⊢
  have RZ : Room ((((w3.setCell ⟨w.heap.size + 1, 0, none⟩ (.int .i64 x)).setCell ⟨w.heap.size + 1, 1, none⟩ (.int .i64 y)).setCell ⟨w.heap.size + 1, 2, none⟩ (.bool z)).setCell ⟨w.heap.size + 1, 3, none⟩ (.slice (some ⟨g, 0, none⟩) n n)) (w.heap.size + 1) [.int .i64 x, .int .i64 y, .bool z, .slice (some ⟨g, 0, none⟩) n n] := ((((HY.out.2.set 0 _).set 1 _).set 2 _).set 3 _)
  refine bodyPost_ret (v := .agg #[.int .i64 x, .int .i64 y, .bool z, .slice (some ⟨g, 0, none⟩) n n]) (retp x y z Tryz.results109 rfl RZ) rfl ⟨⟨g, rfl, ?_⟩, ?_⟩
  · exact ((((HS2.out.setOther (by omega) _ _).setOther (by omega) _ _).setOther (by omega) _ _).setOther (by omega) _ _).mono (by omega)
  · exact ((((BB.setCell (by simp) _).setCell (by simp) _).setCell (by simp) _).setCell (by simp) _)

theorem infoPeer : (Tryz.prog.info? 44).map (fun i => (i.zero, i.size, i.bytes)) = some (some (.agg #[.int .i64 0, .int .i64 0, .bool false, .slice none 0 0]), 4, 48) := by kernel_rfl
def zcp (n : Nat) : List Value := (madeCells #[.int .i64 0, .int .i64 0, .bool false, .slice none 0 0] (n * 4)).toList
theorem zcp_len (n : Nat) : (zcp n).length = n * 4 := by simp [zcp, size_madeCells]
theorem run_makep (n : Nat) (hn : n ≤ 1048576) (w : World) : (Instr.makeSlice 30 (.int .i64 (n : Int)) (.int .i64 (n : Int))).run Tryz.prog w = .ok (.slice (some ⟨w.heap.size, 0, none⟩) n n) (w.alloc (.cells (zcp n).toArray 44)) := by
  obtain ⟨i, hi, hzz⟩ := Option.map_eq_some_iff.1 infoPeer
  simp only [Prod.mk.injEq] at hzz
  obtain ⟨hz, hs, hb⟩ := hzz
  have h := run_make (P := Tryz.prog) w 30 44 i _ Tryz.underlying30 hi hz .i64 .i64 (n : Int) (n : Int) (by omega) (by omega) (by rw [hb]; omega) (by omega)
  simp only [Int.toNat_natCast, hs] at h
  rw [h]
  rfl

set_option maxHeartbeats 4000000 in
theorem toPeerS (a : Option Addr) (n cap : Nat) (ps : List PD) (w : World) (hT : PeersAt w w.heap.size a n ps) (hn : n + pz ps n ≤ 1048576) :
    Calls Tryz.prog 67 #[.slice a n cap] w fun e w' => e = .returned (.slice (some ⟨w.heap.size, 0, none⟩) n n) ∧ PeerAll w' w'.heap.size w.heap.size n ps ∧ Below w.heap.size w w' := by
  have hmk := run_makep n (by omega)
  have B0 := (Below.refl w.heap.size w).alloc (Nat.le_refl _) (.cells (zcp n).toArray 44)
  have U0 : Hid (∃ vs G, vs.length = n * 4 ∧ PeerUp (w.alloc (.cells (zcp n).toArray 44)) (w.alloc (.cells (zcp n).toArray 44)).heap.size w.heap.size vs ps G 0) :=
    ⟨zcp n, fun _ => 0, zcp_len n, Room.new w _ _, fun j hj => by omega, fun j hj => by omega, fun i j _ hj => by omega, fun j hj => by omega, by simp, Nat.le_refl _⟩
  go_enter Tryz.func67, Tryz.ntmps67
  go_wp2_with fail
  go_loopw [4] (fun i wr => ∃ k : Nat, k ≤ n ∧ i = .int .i64 k ∧ Hid (∃ vs G, vs.length = n * 4 ∧ PeerUp wr wr.heap.size w.heap.size vs ps G k) ∧ Below w.heap.size w wr) (fun i _ => n - (intOf i).toNat)
  case atStart => exact ⟨0, Nat.zero_le _, rfl, U0, B0⟩
  case round =>
    obtain ⟨k, hk, rfl, H, BB⟩ := hrel
    clear B0 U0
    by_cases hlt : k < n
    · have hi : (k : Int) < n := by omega
      obtain ⟨vs, G, hvl, hU⟩ := H.out
      clear H
      have HV : Hid (vs.length = n * 4) := hvl
      clear hvl
      have TR := hT.below BB
      obtain ⟨zT, hz | ⟨gT, oT, rfl, hgT, hcT⟩⟩ := id TR
      · omega
      obtain ⟨aS, cS, ⟨e0, e1, e2, e3⟩, hA⟩ := hcT k hlt
      have hsz := pl_pz ps hlt
      have hz3 : (pd ps k).2.2.2.length ≤ 1048576 := by omega
      clear hsz
      go_wp2_with fail
      clear e0 e1 e2 e3
      refine (toPeer (pd ps k).1 (pd ps k).2.1 (pd ps k).2.2.1 aS _ cS _ _ hA hz3).mono ?_
      rintro e w2 ⟨⟨g2, rfl, hN⟩, b2⟩
      obtain ⟨vs', G', hl', hU'⟩ := hU.next HV.out hlt b2 hN
      have hU2 := hU.later (by rw [HV.out]; omega) b2
      have HN : Hid (∃ vs G, vs.length = n * 4 ∧ PeerUp ((((w2.setCell ⟨w.heap.size, k * 4, none⟩ (.int .i64 (pd ps k).1)).setCell ⟨w.heap.size, k * 4 + 1, none⟩ (.int .i64 (pd ps k).2.1)).setCell ⟨w.heap.size, k * 4 + 2, none⟩ (.bool (pd ps k).2.2.1)).setCell ⟨w.heap.size, k * 4 + 3, none⟩ (Ns.ss g2 (pd ps k).2.2.2.length)) w2.heap.size w.heap.size vs ps G (k + 1)) := ⟨vs', G', hl', hU'⟩
      have BN : Below w.heap.size w ((((w2.setCell ⟨w.heap.size, k * 4, none⟩ (.int .i64 (pd ps k).1)).setCell ⟨w.heap.size, k * 4 + 1, none⟩ (.int .i64 (pd ps k).2.1)).setCell ⟨w.heap.size, k * 4 + 2, none⟩ (.bool (pd ps k).2.2.1)).setCell ⟨w.heap.size, k * 4 + 3, none⟩ (Ns.ss g2 (pd ps k).2.2.2.length)) := (((((BB.trans (b2.mono BB.size)).setCell (p := ⟨w.heap.size, k * 4, none⟩) (Nat.le_refl _) (.int .i64 (pd ps k).1)).setCell (p := ⟨w.heap.size, k * 4 + 1, none⟩) (Nat.le_refl _) (.int .i64 (pd ps k).2.1)).setCell (p := ⟨w.heap.size, k * 4 + 2, none⟩) (Nat.le_refl _) (.bool (pd ps k).2.2.1)).setCell (p := ⟨w.heap.size, k * 4 + 3, none⟩) (Nat.le_refl _) (Ns.ss g2 (pd ps k).2.2.2.length))
      obtain ⟨v0, hv0⟩ : ∃ v, vs[k * 4]? = some v := ⟨_, List.getElem?_eq_getElem (by rw [HV.out]; omega)⟩
      obtain ⟨v1, hv1⟩ : ∃ v, vs[k * 4 + 1]? = some v := ⟨_, List.getElem?_eq_getElem (by rw [HV.out]; omega)⟩
      obtain ⟨v2, hv2⟩ : ∃ v, vs[k * 4 + 2]? = some v := ⟨_, List.getElem?_eq_getElem (by rw [HV.out]; omega)⟩
      obtain ⟨v3, hv3⟩ : ∃ v, vs[k * 4 + 3]? = some v := ⟨_, List.getElem?_eq_getElem (by rw [HV.out]; omega)⟩
      have x0 := hU2.R.cell _ hv0
      have x1 := hU2.R.cell _ hv1
      have x2 := hU2.R.cell _ hv2
      have x3 := hU2.R.cell _ hv3
      have y0 := hU2.R.froz _ hv0
      have y1 := hU2.R.froz _ hv1
      have y2 := hU2.R.froz _ hv2
      have y3 := hU2.R.froz _ hv3
      clear hU hU' hU2 hN b2 TR hcT hl' hv0 hv1 hv2 hv3 hA BB
      go_wp2_with fail
      go_roundw
      case rel => exact ⟨k + 1, by omega, by go_num, by simpa only [World.size_setCell] using HN, BN⟩
      case measure => simp [intOf]; omega
    · have hi : ¬ (k : Int) < n := by omega
      have e : k = n := by omega
      subst e
      go_wp2
      go_ret
      exact ⟨rfl, H.out, BB⟩

set_option maxHeartbeats 4000000 in
theorem eqPeer (x y : Int) (z : Bool) (a b : Option Addr) (n cap cap' : Nat) (ss : List S3) (w : World) (hr : Row3 w w.heap.size a n ss) (hs : Row3 w w.heap.size b n ss) (hn : n ≤ 1048576) :
    Calls Tryz.prog 113 #[.agg #[.int .i64 x, .int .i64 y, .bool z, .slice a n cap], .agg #[.int .i64 x, .int .i64 y, .bool z, .slice b n cap']] w fun e w' => e = .returned (.bool true) ∧ Below w.heap.size w w' := by
  have B := ((Below.refl w.heap.size w).alloc (Nat.le_refl _) (.cells #[.int .i64 x, .int .i64 y, .bool z, .slice a n cap] 44)).alloc (by simp) (.cells #[.int .i64 x, .int .i64 y, .bool z, .slice b n cap'] 44)
  go_enter Tryz.func113, Tryz.ntmps113
  go_wp2_with fail
  refine (Sb.eqSealS a b n cap cap' ss _ (hr.below B) (hs.below B) hn).mono ?_
  rintro e w2 ⟨rfl, b2⟩
  go_wp2
  go_ret
  exact ⟨rfl, B.trans (b2.mono B.size)⟩

set_option maxHeartbeats 8000000 in
theorem eqPeerS (a b : Option Addr) (n cap cap' : Nat) (ps : List PD) (w : World) (hr : PeersAt w w.heap.size a n ps) (hs : PeersAt w w.heap.size b n ps) (hn : n + pz ps n ≤ 1048576) :
    Calls Tryz.prog 72 #[.slice a n cap, .slice b n cap'] w fun e w' => e = .returned (.bool true) ∧ Below w.heap.size w w' := by
  go_enter Tryz.func72, Tryz.ntmps72
  go_wp2
  go_loopw [5] (fun i wr => ∃ k : Nat, k ≤ n ∧ i = .int .i64 k ∧ Below w.heap.size w wr) (fun i _ => n - (intOf i).toNat)
  case atStart => exact ⟨0, Nat.zero_le _, rfl, Below.refl _ _⟩
  case round =>
    obtain ⟨k, hk, rfl, BB⟩ := hrel
    by_cases hlt : k < n
    · have hi : (k : Int) < n := by omega
      obtain ⟨_, hx | ⟨b1, o1, rfl, hb1, hc1⟩⟩ := hr
      · omega
      obtain ⟨_, hy | ⟨b2, o2, rfl, hb2, hc2⟩⟩ := hs
      · omega
      obtain ⟨aA, cA, hA1, hA⟩ := hc1 k hlt
      obtain ⟨aB, cB, hB1, hB⟩ := hc2 k hlt
      have hsz := pl_pz ps hlt
      have hz3 : (pd ps k).2.2.2.length ≤ 1048576 := by omega
      clear hsz hc1 hc2
      have HC1 : Hid (∀ w', Below w.heap.size w w' → w'.cell? ⟨b1, o1 + k * 4, none⟩ = some (.int .i64 (pd ps k).1) ∧ w'.cell? ⟨b1, o1 + k * 4 + 1, none⟩ = some (.int .i64 (pd ps k).2.1) ∧ w'.cell? ⟨b1, o1 + k * 4 + 2, none⟩ = some (.bool (pd ps k).2.2.1) ∧ w'.cell? ⟨b1, o1 + k * 4 + 3, none⟩ = some (.slice aA (pd ps k).2.2.2.length cA)) := fun w' B => by
        have q : ∀ o, w'.cell? ⟨b1, o, none⟩ = w.cell? ⟨b1, o, none⟩ := fun o => B.cell (p := ⟨b1, o, none⟩) hb1
        simp only [q]
        exact hA1
      have HC2 : Hid (∀ w', Below w.heap.size w w' → w'.cell? ⟨b2, o2 + k * 4, none⟩ = some (.int .i64 (pd ps k).1) ∧ w'.cell? ⟨b2, o2 + k * 4 + 1, none⟩ = some (.int .i64 (pd ps k).2.1) ∧ w'.cell? ⟨b2, o2 + k * 4 + 2, none⟩ = some (.bool (pd ps k).2.2.1) ∧ w'.cell? ⟨b2, o2 + k * 4 + 3, none⟩ = some (.slice aB (pd ps k).2.2.2.length cB)) := fun w' B => by
        have q : ∀ o, w'.cell? ⟨b2, o, none⟩ = w.cell? ⟨b2, o, none⟩ := fun o => B.cell (p := ⟨b2, o, none⟩) hb2
        simp only [q]
        exact hB1
      clear hA1 hB1
      replace BB := BB.drew
      go_wp2_with fail
      refine wp_region_noPanic ?_
      refine wp_region_held_drew (S := (fun w' => (w'.cell? ⟨b1, o1 + k * 4, none⟩ = some (.int .i64 (pd ps k).1) ∧ w'.cell? ⟨b1, o1 + k * 4 + 1, none⟩ = some (.int .i64 (pd ps k).2.1) ∧ w'.cell? ⟨b1, o1 + k * 4 + 2, none⟩ = some (.bool (pd ps k).2.2.1) ∧ w'.cell? ⟨b1, o1 + k * 4 + 3, none⟩ = some (.slice aA (pd ps k).2.2.2.length cA)) ∧ (w'.cell? ⟨b2, o2 + k * 4, none⟩ = some (.int .i64 (pd ps k).1) ∧ w'.cell? ⟨b2, o2 + k * 4 + 1, none⟩ = some (.int .i64 (pd ps k).2.1) ∧ w'.cell? ⟨b2, o2 + k * 4 + 2, none⟩ = some (.bool (pd ps k).2.2.1) ∧ w'.cell? ⟨b2, o2 + k * 4 + 3, none⟩ = some (.slice aB (pd ps k).2.2.2.length cB)) ∧ Hid (Below w.heap.size w w'))) (by kernel_rfl) ⟨HC1.out _ BB, HC2.out _ BB, BB⟩ (fun hHeld => ?_)
      refine Tk.W 0 (some 17) (.move (.tmp 0)) 30 none ?_
      refine Tk.W 1 (some 18) (.move (.tmp 5)) 3 none ?_
      refine Tk.W 2 (some 19) (.indexAddr 30 (.tmp 17) (.tmp 18)) 0 none ?_
      refine Tk.W 3 (some 20) (.load 44 (.tmp 19)) 44 none ?_
      refine Tk.W 4 (some 21) (.move (.tmp 1)) 30 none ?_
      refine Tk.W 5 (some 22) (.move (.tmp 5)) 3 none ?_
      refine Tk.W 6 (some 23) (.indexAddr 30 (.tmp 21) (.tmp 22)) 0 none ?_
      refine Tk.W 7 (some 24) (.load 44 (.tmp 23)) 44 none ?_
      refine Tk.R 8 (some 25) (.call ⟨.value (.func 113), #[.tmp 20, .tmp 24], #[44, 44]⟩) 4 none (fun K hK => ?_)
      go_simp
      refine (eqPeer _ _ _ aA aB _ cA cB _ _ (hA.below hHeld.2.2.out) (hB.below hHeld.2.2.out) hz3).mono ?_
      rintro e w2 ⟨rfl, bq⟩
      have BB2 := hHeld.2.2.out.trans (bq.mono hHeld.2.2.out.size)
      have kq : (fun w' => (w'.cell? ⟨b1, o1 + k * 4, none⟩ = some (.int .i64 (pd ps k).1) ∧ w'.cell? ⟨b1, o1 + k * 4 + 1, none⟩ = some (.int .i64 (pd ps k).2.1) ∧ w'.cell? ⟨b1, o1 + k * 4 + 2, none⟩ = some (.bool (pd ps k).2.2.1) ∧ w'.cell? ⟨b1, o1 + k * 4 + 3, none⟩ = some (.slice aA (pd ps k).2.2.2.length cA)) ∧ (w'.cell? ⟨b2, o2 + k * 4, none⟩ = some (.int .i64 (pd ps k).1) ∧ w'.cell? ⟨b2, o2 + k * 4 + 1, none⟩ = some (.int .i64 (pd ps k).2.1) ∧ w'.cell? ⟨b2, o2 + k * 4 + 2, none⟩ = some (.bool (pd ps k).2.2.1) ∧ w'.cell? ⟨b2, o2 + k * 4 + 3, none⟩ = some (.slice aB (pd ps k).2.2.2.length cB)) ∧ Hid (Below w.heap.size w w')) w2 := ⟨HC1.out _ BB2, HC2.out _ BB2, BB2⟩
      try dsimp only
      refine hK.out _ _ kq ?_; clear hK K hHeld; intro hHeld; try simp only [Act.put, List.setIfInBounds_toArray, List.set_cons_zero, List.set_cons_succ]
      refine Tk.W 9 (some 26) (.unOp .not 4 (.tmp 25)) 4 none ?_
      refine wpAnyH_done (by kernel_rfl) ?_ _
      refine NoPanic.normal ?_
      have BB3 := hHeld.2.2.out
      clear hHeld
      go_wp2
      go_roundw
      case rel => exact ⟨k + 1, by omega, by go_num, BB3⟩
      case measure => simp [intOf]; omega
    · have hi : ¬ (k : Int) < n := by omega
      have e : k = n := by omega
      subst e
      go_wp2
      go_ret
      exact ⟨rfl, BB⟩

theorem retq {fn : Func} {ts : Array Value} {W : World} {R i : Nat} (x y : Int) {a : Option Addr} {n c : Nat} (hf : fn.results = #[.cell i 96]) (h2 : ts[i]? = some (.pointer (some ⟨R, 0, none⟩))) (h : Room W R [.int .i64 x, .int .i64 y, .slice a n c]) :
    (results fn ts).run Tryz.prog W = .ok (.agg #[.int .i64 x, .int .i64 y, .slice a n c]) W := by
  have q0 := h.cell 0 rfl
  have q1 := h.cell 1 rfl
  have q2 := h.cell 2 rfl
  simp [results, hf, h2, go_sem, q0, q1, q2]

set_option maxHeartbeats 4000000 in
theorem toParcel (x y : Int) (a : Option Addr) (n cap : Nat) (ss : List S3) (w : World) (hr : Row3 w w.heap.size a n ss) (hn : n ≤ 1048576) :
    Calls Tryz.prog 110 #[.agg #[.int .i64 x, .int .i64 y, .slice a n cap]] w fun e w' => (∃ g, e = .returned (.agg #[.int .i64 x, .int .i64 y, (.slice (some ⟨g, 0, none⟩) n n)]) ∧ SHas w' w.heap.size g 0 n ss) ∧ Below w.heap.size w w' := by
  have RX := (Room.at (w.alloc (.cells #[.int .i64 x, .int .i64 y, .slice a n cap] 136)) [.int .i64 0, .int .i64 0, .slice none 0 0] 96 (w.heap.size + 1) (by simp)).alloc (.cells #[.int .i64 x, .int .i64 y, .slice none 0 0] 96)
  have RY := Room.at ((w.alloc (.cells #[.int .i64 x, .int .i64 y, .slice a n cap] 136)).alloc (.cells #[.int .i64 0, .int .i64 0, .slice none 0 0] 96)) [.int .i64 x, .int .i64 y, .slice none 0 0] 96 (w.heap.size + 1 + 1) (by simp)
  have B : Below w.heap.size w (((w.alloc (.cells #[.int .i64 x, .int .i64 y, .slice a n cap] 136)).alloc (.cells #[.int .i64 0, .int .i64 0, .slice none 0 0] 96)).alloc (.cells #[.int .i64 x, .int .i64 y, .slice none 0 0] 96)) := (((Below.refl w.heap.size w).alloc (Nat.le_refl _) _).alloc (by simp) _).alloc (by simp <;> omega) _
  have hz1 : w.heap.size + 3 ≤ (((w.alloc (.cells #[.int .i64 x, .int .i64 y, .slice a n cap] 136)).alloc (.cells #[.int .i64 0, .int .i64 0, .slice none 0 0] 96)).alloc (.cells #[.int .i64 x, .int .i64 y, .slice none 0 0] 96)).heap.size := by simp
  go_enter Tryz.func110, Tryz.ntmps110
  go_wp2_with fail
  generalize ((w.alloc (.cells #[.int .i64 x, .int .i64 y, .slice a n cap] 136)).alloc (.cells #[.int .i64 0, .int .i64 0, .slice none 0 0] 96)).alloc (.cells #[.int .i64 x, .int .i64 y, .slice none 0 0] 96) = w1 at RX RY B hz1 ⊢
  refine (Sb.toSealS a n cap ss _ (hr.below B) hn).mono ?_
  rintro e w2 ⟨⟨g, rfl, hS⟩, b2⟩
  replace RX := RX.below b2
  replace RY := RY.below b2
  replace B := B.trans (b2.mono B.size)
  have hg := hS.2.1
  clear b2
  have c2 := RY.cell 2 rfl
  have f2 := RY.froz 2 rfl
  have RY2 := RY.set 2 (.slice (some ⟨g, 0, none⟩) n n)
  have RX2 := RX.setOther (q := w.heap.size + 1 + 1) (by omega) 2 (.slice (some ⟨g, 0, none⟩) n n)
  have HS2 : Hid (SHas (w2.setCell ⟨w.heap.size + 1 + 1, 2, none⟩ (.slice (some ⟨g, 0, none⟩) n n)) w1.heap.size g 0 n ss) := hS.setOther (by omega) _ _
  have BB : Below w.heap.size w (w2.setCell ⟨w.heap.size + 1 + 1, 2, none⟩ (.slice (some ⟨g, 0, none⟩) n n)) := B.setCell (by simp; omega) _
  clear RX RY B hS
  have HY : Hid (Room (w2.setCell ⟨w.heap.size + 1 + 1, 2, none⟩ (.slice (some ⟨g, 0, none⟩) n n)) (w.heap.size + 1 + 1) [.int .i64 x, .int .i64 y, .slice (some ⟨g, 0, none⟩) n n] ∧ Room (w2.setCell ⟨w.heap.size + 1 + 1, 2, none⟩ (.slice (some ⟨g, 0, none⟩) n n)) (w.heap.size + 1) [.int .i64 0, .int .i64 0, .slice none 0 0]) := ⟨RY2, RX2⟩
  have d0 := RX2.cell 0 rfl
  have d1 := RX2.cell 1 rfl
  have d2 := RX2.cell 2 rfl
  have g0 := RX2.froz 0 rfl
  have g1 := RX2.froz 1 rfl
  have g2 := RX2.froz 2 rfl
  have e0 := RY2.cell 0 rfl
  have e1 := RY2.cell 1 rfl
  have e2 := RY2.cell 2 rfl
  clear RX2 RY2
  go_wp2_with fail
  clear d0 g0 e0 d1 g1 e1 d2 g2 e2 c2 f2
  generalize w2.setCell ⟨w.heap.size + 1 + 1, 2, none⟩ (.slice (some ⟨g, 0, none⟩) n n) = w3 at HY HS2 BB ⊢
  have RZ : Room (((w3.setCell ⟨w.heap.size + 1, 0, none⟩ (.int .i64 x)).setCell ⟨w.heap.size + 1, 1, none⟩ (.int .i64 y)).setCell ⟨w.heap.size + 1, 2, none⟩ (.slice (some ⟨g, 0, none⟩) n n)) (w.heap.size + 1) [.int .i64 x, .int .i64 y, .slice (some ⟨g, 0, none⟩) n n] := (((HY.out.2.set 0 _).set 1 _).set 2 _)
  refine bodyPost_ret (v := .agg #[.int .i64 x, .int .i64 y, .slice (some ⟨g, 0, none⟩) n n]) (retq x y Tryz.results110 rfl RZ) rfl ⟨⟨g, rfl, ?_⟩, ?_⟩
  · exact (((HS2.out.setOther (by omega) _ _).setOther (by omega) _ _).setOther (by omega) _ _).mono (by omega)
  · exact (((BB.setCell (by simp) _).setCell (by simp) _).setCell (by simp) _)

theorem infoParcel : (Tryz.prog.info? 96).map (fun i => (i.zero, i.size, i.bytes)) = some (some (.agg #[.int .i64 0, .int .i64 0, .slice none 0 0]), 3, 40) := by kernel_rfl
def zcq (n : Nat) : List Value := (madeCells #[.int .i64 0, .int .i64 0, .slice none 0 0] (n * 3)).toList
theorem zcq_len (n : Nat) : (zcq n).length = n * 3 := by simp [zcq, size_madeCells]
theorem run_makeq (n : Nat) (hn : n ≤ 1048576) (w : World) : (Instr.makeSlice 31 (.int .i64 (n : Int)) (.int .i64 (n : Int))).run Tryz.prog w = .ok (.slice (some ⟨w.heap.size, 0, none⟩) n n) (w.alloc (.cells (zcq n).toArray 96)) := by
  obtain ⟨i, hi, hzz⟩ := Option.map_eq_some_iff.1 infoParcel
  simp only [Prod.mk.injEq] at hzz
  obtain ⟨hz, hs, hb⟩ := hzz
  have h := run_make (P := Tryz.prog) w 31 96 i _ Tryz.underlying31 hi hz .i64 .i64 (n : Int) (n : Int) (by omega) (by omega) (by rw [hb]; omega) (by omega)
  simp only [Int.toNat_natCast, hs] at h
  rw [h]
  rfl

set_option maxHeartbeats 4000000 in
theorem toParcelS (a : Option Addr) (n cap : Nat) (ps : List QD) (w : World) (hT : ParcelsAt w w.heap.size a n ps) (hn : n + qz ps n ≤ 1048576) :
    Calls Tryz.prog 68 #[.slice a n cap] w fun e w' => e = .returned (.slice (some ⟨w.heap.size, 0, none⟩) n n) ∧ ParcelAll w' w'.heap.size w.heap.size n ps ∧ Below w.heap.size w w' := by
  have hmk := run_makeq n (by omega)
  have B0 := (Below.refl w.heap.size w).alloc (Nat.le_refl _) (.cells (zcq n).toArray 96)
  have U0 : Hid (∃ vs G, vs.length = n * 3 ∧ ParcelUp (w.alloc (.cells (zcq n).toArray 96)) (w.alloc (.cells (zcq n).toArray 96)).heap.size w.heap.size vs ps G 0) :=
    ⟨zcq n, fun _ => 0, zcq_len n, Room.new w _ _, fun j hj => by omega, fun j hj => by omega, fun i j _ hj => by omega, fun j hj => by omega, by simp, Nat.le_refl _⟩
  go_enter Tryz.func68, Tryz.ntmps68
  go_wp2_with fail
  go_loopw [4] (fun i wr => ∃ k : Nat, k ≤ n ∧ i = .int .i64 k ∧ Hid (∃ vs G, vs.length = n * 3 ∧ ParcelUp wr wr.heap.size w.heap.size vs ps G k) ∧ Below w.heap.size w wr) (fun i _ => n - (intOf i).toNat)
  case atStart => exact ⟨0, Nat.zero_le _, rfl, U0, B0⟩
  case round =>
    obtain ⟨k, hk, rfl, H, BB⟩ := hrel
    clear B0 U0
    by_cases hlt : k < n
    · have hi : (k : Int) < n := by omega
      obtain ⟨vs, G, hvl, hU⟩ := H.out
      clear H
      have HV : Hid (vs.length = n * 3) := hvl
      clear hvl
      have TR := hT.below BB
      obtain ⟨zT, hz | ⟨gT, oT, rfl, hgT, hcT⟩⟩ := id TR
      · omega
      obtain ⟨aS, cS, ⟨e0, e1, e2⟩, hA⟩ := hcT k hlt
      have hsz := ql_qz ps hlt
      have hz3 : (qd ps k).2.2.length ≤ 1048576 := by omega
      clear hsz
      go_wp2_with fail
      clear e0 e1 e2
      refine (toParcel (qd ps k).1 (qd ps k).2.1 aS _ cS _ _ hA hz3).mono ?_
      rintro e w2 ⟨⟨g2, rfl, hN⟩, b2⟩
      obtain ⟨vs', G', hl', hU'⟩ := hU.next HV.out hlt b2 hN
      have hU2 := hU.later (by rw [HV.out]; omega) b2
      have HN : Hid (∃ vs G, vs.length = n * 3 ∧ ParcelUp (((w2.setCell ⟨w.heap.size, k * 3, none⟩ (.int .i64 (qd ps k).1)).setCell ⟨w.heap.size, k * 3 + 1, none⟩ (.int .i64 (qd ps k).2.1)).setCell ⟨w.heap.size, k * 3 + 2, none⟩ (Ns.ss g2 (qd ps k).2.2.length)) w2.heap.size w.heap.size vs ps G (k + 1)) := ⟨vs', G', hl', hU'⟩
      have BN : Below w.heap.size w (((w2.setCell ⟨w.heap.size, k * 3, none⟩ (.int .i64 (qd ps k).1)).setCell ⟨w.heap.size, k * 3 + 1, none⟩ (.int .i64 (qd ps k).2.1)).setCell ⟨w.heap.size, k * 3 + 2, none⟩ (Ns.ss g2 (qd ps k).2.2.length)) := ((((BB.trans (b2.mono BB.size)).setCell (p := ⟨w.heap.size, k * 3, none⟩) (Nat.le_refl _) (.int .i64 (qd ps k).1)).setCell (p := ⟨w.heap.size, k * 3 + 1, none⟩) (Nat.le_refl _) (.int .i64 (qd ps k).2.1)).setCell (p := ⟨w.heap.size, k * 3 + 2, none⟩) (Nat.le_refl _) (Ns.ss g2 (qd ps k).2.2.length))
      obtain ⟨v0, hv0⟩ : ∃ v, vs[k * 3]? = some v := ⟨_, List.getElem?_eq_getElem (by rw [HV.out]; omega)⟩
      obtain ⟨v1, hv1⟩ : ∃ v, vs[k * 3 + 1]? = some v := ⟨_, List.getElem?_eq_getElem (by rw [HV.out]; omega)⟩
      obtain ⟨v2, hv2⟩ : ∃ v, vs[k * 3 + 2]? = some v := ⟨_, List.getElem?_eq_getElem (by rw [HV.out]; omega)⟩
      have x0 := hU2.R.cell _ hv0
      have x1 := hU2.R.cell _ hv1
      have x2 := hU2.R.cell _ hv2
      have y0 := hU2.R.froz _ hv0
      have y1 := hU2.R.froz _ hv1
      have y2 := hU2.R.froz _ hv2
      clear hU hU' hU2 hN b2 TR hcT hl' hv0 hv1 hv2 hA BB
      go_wp2_with fail
      go_roundw
      case rel => exact ⟨k + 1, by omega, by go_num, by simpa only [World.size_setCell] using HN, BN⟩
      case measure => simp [intOf]; omega
    · have hi : ¬ (k : Int) < n := by omega
      have e : k = n := by omega
      subst e
      go_wp2
      go_ret
      exact ⟨rfl, H.out, BB⟩

set_option maxHeartbeats 4000000 in
theorem eqParcel (x y : Int) (a b : Option Addr) (n cap cap' : Nat) (ss : List S3) (w : World) (hr : Row3 w w.heap.size a n ss) (hs : Row3 w w.heap.size b n ss) (hn : n ≤ 1048576) :
    Calls Tryz.prog 114 #[.agg #[.int .i64 x, .int .i64 y, .slice a n cap], .agg #[.int .i64 x, .int .i64 y, .slice b n cap']] w fun e w' => e = .returned (.bool true) ∧ Below w.heap.size w w' := by
  have B := ((Below.refl w.heap.size w).alloc (Nat.le_refl _) (.cells #[.int .i64 x, .int .i64 y, .slice a n cap] 96)).alloc (by simp) (.cells #[.int .i64 x, .int .i64 y, .slice b n cap'] 96)
  go_enter Tryz.func114, Tryz.ntmps114
  go_wp2_with fail
  refine (Sb.eqSealS a b n cap cap' ss _ (hr.below B) (hs.below B) hn).mono ?_
  rintro e w2 ⟨rfl, b2⟩
  go_wp2
  go_ret
  exact ⟨rfl, B.trans (b2.mono B.size)⟩

set_option maxHeartbeats 8000000 in
theorem eqParcelS (a b : Option Addr) (n cap cap' : Nat) (ps : List QD) (w : World) (hr : ParcelsAt w w.heap.size a n ps) (hs : ParcelsAt w w.heap.size b n ps) (hn : n + qz ps n ≤ 1048576) :
    Calls Tryz.prog 73 #[.slice a n cap, .slice b n cap'] w fun e w' => e = .returned (.bool true) ∧ Below w.heap.size w w' := by
  go_enter Tryz.func73, Tryz.ntmps73
  go_wp2
  go_loopw [5] (fun i wr => ∃ k : Nat, k ≤ n ∧ i = .int .i64 k ∧ Below w.heap.size w wr) (fun i _ => n - (intOf i).toNat)
  case atStart => exact ⟨0, Nat.zero_le _, rfl, Below.refl _ _⟩
  case round =>
    obtain ⟨k, hk, rfl, BB⟩ := hrel
    by_cases hlt : k < n
    · have hi : (k : Int) < n := by omega
      obtain ⟨_, hx | ⟨b1, o1, rfl, hb1, hc1⟩⟩ := hr
      · omega
      obtain ⟨_, hy | ⟨b2, o2, rfl, hb2, hc2⟩⟩ := hs
      · omega
      obtain ⟨aA, cA, hA1, hA⟩ := hc1 k hlt
      obtain ⟨aB, cB, hB1, hB⟩ := hc2 k hlt
      have hsz := ql_qz ps hlt
      have hz3 : (qd ps k).2.2.length ≤ 1048576 := by omega
      clear hsz hc1 hc2
      have HC1 : Hid (∀ w', Below w.heap.size w w' → w'.cell? ⟨b1, o1 + k * 3, none⟩ = some (.int .i64 (qd ps k).1) ∧ w'.cell? ⟨b1, o1 + k * 3 + 1, none⟩ = some (.int .i64 (qd ps k).2.1) ∧ w'.cell? ⟨b1, o1 + k * 3 + 2, none⟩ = some (.slice aA (qd ps k).2.2.length cA)) := fun w' B => by
        have q : ∀ o, w'.cell? ⟨b1, o, none⟩ = w.cell? ⟨b1, o, none⟩ := fun o => B.cell (p := ⟨b1, o, none⟩) hb1
        simp only [q]
        exact hA1
      have HC2 : Hid (∀ w', Below w.heap.size w w' → w'.cell? ⟨b2, o2 + k * 3, none⟩ = some (.int .i64 (qd ps k).1) ∧ w'.cell? ⟨b2, o2 + k * 3 + 1, none⟩ = some (.int .i64 (qd ps k).2.1) ∧ w'.cell? ⟨b2, o2 + k * 3 + 2, none⟩ = some (.slice aB (qd ps k).2.2.length cB)) := fun w' B => by
        have q : ∀ o, w'.cell? ⟨b2, o, none⟩ = w.cell? ⟨b2, o, none⟩ := fun o => B.cell (p := ⟨b2, o, none⟩) hb2
        simp only [q]
        exact hB1
      clear hA1 hB1
      replace BB := BB.drew
      go_wp2_with fail
      refine wp_region_noPanic ?_
      refine wp_region_held_drew (S := (fun w' => (w'.cell? ⟨b1, o1 + k * 3, none⟩ = some (.int .i64 (qd ps k).1) ∧ w'.cell? ⟨b1, o1 + k * 3 + 1, none⟩ = some (.int .i64 (qd ps k).2.1) ∧ w'.cell? ⟨b1, o1 + k * 3 + 2, none⟩ = some (.slice aA (qd ps k).2.2.length cA)) ∧ (w'.cell? ⟨b2, o2 + k * 3, none⟩ = some (.int .i64 (qd ps k).1) ∧ w'.cell? ⟨b2, o2 + k * 3 + 1, none⟩ = some (.int .i64 (qd ps k).2.1) ∧ w'.cell? ⟨b2, o2 + k * 3 + 2, none⟩ = some (.slice aB (qd ps k).2.2.length cB)) ∧ Hid (Below w.heap.size w w'))) (by kernel_rfl) ⟨HC1.out _ BB, HC2.out _ BB, BB⟩ (fun hHeld => ?_)
      refine Tk.W 0 (some 17) (.move (.tmp 0)) 31 none ?_
      refine Tk.W 1 (some 18) (.move (.tmp 5)) 3 none ?_
      refine Tk.W 2 (some 19) (.indexAddr 31 (.tmp 17) (.tmp 18)) 0 none ?_
      refine Tk.W 3 (some 20) (.load 96 (.tmp 19)) 96 none ?_
      refine Tk.W 4 (some 21) (.move (.tmp 1)) 31 none ?_
      refine Tk.W 5 (some 22) (.move (.tmp 5)) 3 none ?_
      refine Tk.W 6 (some 23) (.indexAddr 31 (.tmp 21) (.tmp 22)) 0 none ?_
      refine Tk.W 7 (some 24) (.load 96 (.tmp 23)) 96 none ?_
      refine Tk.R 8 (some 25) (.call ⟨.value (.func 114), #[.tmp 20, .tmp 24], #[96, 96]⟩) 4 none (fun K hK => ?_)
      go_simp
      refine (eqParcel _ _ aA aB _ cA cB _ _ (hA.below hHeld.2.2.out) (hB.below hHeld.2.2.out) hz3).mono ?_
      rintro e w2 ⟨rfl, bq⟩
      have BB2 := hHeld.2.2.out.trans (bq.mono hHeld.2.2.out.size)
      have kq : (fun w' => (w'.cell? ⟨b1, o1 + k * 3, none⟩ = some (.int .i64 (qd ps k).1) ∧ w'.cell? ⟨b1, o1 + k * 3 + 1, none⟩ = some (.int .i64 (qd ps k).2.1) ∧ w'.cell? ⟨b1, o1 + k * 3 + 2, none⟩ = some (.slice aA (qd ps k).2.2.length cA)) ∧ (w'.cell? ⟨b2, o2 + k * 3, none⟩ = some (.int .i64 (qd ps k).1) ∧ w'.cell? ⟨b2, o2 + k * 3 + 1, none⟩ = some (.int .i64 (qd ps k).2.1) ∧ w'.cell? ⟨b2, o2 + k * 3 + 2, none⟩ = some (.slice aB (qd ps k).2.2.length cB)) ∧ Hid (Below w.heap.size w w')) w2 := ⟨HC1.out _ BB2, HC2.out _ BB2, BB2⟩
      try dsimp only
      refine hK.out _ _ kq ?_; clear hK K hHeld; intro hHeld; try simp only [Act.put, List.setIfInBounds_toArray, List.set_cons_zero, List.set_cons_succ]
      refine Tk.W 9 (some 26) (.unOp .not 4 (.tmp 25)) 4 none ?_
      refine wpAnyH_done (by kernel_rfl) ?_ _
      refine NoPanic.normal ?_
      have BB3 := hHeld.2.2.out
      clear hHeld
      go_wp2
      go_roundw
      case rel => exact ⟨k + 1, by omega, by go_num, BB3⟩
      case measure => simp [intOf]; omega
    · have hi : ¬ (k : Int) < n := by omega
      have e : k = n := by omega
      subst e
      go_wp2
      go_ret
      exact ⟨rfl, BB⟩

end Go.Proofs.YtimakfokgcnklaaGreat.Cd
