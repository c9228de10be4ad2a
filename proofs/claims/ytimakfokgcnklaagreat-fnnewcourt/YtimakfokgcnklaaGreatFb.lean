/-
  Slices of facts: a copy of one; whether two are alike; one that is marked, one whose marks are held.
-/
import Derived.Test.YtimakfokgcnklaaGreatSb2
import Derived.Test.YtimakfokgcnklaaGreatTk
namespace Go.Proofs.YtimakfokgcnklaaGreat.Fb
open Go.ChangeShapes Go.WideShapes Go.ChangeAt Go.RowKit
open Rm (Room)
open Sb (S3 es es_set es_ext fl fl_zero fl_len fl_at sl Row3 SHas made3 smarks es_marks grown_set)
set_option linter.unusedVariables false
set_option linter.unusedSimpArgs false

theorem info3 : (Tryz.prog.info? 98).map (fun i => (i.zero, i.size, i.bytes)) = some (some (.agg #[.int .i64 0, .int .i64 0, .int .i64 0]), 3, 24) := by kernel_rfl
theorem run_make3 (n : Nat) (hn : n ≤ 1048576) (w : World) : (Instr.makeSlice 33 (.int .i64 (n : Int)) (.int .i64 (n : Int))).run Tryz.prog w = .ok (.slice (some ⟨w.heap.size, 0, none⟩) n n) (w.alloc (.cells (List.replicate (n * 3) (.int .i64 0 : Value)).toArray 98)) := by
  obtain ⟨i, hi, hzz⟩ := Option.map_eq_some_iff.1 info3
  simp only [Prod.mk.injEq] at hzz
  obtain ⟨hz, hs, hb⟩ := hzz
  have h := run_make (P := Tryz.prog) w 33 98 i _ Tryz.underlying33 hi hz .i64 .i64 (n : Int) (n : Int) (by omega) (by omega) (by rw [hb]; omega) (by omega)
  simp only [Int.toNat_natCast, hs] at h
  rw [h, ← made3]
  rfl
theorem toFact (s : S3) (w : World) :
    Calls Tryz.prog 112 #[sl s] w fun e w' => e = .returned (sl s) ∧ Below w.heap.size w w' := by
  go_enter Tryz.func112, Tryz.ntmps112
  go_wp2
  refine bodyPost_ret (v := sl s) (by simp [results, Tryz.results112, go_sem]) rfl ⟨rfl, ?_⟩
  (repeat (first | exact Below.refl _ _ | assumption | refine Below.setCell ?_ (by first | omega | (simp <;> omega)) _ | refine Below.alloc ?_ (by first | omega | (simp <;> omega)) _ | refine Below.drew ?_ | refine below_drewN ?_ _ | refine Below.trans ?_ (Below.mono (by assumption) (by first | omega | (simp <;> omega)))))
theorem eqFact (s : S3) (w : World) :
    Calls Tryz.prog 116 #[sl s, sl s] w fun e w' => e = .returned (.bool true) ∧ Below w.heap.size w w' := by
  go_enter Tryz.func116, Tryz.ntmps116
  go_wp2
  go_ret
  refine ⟨rfl, ?_⟩
  (repeat (first | exact Below.refl _ _ | assumption | refine Below.setCell ?_ (by first | omega | (simp <;> omega)) _ | refine Below.alloc ?_ (by first | omega | (simp <;> omega)) _ | refine Below.drew ?_ | refine below_drewN ?_ _ | refine Below.trans ?_ (Below.mono (by assumption) (by first | omega | (simp <;> omega)))))

set_option maxHeartbeats 4000000 in
theorem toFactS (a : Option Addr) (n cap : Nat) (ss : List S3) (w : World) (hr : Row3 w w.heap.size a n ss) (hn : n ≤ 1048576) :
    Calls Tryz.prog 70 #[.slice a n cap] w fun e w' => (∃ g, e = .returned (.slice (some ⟨g, 0, none⟩) n n) ∧ SHas w' w.heap.size g 0 n ss) ∧ Below w.heap.size w w' := by
  have hmk := run_make3 n hn
  have ⟨hz, hrow⟩ := hr
  have B0 := (Below.refl w.heap.size w).alloc (Nat.le_refl _) (.cells (List.replicate (n * 3) (.int .i64 0 : Value)).toArray 98)
  have U0 : Hid (∃ ts : List S3, (∀ i, i < 0 → es ts i = es ss i) ∧ SHas (w.alloc (.cells (List.replicate (n * 3) (.int .i64 0 : Value)).toArray 98)) w.heap.size w.heap.size 0 n ts) :=
    ⟨List.replicate n (0, 0, 0), fun i hi => by omega, by simp, Nat.le_refl _, by simp, fun i v hv => by
      rw [fl_zero] at hv
      have := Room.new w (List.replicate (n * 3) (.int .i64 0)) 98 i v hv
      rw [Nat.zero_add]
      exact this⟩
  go_enter Tryz.func70, Tryz.ntmps70
  go_wp2_with fail
  go_loopw [4] (fun i wr => ∃ k : Nat, k ≤ n ∧ i = .int .i64 k ∧ Hid (∃ ts : List S3, (∀ i, i < k → es ts i = es ss i) ∧ SHas wr w.heap.size w.heap.size 0 n ts) ∧ Below w.heap.size w wr) (fun i _ => n - (intOf i).toNat)
  case atStart => exact ⟨0, Nat.zero_le _, rfl, U0, B0⟩
  case round =>
    obtain ⟨k, hk, rfl, H, BB⟩ := hrel
    clear B0 U0
    by_cases hlt : k < n
    · have hi : (k : Int) < n := by omega
      obtain ⟨ts, hts, hS⟩ := H.out
      clear H
      have HT : Hid (∀ i, i < k → es ts i = es ss i) := hts
      clear hts
      rcases hrow with hrow | ⟨b, off, rfl, hB, hc⟩
      · omega
      have hR := Row3.later hr BB (Nat.le_refl _)
      obtain ⟨_, hr2 | ⟨b2, off2, e2, _, hc2⟩⟩ := hR
      · omega
      cases e2
      obtain ⟨c0, c1, c2⟩ := hc2 k hlt
      clear hc hc2
      go_wp2_with fail
      refine (toFact (es ss k) _).mono ?_
      rintro e w2 ⟨rfl, b2⟩
      clear c0 c1 c2
      replace BB := BB.trans (b2.mono BB.size)
      replace hS := hS.below b2
      obtain ⟨⟨d0, f0⟩, ⟨d1, f1⟩, d2, f2⟩ := hS.cells k hlt
      have hS3 := hS.put k (es ss k)
      have hT3 : Hid (∀ i, i < k + 1 → es (ts.set k (es ss k)) i = es ss i) := fun i hi => by
        rw [es_set _ _ _ _ (by rw [hS.1]; exact hlt)]
        by_cases e : i = k
        · rw [if_pos e, e]
        · rw [if_neg e]; exact HT.out i (by omega)
      clear hS
      rw [Nat.zero_add] at hS3 d0 d1 d2 f0 f1 f2
      have BB3 := ((BB.setCell (p := ⟨w.heap.size, k * 3, none⟩) (Nat.le_refl _) (.int .i64 (es ss k).1)).setCell (p := ⟨w.heap.size, k * 3 + 1, none⟩) (Nat.le_refl _) (.int .i64 (es ss k).2.1)).setCell (p := ⟨w.heap.size, k * 3 + 2, none⟩) (Nat.le_refl _) (.int .i64 (es ss k).2.2)
      go_wp2_with fail
      go_roundw
      case rel => exact ⟨k + 1, by omega, by go_num, ⟨_, hT3.out, hS3⟩, BB3⟩
      case measure => simp [intOf]; omega
    · have hi : ¬ (k : Int) < n := by omega
      have e : k = n := by omega
      subst e
      obtain ⟨ts, hts, hS⟩ := H.out
      have e2 : ts = ss := es_ext (by rw [hS.1, hz]) (fun i hi => hts i (by have := hS.1; omega))
      subst e2
      go_wp2
      go_ret
      exact ⟨⟨_, rfl, hS⟩, BB⟩

set_option maxHeartbeats 4000000 in
theorem eqFactS (a b : Option Addr) (n cap cap' : Nat) (ss : List S3) (w : World) (hr : Row3 w w.heap.size a n ss) (hs : Row3 w w.heap.size b n ss) (hn : n ≤ 1048576) :
    Calls Tryz.prog 75 #[.slice a n cap, .slice b n cap'] w fun e w' => e = .returned (.bool true) ∧ Below w.heap.size w w' := by
  go_enter Tryz.func75, Tryz.ntmps75
  go_wp2
  go_loopw [5] (fun i w' => ∃ k : Nat, k ≤ n ∧ i = .int .i64 k ∧ Below w.heap.size w w') (fun i _ => n - (intOf i).toNat)
  case atStart => exact ⟨0, Nat.zero_le _, rfl, Below.refl _ _⟩
  case round =>
    obtain ⟨k, hk, rfl, BB⟩ := hrel
    by_cases hlt : k < n
    · have hi : (k : Int) < n := by omega
      obtain ⟨_, hx | ⟨b1, o1, rfl, hb1, hc1⟩⟩ := hr
      · omega
      obtain ⟨_, hy | ⟨b2, o2, rfl, hb2, hc2⟩⟩ := hs
      · omega
      have HC : ∀ w2, Below w.heap.size w w2 → (w2.cell? ⟨b1, o1 + k * 3, none⟩ = some (.int .i64 (es ss k).1) ∧ w2.cell? ⟨b1, o1 + k * 3 + 1, none⟩ = some (.int .i64 (es ss k).2.1) ∧ w2.cell? ⟨b1, o1 + k * 3 + 2, none⟩ = some (.int .i64 (es ss k).2.2)) ∧ (w2.cell? ⟨b2, o2 + k * 3, none⟩ = some (.int .i64 (es ss k).1) ∧ w2.cell? ⟨b2, o2 + k * 3 + 1, none⟩ = some (.int .i64 (es ss k).2.1) ∧ w2.cell? ⟨b2, o2 + k * 3 + 2, none⟩ = some (.int .i64 (es ss k).2.2)) := fun w2 B => by
        have q : ∀ o, w2.cell? ⟨b1, o, none⟩ = w.cell? ⟨b1, o, none⟩ := fun o => B.cell (p := ⟨b1, o, none⟩) hb1
        have q2 : ∀ o, w2.cell? ⟨b2, o, none⟩ = w.cell? ⟨b2, o, none⟩ := fun o => B.cell (p := ⟨b2, o, none⟩) hb2
        rw [q, q, q, q2, q2, q2]
        exact ⟨hc1 k hlt, hc2 k hlt⟩
      have HH : Hid (∀ w2, Below w.heap.size w w2 → (w2.cell? ⟨b1, o1 + k * 3, none⟩ = some (.int .i64 (es ss k).1) ∧ w2.cell? ⟨b1, o1 + k * 3 + 1, none⟩ = some (.int .i64 (es ss k).2.1) ∧ w2.cell? ⟨b1, o1 + k * 3 + 2, none⟩ = some (.int .i64 (es ss k).2.2)) ∧ (w2.cell? ⟨b2, o2 + k * 3, none⟩ = some (.int .i64 (es ss k).1) ∧ w2.cell? ⟨b2, o2 + k * 3 + 1, none⟩ = some (.int .i64 (es ss k).2.1) ∧ w2.cell? ⟨b2, o2 + k * 3 + 2, none⟩ = some (.int .i64 (es ss k).2.2))) := HC
      clear HC hc1 hc2
      replace BB := BB.drew
      go_wp2_with fail
      refine wp_region_noPanic ?_
      refine wp_region_held_drew (S := (fun w' => w'.cell? ⟨b1, o1 + k * 3, none⟩ = some (.int .i64 (es ss k).1) ∧ w'.cell? ⟨b1, o1 + k * 3 + 1, none⟩ = some (.int .i64 (es ss k).2.1) ∧ w'.cell? ⟨b1, o1 + k * 3 + 2, none⟩ = some (.int .i64 (es ss k).2.2) ∧ w'.cell? ⟨b2, o2 + k * 3, none⟩ = some (.int .i64 (es ss k).1) ∧ w'.cell? ⟨b2, o2 + k * 3 + 1, none⟩ = some (.int .i64 (es ss k).2.1) ∧ w'.cell? ⟨b2, o2 + k * 3 + 2, none⟩ = some (.int .i64 (es ss k).2.2) ∧ Hid (Below w.heap.size w w'))) (by kernel_rfl) (by obtain ⟨⟨x0, x1, x2⟩, x3, x4, x5⟩ := HH.out _ BB; exact ⟨x0, x1, x2, x3, x4, x5, BB⟩) (fun hHeld => ?_)
      refine Tk.W 0 (some 17) (.move (.tmp 0)) 33 none ?_
      refine Tk.W 1 (some 18) (.move (.tmp 5)) 3 none ?_
      refine Tk.W 2 (some 19) (.indexAddr 33 (.tmp 17) (.tmp 18)) 0 none ?_
      refine Tk.W 3 (some 20) (.load 98 (.tmp 19)) 98 none ?_
      refine Tk.W 4 (some 21) (.move (.tmp 1)) 33 none ?_
      refine Tk.W 5 (some 22) (.move (.tmp 5)) 3 none ?_
      refine Tk.W 6 (some 23) (.indexAddr 33 (.tmp 21) (.tmp 22)) 0 none ?_
      refine Tk.W 7 (some 24) (.load 98 (.tmp 23)) 98 none ?_
      refine Tk.R 8 (some 25) (.call ⟨.value (.func 116), #[.tmp 20, .tmp 24], #[98, 98]⟩) 4 none (fun K hK => ?_)
      go_simp
      refine (eqFact (es ss k) _).mono ?_
      rintro e ve9 ⟨rfl, be9⟩
      have BB2 := hHeld.2.2.2.2.2.2.out.trans (be9.mono hHeld.2.2.2.2.2.2.out.size)
      clear be9
      try dsimp only
      refine hK.out _ _ (by obtain ⟨⟨x0, x1, x2⟩, x3, x4, x5⟩ := HH.out _ BB2; exact ⟨x0, x1, x2, x3, x4, x5, BB2⟩) ?_; clear hK K hHeld; intro hHeld; try simp only [Act.put, List.setIfInBounds_toArray, List.set_cons_zero, List.set_cons_succ]
      refine Tk.W 9 (some 26) (.unOp .not 4 (.tmp 25)) 4 none ?_
      refine wpAnyH_done (by kernel_rfl) ?_ _
      refine NoPanic.normal ?_
      clear hHeld
      go_wp2
      go_roundw
      case rel => exact ⟨k + 1, by omega, by go_num, BB2⟩
      case measure => simp [intOf]; omega
    · have hi : ¬ (k : Int) < n := by omega
      go_wp2
      go_ret
      exact ⟨rfl, BB⟩

set_option maxHeartbeats 4000000 in
theorem markFactS (s : Int) (B g off n cap : Nat) (ss : List S3) (w : World) (h : SHas w B g off n ss) (hn : n ≤ 1048576) (hs0 : 0 ≤ s) (hs1 : s ≤ 100000000) :
    Calls Tryz.prog 79 #[.slice (some ⟨g, off, none⟩) n cap, .int .i64 s] w fun e w' => e = .returned (.int .i64 (s + 3 * (n : Int))) ∧ SHas w' B g off n (smarks s n) ∧ w.grownBy w' (some g) := by
  go_enter Tryz.func79, Tryz.ntmps79
  go_wp2
  go_loopw [1, 5] (fun q i wr => ∃ k : Nat, k ≤ n ∧ i = .int .i64 k ∧ q = .int .i64 (s + 3 * (k : Int)) ∧ Hid (∃ ts, SHas wr B g off n ts ∧ (∀ j, j < k → es ts j = (s + 3 * (j : Int), s + 3 * (j : Int) + 1, s + 3 * (j : Int) + 1 + 1)) ∧ w.grownBy wr (some g))) (fun _ i _ => n - (intOf i).toNat)
  case atStart => exact ⟨0, Nat.zero_le _, rfl, by simp, ⟨ss, h, fun j hj => by omega, World.grownBy.refl _ _⟩⟩
  case round =>
    obtain ⟨k, hk, rfl, rfl, HH⟩ := hrel
    obtain ⟨ts, hS, hts, hgr⟩ := HH.out
    clear HH h
    by_cases hlt : k < n
    · have hi : (k : Int) < n := by omega
      obtain ⟨⟨d0, f0⟩, ⟨d1, f1⟩, d2, f2⟩ := hS.cells k hlt
      have hS3 := hS.put k (s + 3 * (k : Int), s + 3 * (k : Int) + 1, s + 3 * (k : Int) + 1 + 1)
      have hg3 := grown_set (grown_set (grown_set hgr (off + k * 3) (.int .i64 (s + 3 * (k : Int)))) (off + k * 3 + 1) (.int .i64 (s + 3 * (k : Int) + 1))) (off + k * 3 + 2) (.int .i64 (s + 3 * (k : Int) + 1 + 1))
      have hT3 : Hid (∀ j, j < k + 1 → es (ts.set k (s + 3 * (k : Int), s + 3 * (k : Int) + 1, s + 3 * (k : Int) + 1 + 1)) j = (s + 3 * (j : Int), s + 3 * (j : Int) + 1, s + 3 * (j : Int) + 1 + 1)) := fun j hj => by
        rw [es_set _ _ _ _ (by rw [hS.1]; exact hlt)]
        by_cases e : j = k
        · rw [if_pos e, e]
        · rw [if_neg e]; exact hts j (by omega)
      clear hS hts hgr
      have HQ : Hid (SHas (((wr.setCell ⟨g, off + k * 3, none⟩ (.int .i64 (s + 3 * (k : Int)))).setCell ⟨g, off + k * 3 + 1, none⟩ (.int .i64 (s + 3 * (k : Int) + 1))).setCell ⟨g, off + k * 3 + 2, none⟩ (.int .i64 (s + 3 * (k : Int) + 1 + 1))) B g off n (ts.set k (s + 3 * (k : Int), s + 3 * (k : Int) + 1, s + 3 * (k : Int) + 1 + 1)) ∧ w.grownBy (((wr.setCell ⟨g, off + k * 3, none⟩ (.int .i64 (s + 3 * (k : Int)))).setCell ⟨g, off + k * 3 + 1, none⟩ (.int .i64 (s + 3 * (k : Int) + 1))).setCell ⟨g, off + k * 3 + 2, none⟩ (.int .i64 (s + 3 * (k : Int) + 1 + 1))) (some g)) := ⟨hS3, hg3⟩
      clear hS3 hg3
      go_wp2_with fail
      go_roundw
      case rel => exact ⟨k + 1, by omega, by go_num, by go_num, ⟨_, HQ.out.1, hT3.out, HQ.out.2⟩⟩
      case measure => simp [intOf]; omega
    · have hi : ¬ (k : Int) < n := by omega
      have e : k = n := by omega
      subst e
      have e2 : ts = smarks s k := es_ext (by rw [hS.1]; simp [smarks]) (fun j hj => by rw [hts j (by have := hS.1; omega), es_marks (by have := hS.1; omega)])
      subst e2
      go_wp2
      go_ret
      exact ⟨rfl, hS, hgr⟩

set_option maxHeartbeats 4000000 in
theorem heldFactS (s : Int) (B g off n cap : Nat) (w : World) (h : SHas w B g off n (smarks s n)) (hn : n ≤ 1048576) (hs0 : 0 ≤ s) (hs1 : s ≤ 100000000) :
    Calls Tryz.prog 84 #[.slice (some ⟨g, off, none⟩) n cap, .int .i64 s] w fun e w' => e = .returned (.int .i64 (s + 3 * (n : Int))) ∧ w' = w := by
  go_enter Tryz.func84, Tryz.ntmps84
  go_wp2
  go_loop [1, 5] (fun q i => ∃ k : Nat, k ≤ n ∧ i = .int .i64 k ∧ q = .int .i64 (s + 3 * (k : Int))) (fun _ i => n - (intOf i).toNat)
  case atStart => exact ⟨0, Nat.zero_le _, rfl, by simp⟩
  case round =>
    obtain ⟨k, hk, rfl, rfl⟩ := hrel
    by_cases hlt : k < n
    · have hi : (k : Int) < n := by omega
      obtain ⟨⟨d0, f0⟩, ⟨d1, f1⟩, d2, f2⟩ := h.cells k hlt
      rw [es_marks hlt] at d0 d1 d2
      dsimp only at d0 d1 d2
      go_wp2
      go_round
      case rel => exact ⟨k + 1, by omega, by go_num, by go_num⟩
      case measure => simp [intOf]; omega
    · have hi : ¬ (k : Int) < n := by omega
      have e : k = n := by omega
      subst e
      go_wp2
      go_ret
      exact ⟨rfl, rfl⟩

end Go.Proofs.YtimakfokgcnklaaGreat.Fb
