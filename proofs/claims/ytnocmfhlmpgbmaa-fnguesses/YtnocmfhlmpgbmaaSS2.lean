/-
  Slices of slices of int64s: whether two are alike; one that is marked.
-/
import Derived.Test.YtnocmfhlmpgbmaaSS
import Derived.Deep.RegionHeld3
import Derived.Test.YtnocmfhlmpgbmaaTk
namespace Go.Proofs.Ytnocmfhlmpgbmaa.Ss
open Go.ChangeShapes Go.WideShapes Go.ChangeAt Go.RowKit
open Ls (el Row)
open Ow (Has)
set_option linter.unusedVariables false
set_option linter.unusedSimpArgs false

set_option maxHeartbeats 4000000 in
theorem eqInt64SS (a b : Option Addr) (n cap cap' : Nat) (zss : List (List Int)) (w : World) (hr : RowsAt w w.heap.size a n zss) (hs : RowsAt w w.heap.size b n zss) (hn : n ≤ 1048576) (ht : tot zss n ≤ 1048576) :
    Calls Try.prog 62 #[.slice a n cap, .slice b n cap'] w fun e w' => e = .returned (.bool true) ∧ Below w.heap.size w w' := by
  have ⟨hz, hrow⟩ := hr
  have ⟨_, hrow'⟩ := hs
  go_enter Try.func62, Try.ntmps62
  go_wp2
  go_loopw [5] (fun i w' => ∃ k : Nat, k ≤ n ∧ i = .int .i64 k ∧ Below w.heap.size w w') (fun i _ => n - (intOf i).toNat)
  case atStart => exact ⟨0, Nat.zero_le _, rfl, Below.refl _ _⟩
  case round =>
    obtain ⟨k, hk, rfl, hb⟩ := hrel
    by_cases hlt : k < n
    · have hi : (k : Int) < n := by omega
      have hln := ln_tot zss hlt
      rcases hrow with hrow | ⟨b1, o1, rfl, hB1, hc⟩
      · omega
      rcases hrow' with hrow' | ⟨b2, o2, rfl, hB2, hc'⟩
      · omega
      obtain ⟨ak, ck, hc1, hc2⟩ := hc k hlt
      obtain ⟨ek, fk, he1, he2⟩ := hc' k hlt
      have hc1w : wr.drew.cell? ⟨b1, o1 + k, none⟩ = some (.slice ak (ln zss k) ck) := by rw [hb.drew.cell (p := ⟨b1, o1 + k, none⟩) hB1]; exact hc1
      have he1w : wr.drew.cell? ⟨b2, o2 + k, none⟩ = some (.slice ek (ln zss k) fk) := by rw [hb.drew.cell (p := ⟨b2, o2 + k, none⟩) hB2]; exact he1
      go_wp2_with fail
      refine wp_region_noPanic ?_
      refine wp_region_held_drew (S := (fun w' => w'.cell? ⟨b1, o1 + k, none⟩ = some (.slice ak (ln zss k) ck) ∧ w'.cell? ⟨b2, o2 + k, none⟩ = some (.slice ek (ln zss k) fk) ∧ Hid (Below w.heap.size w w'))) (by kernel_rfl) ⟨hc1w, he1w, hb.drew⟩ (fun hHeld => ?_)
      refine Tk.W 0 (some 17) (.move (.tmp 0)) 33 none ?_
      refine Tk.W 1 (some 18) (.move (.tmp 5)) 3 none ?_
      refine Tk.W 2 (some 19) (.indexAddr 33 (.tmp 17) (.tmp 18)) 0 none ?_
      refine Tk.W 3 (some 20) (.load 29 (.tmp 19)) 29 none ?_
      refine Tk.W 4 (some 21) (.move (.tmp 1)) 33 none ?_
      refine Tk.W 5 (some 22) (.move (.tmp 5)) 3 none ?_
      refine Tk.W 6 (some 23) (.indexAddr 33 (.tmp 21) (.tmp 22)) 0 none ?_
      refine Tk.W 7 (some 24) (.load 29 (.tmp 23)) 29 none ?_
      refine Tk.R 8 (some 25) (.call ⟨.value (.func 24), #[.tmp 20, .tmp 24], #[29, 29]⟩) 4 none (fun K hK => ?_)
      go_simp
      refine (Ls.eqInt64S _ _ (ln zss k) _ _ (rw_ zss k) _ ((hc2.later hHeld.2.2.out (Nat.le_refl _)).more hHeld.2.2.out.size) ((he2.later hHeld.2.2.out (Nat.le_refl _)).more hHeld.2.2.out.size) (by omega)).mono ?_
      rintro e ve9 ⟨rfl, be9⟩
      have qe9 := hHeld.2.2.out.trans (be9.mono hHeld.2.2.out.size)
      have kve9 := Tk.kv hK (w := ve9) ⟨by rw [qe9.cell (p := ⟨b1, o1 + k, none⟩) hB1]; exact hc1, by rw [qe9.cell (p := ⟨b2, o2 + k, none⟩) hB2]; exact he1, qe9⟩
      try dsimp only
      refine hK.out _ _ kve9 ?_; clear hK K hHeld; intro hHeld; try simp only [Act.put, List.setIfInBounds_toArray, List.set_cons_zero, List.set_cons_succ]
      refine Tk.W 9 (some 26) (.unOp .not 4 (.tmp 25)) 4 none ?_
      refine wpAnyH_done (by kernel_rfl) ?_ _
      refine NoPanic.normal ?_
      have hbb := hHeld.2.2.out
      clear hHeld
      go_wp2_with fail
      go_roundw
      case rel => exact ⟨k + 1, by omega, by go_num, hbb⟩
      case measure => simp [intOf]; omega
    · have hi : ¬ (k : Int) < n := by omega
      go_wp2
      go_ret
      exact ⟨rfl, hb⟩

set_option maxHeartbeats 4000000 in
theorem mark (s : Int) (B C g n cap : Nat) (zss : List (List Int)) (w : World) (h : HasR w B C g n zss) (hn : n ≤ 1048576) (ht : tot zss n ≤ 1048576) (hs0 : 0 ≤ s) (hs1 : s ≤ 50000000) :
    Calls Try.prog 64 #[.slice (some ⟨g, 0, none⟩) n cap, .int .i64 s] w fun e w' => e = .returned (.int .i64 (s + tot zss n)) ∧ Mid B C w w' := by
  obtain ⟨hz, hB, hg, hC, hf, gs, hc, hinc⟩ := h
  have HC : Hid (∀ k, k < n → w.cell? ⟨g, k, none⟩ = some (.slice (some ⟨gs k, 0, none⟩) (ln zss k) (ln zss k)) ∧ g < gs k ∧ gs k < C ∧ Has w B (gs k) 0 (ln zss k) (rw_ zss k)) := hc
  have HI : Hid (∀ j k, j < k → k < n → gs j < gs k) := hinc
  clear hc hinc hf
  go_enter Try.func64, Try.ntmps64
  go_wp2
  go_loopw [1, 5] (fun q i wr => ∃ k : Nat, k ≤ n ∧ i = .int .i64 k ∧ q = .int .i64 (s + tot zss k) ∧ Hid (∀ j, k ≤ j → j < n → wr.heap[gs j]? = w.heap[gs j]?) ∧ wr.heap[g]? = w.heap[g]? ∧ Mid B C w wr) (fun _ i _ => n - (intOf i).toNat)
  case atStart => exact ⟨0, Nat.zero_le _, rfl, by simp [tot], (fun j _ _ => rfl), rfl, ⟨rfl, rfl, rfl, Nat.le_refl _, fun _ _ _ => rfl⟩⟩
  case round =>
    obtain ⟨k, hk, rfl, rfl, HK, hgb, hb⟩ := hrel
    by_cases hlt : k < n
    · have hi : (k : Int) < n := by omega
      obtain ⟨c1, c2, c2', c3⟩ := HC.out k hlt
      have hl := tot_le zss (show k + 1 ≤ n from hlt)
      have ht2 : tot zss (k + 1) = tot zss k + ln zss k := rfl
      have c1' : wr.cell? ⟨g, k, none⟩ = some (.slice (some ⟨gs k, 0, none⟩) (ln zss k) (ln zss k)) := by rw [World.cell?_of_block (w := w) (a := ⟨g, k, none⟩) hgb]; exact c1
      have c3' : Hid (Has wr B (gs k) 0 (ln zss k) (rw_ zss k)) := by
        have e := HK.out k (Nat.le_refl _) hlt
        exact ⟨c3.1, c3.2.1, by have := hb.size; have := c3.2.2.1; omega, fun i hi => by rw [World.cell?_of_block (w := w) (a := ⟨gs k, 0 + i, none⟩) e]; exact c3.2.2.2.1 i hi, fun i hi => by rw [World.frozen?_of_block (w := w) (a := ⟨gs k, 0 + i, none⟩) e]; exact c3.2.2.2.2 i hi⟩
      have hlo := c3.2.1
      have hgl : g < wr.heap.size := by have := hb.size; omega
      clear c1 c3
      go_wp2_with fail
      refine (Ow.mark (s + tot zss k) B (gs k) 0 (ln zss k) (ln zss k) (rw_ zss k) _ c3'.out (by omega) (by omega) (by omega)).mono ?_
      rintro e w2 ⟨rfl, -, g2⟩
      have HK2 : Hid (∀ j, k + 1 ≤ j → j < n → w2.heap[gs j]? = w.heap[gs j]?) := fun j h1 h2 => by
        have q := HI.out k j (by omega) h2
        have q2 := (HC.out j h2).2.2.1
        rw [g2.block (gs j) (by have := hb.size; omega) (by simp; omega)]
        exact HK.out j (by omega) h2
      have hgb2 : w2.heap[g]? = w.heap[g]? := by rw [g2.block g hgl (by simp; omega)]; exact hgb
      have hb2 : Mid B C w w2 := hb.trans (Mid.of_grown g2 hlo c2')
      clear HK hgb g2 c3' c1'
      go_wp2_with fail
      go_roundw
      case rel => exact ⟨k + 1, by omega, by go_num, by rw [show (s + (tot zss k : Int) + (ln zss k : Int)) = s + tot zss (k + 1) by omega], HK2, hgb2, hb2⟩
      case measure => simp [intOf]; omega
    · have hi : ¬ (k : Int) < n := by omega
      have e : k = n := by omega
      subst e
      go_wp2
      go_ret
      exact ⟨rfl, hb⟩

end Go.Proofs.Ytnocmfhlmpgbmaa.Ss
