/-
  Slices of slices of int64s: whether two are alike; one that is marked.
-/
import Derived.Test.YtnocmfhlmpgbmaaGreatSS
import Derived.Deep.RegionHeld3
namespace Go.Proofs.YtnocmfhlmpgbmaaGreat.Ss
open Go.ChangeShapes Go.WideShapes Go.ChangeAt Go.RowKit
open Ls (el Row)
open Ow (Has)
set_option linter.unusedVariables false
set_option linter.unusedSimpArgs false

set_option maxHeartbeats 4000000 in
theorem eqInt64SS (a b : Option Addr) (n cap cap' : Nat) (zss : List (List Int)) (w : World) (hr : RowsAt w w.heap.size a n zss) (hs : RowsAt w w.heap.size b n zss) (hn : n ≤ 1048576) (ht : tot zss n ≤ 1048576) :
    Calls Tryz.prog 58 #[.slice a n cap, .slice b n cap'] w fun e w' => e = .returned (.bool true) ∧ Below w.heap.size w w' := by
  have ⟨hz, hrow⟩ := hr
  have ⟨_, hrow'⟩ := hs
  go_enter Tryz.func58, Tryz.ntmps58
  go_wp2
  go_loopw [5] (fun i w' => ∃ k : Nat, k ≤ n ∧ i = .int .i64 k ∧ Below w.heap.size w w') (fun i _ => n - (intOf i).toNat)
  case atStart => exact ⟨0, Nat.zero_le _, rfl, Below.refl _ _⟩
  case round =>
    obtain ⟨k, hk, rfl, hb⟩ := hrel
    by_cases hlt : k < n
    · have hi : (k : Int) < n := by omega
      have hln := ln_tot zss hlt
      rcases hrow with hrow | ⟨b1, o1, rfl, hB1, hc⟩
      · omega
      rcases hrow' with hrow' | ⟨b2, o2, rfl, hB2, hc'⟩
      · omega
      obtain ⟨ak, ck, hc1, hc2⟩ := hc k hlt
      obtain ⟨ek, fk, he1, he2⟩ := hc' k hlt
      have hc1w : wr.drew.cell? ⟨b1, o1 + k, none⟩ = some (.slice ak (ln zss k) ck) := by rw [hb.drew.cell (p := ⟨b1, o1 + k, none⟩) hB1]; exact hc1
      have he1w : wr.drew.cell? ⟨b2, o2 + k, none⟩ = some (.slice ek (ln zss k) fk) := by rw [hb.drew.cell (p := ⟨b2, o2 + k, none⟩) hB2]; exact he1
      go_wp2_with fail
      refine wp_region_noPanic ?_
      refine wp_region_held_drew (S := (fun w' => w'.cell? ⟨b1, o1 + k, none⟩ = some (.slice ak (ln zss k) ck) ∧ w'.cell? ⟨b2, o2 + k, none⟩ = some (.slice ek (ln zss k) fk) ∧ Hid (Below w.heap.size w w'))) (by kernel_rfl) ⟨hc1w, he1w, hb.drew⟩ (fun hHeld => ?_)
      refine wpAnyH_take (i := 0) (oi := { dst := some 17, op := Op.move (Operand.tmp 0), type := 29, pos := _, after := _, guard := none }) (v := ?ve1) rfl (by kernel_rfl) (by kernel_rfl) (by kernel_rfl) (fun _ _ _ h => h) (Or.inl ⟨by rfl, ?hye1⟩) (by assumption) ?reste1
      case hye1 => (intro w hSw; (try dsimp only at hSw); go_simp; first | done | with_reducible rfl)
      try simp only [Act.put, List.setIfInBounds_toArray, List.set_cons_zero, List.set_cons_succ]
      refine wpAnyH_take (i := 1) (oi := { dst := some 18, op := Op.move (Operand.tmp 5), type := 3, pos := _, after := _, guard := none }) (v := ?ve2) rfl (by kernel_rfl) (by kernel_rfl) (by kernel_rfl) (fun _ _ _ h => h) (Or.inl ⟨by rfl, ?hye2⟩) (by assumption) ?reste2
      case hye2 => (intro w hSw; (try dsimp only at hSw); go_simp; first | done | with_reducible rfl)
      try simp only [Act.put, List.setIfInBounds_toArray, List.set_cons_zero, List.set_cons_succ]
      refine wpAnyH_take (i := 2) (oi := { dst := some 19, op := Op.indexAddr 29 (Operand.tmp 17) (Operand.tmp 18), type := 0, pos := _, after := _, guard := none }) (v := ?ve3) rfl (by kernel_rfl) (by kernel_rfl) (by kernel_rfl) (fun _ _ _ h => h) (Or.inl ⟨by rfl, ?hye3⟩) (by assumption) ?reste3
      case hye3 => (intro w hSw; (try dsimp only at hSw); go_simp; first | done | with_reducible rfl)
      try simp only [Act.put, List.setIfInBounds_toArray, List.set_cons_zero, List.set_cons_succ]
      refine wpAnyH_take (i := 3) (oi := { dst := some 20, op := Op.load 26 (Operand.tmp 19), type := 26, pos := _, after := _, guard := none }) (v := ?ve4) rfl (by kernel_rfl) (by kernel_rfl) (by kernel_rfl) (fun _ _ _ h => h) (Or.inl ⟨by rfl, ?hye4⟩) (by assumption) ?reste4
      case hye4 => (intro w hSw; (try dsimp only at hSw); go_simp; first | done | with_reducible rfl)
      try simp only [Act.put, List.setIfInBounds_toArray, List.set_cons_zero, List.set_cons_succ]
      refine wpAnyH_take (i := 4) (oi := { dst := some 21, op := Op.move (Operand.tmp 1), type := 29, pos := _, after := _, guard := none }) (v := ?ve5) rfl (by kernel_rfl) (by kernel_rfl) (by kernel_rfl) (fun _ _ _ h => h) (Or.inl ⟨by rfl, ?hye5⟩) (by assumption) ?reste5
      case hye5 => (intro w hSw; (try dsimp only at hSw); go_simp; first | done | with_reducible rfl)
      try simp only [Act.put, List.setIfInBounds_toArray, List.set_cons_zero, List.set_cons_succ]
      refine wpAnyH_take (i := 5) (oi := { dst := some 22, op := Op.move (Operand.tmp 5), type := 3, pos := _, after := _, guard := none }) (v := ?ve6) rfl (by kernel_rfl) (by kernel_rfl) (by kernel_rfl) (fun _ _ _ h => h) (Or.inl ⟨by rfl, ?hye6⟩) (by assumption) ?reste6
      case hye6 => (intro w hSw; (try dsimp only at hSw); go_simp; first | done | with_reducible rfl)
      try simp only [Act.put, List.setIfInBounds_toArray, List.set_cons_zero, List.set_cons_succ]
      refine wpAnyH_take (i := 6) (oi := { dst := some 23, op := Op.indexAddr 29 (Operand.tmp 21) (Operand.tmp 22), type := 0, pos := _, after := _, guard := none }) (v := ?ve7) rfl (by kernel_rfl) (by kernel_rfl) (by kernel_rfl) (fun _ _ _ h => h) (Or.inl ⟨by rfl, ?hye7⟩) (by assumption) ?reste7
      case hye7 => (intro w hSw; (try dsimp only at hSw); go_simp; first | done | with_reducible rfl)
      try simp only [Act.put, List.setIfInBounds_toArray, List.set_cons_zero, List.set_cons_succ]
      refine wpAnyH_take (i := 7) (oi := { dst := some 24, op := Op.load 26 (Operand.tmp 23), type := 26, pos := _, after := _, guard := none }) (v := ?ve8) rfl (by kernel_rfl) (by kernel_rfl) (by kernel_rfl) (fun _ _ _ h => h) (Or.inl ⟨by rfl, ?hye8⟩) (by assumption) ?reste8
      case hye8 => (intro w hSw; (try dsimp only at hSw); go_simp; first | done | with_reducible rfl)
      try simp only [Act.put, List.setIfInBounds_toArray, List.set_cons_zero, List.set_cons_succ]
      refine wpAnyH_ready (rs := [8]) (by kernel_rfl) (by simp) ?_
      refine AllReadyH.cons (o := { dst := some 25, op := Op.call { callee := Callee.value (Operand.func 57), args := #[Operand.tmp 20, Operand.tmp 24], argTypes := #[26, 26] }, type := 4, pos := _, after := _, guard := none }) rfl (fun K hK => ?_) AllReadyH.nil
      go_simp
      refine (Ls.eqInt64S _ _ (ln zss k) _ _ (rw_ zss k) _ ((hc2.later hHeld.2.2.out (Nat.le_refl _)).more hHeld.2.2.out.size) ((he2.later hHeld.2.2.out (Nat.le_refl _)).more hHeld.2.2.out.size) (by omega)).mono ?_
      rintro e ve9 ⟨rfl, be9⟩
      have qe9 := hHeld.2.2.out.trans (be9.mono hHeld.2.2.out.size)
      have kve9 : (fun w' => w'.cell? ⟨b1, o1 + k, none⟩ = some (.slice ak (ln zss k) ck) ∧ w'.cell? ⟨b2, o2 + k, none⟩ = some (.slice ek (ln zss k) fk) ∧ Hid (Below w.heap.size w w')) ve9 := ⟨by rw [qe9.cell (p := ⟨b1, o1 + k, none⟩) hB1]; exact hc1, by rw [qe9.cell (p := ⟨b2, o2 + k, none⟩) hB2]; exact he1, qe9⟩
      try dsimp only
      refine hK.out _ _ kve9 (fun hHeld' => ?_)
      clear hK K hHeld
      have hHeld := hHeld'
      clear hHeld'
      try simp only [Act.put, List.setIfInBounds_toArray, List.set_cons_zero, List.set_cons_succ]
      refine wpAnyH_take (i := 9) (oi := { dst := some 26, op := Op.unOp UnOp.not 4 (Operand.tmp 25), type := 4, pos := _, after := _, guard := none }) (v := ?ve10) rfl (by kernel_rfl) (by kernel_rfl) (by kernel_rfl) (fun _ _ _ h => h) (Or.inl ⟨by rfl, ?hye10⟩) (by assumption) ?reste10
      case hye10 => (intro w hSw; (try dsimp only at hSw); go_simp; first | done | with_reducible rfl)
      try simp only [Act.put, List.setIfInBounds_toArray, List.set_cons_zero, List.set_cons_succ]
      refine wpAnyH_done (by kernel_rfl) ?_ _
      refine NoPanic.normal ?_
      have hbb := hHeld.2.2.out
      clear hHeld
      go_wp2_with fail
      go_roundw
      case rel => exact ⟨k + 1, by omega, by go_num, hbb⟩
      case measure => simp [intOf]; omega
    · have hi : ¬ (k : Int) < n := by omega
      go_wp2
      go_ret
      exact ⟨rfl, hb⟩

set_option maxHeartbeats 4000000 in
theorem mark (s : Int) (B C g n cap : Nat) (zss : List (List Int)) (w : World) (h : HasR w B C g n zss) (hn : n ≤ 1048576) (ht : tot zss n ≤ 1048576) (hs0 : 0 ≤ s) (hs1 : s ≤ 50000000) :
    Calls Tryz.prog 61 #[.slice (some ⟨g, 0, none⟩) n cap, .int .i64 s] w fun e w' => e = .returned (.int .i64 (s + tot zss n)) ∧ Mid B C w w' := by
  obtain ⟨hz, hB, hg, hC, hf, gs, hc, hinc⟩ := h
  have HC : Hid (∀ k, k < n → w.cell? ⟨g, k, none⟩ = some (.slice (some ⟨gs k, 0, none⟩) (ln zss k) (ln zss k)) ∧ g < gs k ∧ gs k < C ∧ Has w B (gs k) 0 (ln zss k) (rw_ zss k)) := hc
  have HI : Hid (∀ j k, j < k → k < n → gs j < gs k) := hinc
  clear hc hinc hf
  go_enter Tryz.func61, Tryz.ntmps61
  go_wp2
  go_loopw [1, 5] (fun q i wr => ∃ k : Nat, k ≤ n ∧ i = .int .i64 k ∧ q = .int .i64 (s + tot zss k) ∧ Hid (∀ j, k ≤ j → j < n → wr.heap[gs j]? = w.heap[gs j]?) ∧ wr.heap[g]? = w.heap[g]? ∧ Mid B C w wr) (fun _ i _ => n - (intOf i).toNat)
  case atStart => exact ⟨0, Nat.zero_le _, rfl, by simp [tot], (fun j _ _ => rfl), rfl, ⟨rfl, rfl, rfl, Nat.le_refl _, fun _ _ _ => rfl⟩⟩
  case round =>
    obtain ⟨k, hk, rfl, rfl, HK, hgb, hb⟩ := hrel
    by_cases hlt : k < n
    · have hi : (k : Int) < n := by omega
      obtain ⟨c1, c2, c2', c3⟩ := HC.out k hlt
      have hl := tot_le zss (show k + 1 ≤ n from hlt)
      have ht2 : tot zss (k + 1) = tot zss k + ln zss k := rfl
      have c1' : wr.cell? ⟨g, k, none⟩ = some (.slice (some ⟨gs k, 0, none⟩) (ln zss k) (ln zss k)) := by rw [World.cell?_of_block (w := w) (a := ⟨g, k, none⟩) hgb]; exact c1
      have c3' : Hid (Has wr B (gs k) 0 (ln zss k) (rw_ zss k)) := by
        have e := HK.out k (Nat.le_refl _) hlt
        exact ⟨c3.1, c3.2.1, by have := hb.size; have := c3.2.2.1; omega, fun i hi => by rw [World.cell?_of_block (w := w) (a := ⟨gs k, 0 + i, none⟩) e]; exact c3.2.2.2.1 i hi, fun i hi => by rw [World.frozen?_of_block (w := w) (a := ⟨gs k, 0 + i, none⟩) e]; exact c3.2.2.2.2 i hi⟩
      have hlo := c3.2.1
      have hgl : g < wr.heap.size := by have := hb.size; omega
      clear c1 c3
      go_wp2_with fail
      refine (Ow.mark (s + tot zss k) B (gs k) 0 (ln zss k) (ln zss k) (rw_ zss k) _ c3'.out (by omega) (by omega) (by omega)).mono ?_
      rintro e w2 ⟨rfl, -, g2⟩
      have HK2 : Hid (∀ j, k + 1 ≤ j → j < n → w2.heap[gs j]? = w.heap[gs j]?) := fun j h1 h2 => by
        have q := HI.out k j (by omega) h2
        have q2 := (HC.out j h2).2.2.1
        rw [g2.block (gs j) (by have := hb.size; omega) (by simp; omega)]
        exact HK.out j (by omega) h2
      have hgb2 : w2.heap[g]? = w.heap[g]? := by rw [g2.block g hgl (by simp; omega)]; exact hgb
      have hb2 : Mid B C w w2 := hb.trans (Mid.of_grown g2 hlo c2')
      clear HK hgb g2 c3' c1'
      go_wp2_with fail
      go_roundw
      case rel => exact ⟨k + 1, by omega, by go_num, by rw [show (s + (tot zss k : Int) + (ln zss k : Int)) = s + tot zss (k + 1) by omega], HK2, hgb2, hb2⟩
      case measure => simp [intOf]; omega
    · have hi : ¬ (k : Int) < n := by omega
      have e : k = n := by omega
      subst e
      go_wp2
      go_ret
      exact ⟨rfl, hb⟩

end Go.Proofs.YtnocmfhlmpgbmaaGreat.Ss
