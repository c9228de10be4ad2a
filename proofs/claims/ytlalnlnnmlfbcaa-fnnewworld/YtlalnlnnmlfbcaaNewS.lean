/-
  spec.NewWorld: a new world, in new memory, or the zero world.
-/
import Derived.Test.YtlalnlnnmlfbcaaNewI
import Derived.Test.YtlalnlnnmlfbcaaPut
import Derived.Deep.RegionHeld3
import Derived.Deep.Cut
namespace Go.Proofs.Ytlalnlnnmlfbcaa.Wl
open Go.ChangeShapes Go.WideShapes Go.ChangeAt Go.RowKit
open Ls (el Row)
open Rm (Room)
open Ow (Has Own ints)
open Rd (Flags)
open Bo (eb HasB)
open Cf (cfg CP)
set_option linter.unusedVariables false
set_option linter.unusedSimpArgs false

theorem Room.other' {w w1 : World} {row : Option Nat} {g : Nat} {vs : List Value} (h : Room w g vs) (hg : w.grownBy w1 row) (hne : row ≠ some g) : Room w1 g vs := by
  by_cases hn : 0 < vs.length
  · exact h.block (hg.block g (h.lt hn) (fun e => hne e.symm))
  · intro i v hv
    have : vs = [] := List.eq_nil_of_length_eq_zero (by omega)
    subst this; cases hv
theorem Has.kept' {w w' : World} {row : Option Nat} {B g off n : Nat} {zs : List Int} (h : Has w B g off n zs) (hg : w.grownBy w' row) (hne : row ≠ some g) : Has w' B g off n zs := by
  have e : w'.heap[g]? = w.heap[g]? := hg.block g h.2.2.1 (fun e => hne e.symm)
  exact ⟨h.1, h.2.1, by have := hg.size; have := h.2.2.1; omega, fun k hk => by rw [World.cell?_of_block (w := w) (a := ⟨g, off + k, none⟩) e]; exact h.2.2.2.1 k hk, fun k hk => by rw [World.frozen?_of_block (w := w) (a := ⟨g, off + k, none⟩) e]; exact h.2.2.2.2 k hk⟩
theorem own_ge {w : World} {B n : Nat} {v : Value} {xs : List Value} (h : w.ownsRow B 2 1 v n xs) (g : Nat) (e : v.ownBlock = some g) : B ≤ g ∧ g < w.heap.size := by
  rcases h.2 with ⟨h2, _⟩ | ⟨g', cap', cur, h2, hB, hb, _⟩
  · rw [h2] at e; cases e
  · rw [h2] at e
    have e2 : g' = g := Option.some.inj e
    subst e2
    exact ⟨hB, (Array.getElem?_eq_some_iff.1 hb).1⟩
theorem own_any {w : World} {B n : Nat} {v : Value} {zs : List Int} (hz : zs.length = n) (h : w.ownsRow B 2 1 v n (ints zs)) : ∃ a c, v = .slice a n c ∧ Row w w.heap.size a n zs ∧ (0 < n → ∃ g, a = some ⟨g, 0, none⟩ ∧ Own w B g n c zs) := by
  rcases h.2 with ⟨h2, h3⟩ | ⟨g', cap', cur, h2, hB, hb, h4⟩
  · have h0 : n = 0 := by
      have := h.1
      rw [Ow.ints_len] at this
      first | omega | (rw [h3] at *; simp at *; omega)
    subst h0
    exact ⟨none, 0, h2, ⟨hz, .inl rfl⟩, fun q => by omega⟩
  · subst h2
    have ho : Own w B g' n cap' zs := h
    exact ⟨_, _, rfl, ho.row, fun _ => ⟨g', rfl, ho⟩⟩
theorem take_el (zs : List Int) (j : Nat) (h : j < zs.length) : zs.take (j + 1) = zs.take j ++ [el zs j] := by
  rw [List.take_add_one, List.getElem?_eq_getElem h]
  simp [el, List.getD, h]
theorem own_set {w : World} {B X o n : Nat} {v u : Value} {xs : List Value} (h : w.ownsRow B 2 1 v n xs) (hX : X < B) : (w.setCell ⟨X, o, none⟩ u).ownsRow B 2 1 v n xs := by
  refine ⟨h.1, ?_⟩
  rcases h.2 with h2 | ⟨g', cap', cur, e, hB, hb', rest⟩
  · exact .inl h2
  · exact .inr ⟨g', cap', cur, e, hB, by rw [Below.heap_setCell _ _ _ _ (by simp; omega)]; exact hb', rest⟩
theorem wo_pos {n l d r p s : Int} {ks os : List Int} {k m : Nat} {t : Int} (h : WO n l d r p s ks k os m t = true) : 0 < k := by
  unfold WO at h
  simp only [Bool.and_eq_true, beq_iff_eq] at h
  have h1 := Cf.n1_iff.1 (Cf.cr_zero.1 (Cf.cp_zero.1 h.1).1).1
  have h2 := h.2.1.1
  omega

set_option maxHeartbeats 8000000 in
theorem s_NewWorld (n l d r p s : Int) (b off m mb : Nat) (a : Option Addr) (k ka : Nat) (bs : List Bool) (os : List Int) (w : World) (hz : os.length = m) (hc : ∀ j, j < m → w.cell? ⟨b, off + j, none⟩ = some (.int .i64 (el os j))) (hb : b < w.heap.size) (hr : Flags w w.heap.size a k bs) (hk : k ≤ 1048576) (hm : m ≤ 1048576) :
    Calls Try.prog 12 #[cfg n l d r p s, .slice (some ⟨b, off, none⟩) m mb, .slice a k ka] w fun e w' => ((WO n l d r p s (KL bs) k os m 0 = false → e = .returned (.tuple #[wld 0 0 0 0 0 0 (.slice none 0 0) (.slice none 0 0) 0, .bool false])) ∧ (WO n l d r p s (KL bs) k os m 0 = true → ∃ g h c c', e = .returned (.tuple #[wld n l d r p s (.slice (some ⟨g, 0, none⟩) k c) (.slice (some ⟨h, 0, none⟩) m c') 0, .bool true]) ∧ Has w' w.heap.size g 0 k (KL bs) ∧ Has w' w.heap.size h 0 m os ∧ g ≠ h ∧ k ≤ c ∧ m ≤ c')) ∧ Below w.heap.size w w' := by
  obtain ⟨i0, hi0, hz0, hz1, hz2⟩ := info_parts Ls.info
  have hkl := kl_len bs
  have R0 := (Room.new w [.int .i64 n, .int .i64 l, .int .i64 d, .int .i64 r, .int .i64 p, .int .i64 s] 25).alloc (.cells #[.int .i64 0, .int .i64 0, .int .i64 0, .int .i64 0, .int .i64 0, .int .i64 0, .slice none 0 0, .slice none 0 0, .int .i64 0] 31)
  have RR : Room ((w.alloc (.cells #[.int .i64 n, .int .i64 l, .int .i64 d, .int .i64 r, .int .i64 p, .int .i64 s] 25)).alloc (.cells #[.int .i64 0, .int .i64 0, .int .i64 0, .int .i64 0, .int .i64 0, .int .i64 0, .slice none 0 0, .slice none 0 0, .int .i64 0] 31)) (w.heap.size + 1) z9 := Room.at _ z9 31 _ (by simp)
  have BB := ((Below.refl w.heap.size w).alloc (Nat.le_refl _) (.cells #[.int .i64 n, .int .i64 l, .int .i64 d, .int .i64 r, .int .i64 p, .int .i64 s] 25)).alloc (by simp) (.cells #[.int .i64 0, .int .i64 0, .int .i64 0, .int .i64 0, .int .i64 0, .int .i64 0, .slice none 0 0, .slice none 0 0, .int .i64 0] 31)
  have zz : w.heap.size + 2 ≤ ((w.alloc (.cells #[.int .i64 n, .int .i64 l, .int .i64 d, .int .i64 r, .int .i64 p, .int .i64 s] 25)).alloc (.cells #[.int .i64 0, .int .i64 0, .int .i64 0, .int .i64 0, .int .i64 0, .int .i64 0, .slice none 0 0, .slice none 0 0, .int .i64 0] 31)).heap.size := by simp
  go_enter Try.func12, Try.ntmps12
  go_wp2_with fail
  generalize (w.alloc (.cells #[.int .i64 n, .int .i64 l, .int .i64 d, .int .i64 r, .int .i64 p, .int .i64 s] 25)).alloc (.cells #[.int .i64 0, .int .i64 0, .int .i64 0, .int .i64 0, .int .i64 0, .int .i64 0, .slice none 0 0, .slice none 0 0, .int .i64 0] 31) = w1 at R0 RR BB zz ⊢
  have S0 := s6 R0 BB
  replace RR := RR.drew
  replace zz : w.heap.size + 2 ≤ w1.drew.heap.size := zz
  clear R0 BB
  go_cut [8] from 10 (fun p8 wc => ∃ X gO cO : Nat, p8 = .pointer (some ⟨X, 0, none⟩) ∧ Hid (Room wc X (c9 n l d r p s (.slice none 0 0) (.slice (some ⟨gO, 0, none⟩) m cO) 0) ∧ Room wc (w.heap.size + 1) z9 ∧ Has wc w.heap.size gO 0 m os ∧ m ≤ cO ∧ w.heap.size + 1 < X ∧ w.heap.size + 1 ≠ gO ∧ gO ≠ X ∧ Below w.heap.size w wc))
  case first =>
    refine wp_region_noPanic ?_
    refine wp_region_held_drew (S := (fun w' => w'.cell? ⟨w.heap.size, 0, none⟩ = some (.int .i64 n) ∧ w'.cell? ⟨w.heap.size, 1, none⟩ = some (.int .i64 l) ∧ w'.cell? ⟨w.heap.size, 2, none⟩ = some (.int .i64 d) ∧ w'.cell? ⟨w.heap.size, 3, none⟩ = some (.int .i64 r) ∧ w'.cell? ⟨w.heap.size, 4, none⟩ = some (.int .i64 p) ∧ w'.cell? ⟨w.heap.size, 5, none⟩ = some (.int .i64 s) ∧ Hid (Below w.heap.size w w'))) (by kernel_rfl) (S6.keep S0 (Below.refl _ _).drew (World.block_lt_of_cell? _ _ S0.1)) (fun hHeld => ?_)
    generalize w1.drew = w1d at hHeld RR zz ⊢
    refine wpAnyH_take (i := 0) (oi := { dst := some 10, op := Op.load 25 (Operand.tmp 3), type := 25, pos := _, after := _, guard := none }) (v := ?vs1) rfl (by kernel_rfl) (by kernel_rfl) (by kernel_rfl) (fun _ _ _ h => h) (Or.inl ⟨by rfl, ?hys1⟩) (by assumption) ?rests1
    case hys1 => (intro w hSw; (try dsimp only at hSw); go_simp; first | done | with_reducible rfl)
    try simp only [Act.put, List.setIfInBounds_toArray, List.set_cons_zero, List.set_cons_succ]
    refine wpAnyH_take (i := 1) (oi := { dst := some 11, op := Op.move (Operand.tmp 1), type := 26, pos := _, after := _, guard := none }) (v := ?vs2) rfl (by kernel_rfl) (by kernel_rfl) (by kernel_rfl) (fun _ _ _ h => h) (Or.inl ⟨by rfl, ?hys2⟩) (by assumption) ?rests2
    case hys2 => (intro w hSw; (try dsimp only at hSw); go_simp; first | done | with_reducible rfl)
    try simp only [Act.put, List.setIfInBounds_toArray, List.set_cons_zero, List.set_cons_succ]
    refine wpAnyH_ready (rs := [2, 4]) (by kernel_rfl) (by simp) ?_
    refine (AllReadyH.cons (o := { dst := some 12, op := Op.call { callee := Callee.value (Operand.func 43), args := #[Operand.tmp 11], argTypes := #[26] }, type := 26, pos := _, after := _, guard := none }) rfl (fun K hK => ?_) (AllReadyH.cons (o := { dst := some 8, op := Op.alloc 31, type := 0, pos := _, after := _, guard := none }) rfl (fun K hK => ?_) AllReadyH.nil))
    · go_simp
      refine (l1Copy b off m mb os _ hz (fun j hj => by rw [hHeld.2.2.2.2.2.2.out.cell (p := ⟨b, off + j, none⟩) hb]; exact hc j hj) hm (by have := hHeld.2.2.2.2.2.2.out.size; omega)).mono ?_
      rintro e wO ⟨⟨gO, cO, rfl, oO⟩, bs3⟩
      have zs3 := bs3.size
      have kvs3 := S6.keep hHeld bs3 (World.block_lt_of_cell? _ _ hHeld.1)
      replace RR := RR.below bs3
      have lRs3 := RR.lt (by simp)
      have pO := oO.has
      have loO := pO.2.1
      have hiO := pO.2.2.1
      have hcO := oO.data.2.2.1
      clear oO
      clear bs3
      try dsimp only
      refine hK.out _ _ kvs3 (fun hHeld' => ?_)
      clear hK K hHeld
      have hHeld := hHeld'
      clear hHeld'
      try simp only [Act.put, List.setIfInBounds_toArray, List.set_cons_zero, List.set_cons_succ]
      refine wpAnyH_take (i := 3) (oi := { dst := some 13, op := Op.build 31 #[(0, Operand.tmp 10), (2, Operand.tmp 12)], type := 31, pos := _, after := _, guard := none }) (v := ?vs4) rfl (by kernel_rfl) (by kernel_rfl) (by kernel_rfl) (fun _ _ _ h => h) (Or.inl ⟨by rfl, ?hys4⟩) (by assumption) ?rests4
      case hys4 => (intro w hSw; (try dsimp only at hSw); go_simp; first | done | with_reducible rfl)
      try simp only [Act.put, List.setIfInBounds_toArray, List.set_cons_zero, List.set_cons_succ]
      refine wpAnyH_ready (rs := [4]) (by kernel_rfl) (by simp) ?_
      refine AllReadyH.cons (o := { dst := some 8, op := Op.alloc 31, type := 0, pos := _, after := _, guard := none }) rfl (fun K hK => ?_) AllReadyH.nil
      go_simp
      have bs5 := (Below.refl wO.heap.size wO).alloc (Nat.le_refl _) (.cells #[.int .i64 0, .int .i64 0, .int .i64 0, .int .i64 0, .int .i64 0, .int .i64 0, .slice none 0 0, .slice none 0 0, .int .i64 0] 31)
      have RX := Room.new wO z9 31
      have lX := RX.lt (by simp)
      have kvs5 := S6.keep hHeld bs5 (World.block_lt_of_cell? _ _ hHeld.1)
      have lRs5 := RR.lt (by simp)
      replace RR := RR.below bs5
      have us5pO := pO.2.2.1
      replace pO := pO.later bs5 pO.2.2.1
      clear bs5
      obtain ⟨X, hX⟩ : ∃ X, X = wO.heap.size := ⟨_, rfl⟩
      rw [← hX] at RX lX us5pO ⊢
      generalize wO.alloc (.cells #[.int .i64 0, .int .i64 0, .int .i64 0, .int .i64 0, .int .i64 0, .int .i64 0, .slice none 0 0, .slice none 0 0, .int .i64 0] 31) = wX at kvs5 RX RR lX pO ⊢
      have zs5 : w.heap.size + 2 ≤ X := by rw [hX]; first | exact zz | (simp only [World.size_drew] at *; omega) | omega
      clear hX
      try dsimp only
      refine hK.out _ _ kvs5 (fun hHeld' => ?_)
      clear hK K hHeld
      have hHeld := hHeld'
      clear hHeld'
      try simp only [Act.put, List.setIfInBounds_toArray, List.set_cons_zero, List.set_cons_succ]
      refine wpAnyH_ready (rs := [5]) (by kernel_rfl) (by simp) ?_
      refine AllReadyH.cons (o := { dst := none, op := Op.store 31 (Operand.tmp 8) (Operand.tmp 13), type := 0, pos := _, after := _, guard := none }) rfl (fun K hK => ?_) AllReadyH.nil
      have f0 := RX.froz 0 rfl
      have f1 := RX.froz 1 rfl
      have f2 := RX.froz 2 rfl
      have f3 := RX.froz 3 rfl
      have f4 := RX.froz 4 rfl
      have f5 := RX.froz 5 rfl
      have f6 := RX.froz 6 rfl
      have f7 := RX.froz 7 rfl
      have f8 := RX.froz 8 rfl
      have e0 := RX.cell 0 rfl
      have e1 := RX.cell 1 rfl
      have e2 := RX.cell 2 rfl
      have e3 := RX.cell 3 rfl
      have e4 := RX.cell 4 rfl
      have e5 := RX.cell 5 rfl
      have e6 := RX.cell 6 rfl
      have e7 := RX.cell 7 rfl
      have e8 := RX.cell 8 rfl
      go_simp
      have bs6 := Rm.belowOver9 wX X (.int .i64 n) (.int .i64 l) (.int .i64 d) (.int .i64 r) (.int .i64 p) (.int .i64 s) (.slice none 0 0) (.slice (some ⟨gO, 0, none⟩) m cO) (.int .i64 0)
      have kvs6 := S6.keep hHeld bs6 (by omega)
      have RX9 := Rm.over9 RX (.int .i64 n) (.int .i64 l) (.int .i64 d) (.int .i64 r) (.int .i64 p) (.int .i64 s) (.slice none 0 0) (.slice (some ⟨gO, 0, none⟩) m cO) (.int .i64 0)
      replace RR := (((((((((RR.setOther (q := X) (by omega) 0 (.int .i64 n)).setOther (q := X) (by omega) 1 (.int .i64 l)).setOther (q := X) (by omega) 2 (.int .i64 d)).setOther (q := X) (by omega) 3 (.int .i64 r)).setOther (q := X) (by omega) 4 (.int .i64 p)).setOther (q := X) (by omega) 5 (.int .i64 s)).setOther (q := X) (by omega) 6 (.slice none 0 0)).setOther (q := X) (by omega) 7 (.slice (some ⟨gO, 0, none⟩) m cO)).setOther (q := X) (by omega) 8 (.int .i64 0))
      replace pO := (((((((((pO.setOther (q := X) (by omega) 0 (.int .i64 n)).setOther (q := X) (by omega) 1 (.int .i64 l)).setOther (q := X) (by omega) 2 (.int .i64 d)).setOther (q := X) (by omega) 3 (.int .i64 r)).setOther (q := X) (by omega) 4 (.int .i64 p)).setOther (q := X) (by omega) 5 (.int .i64 s)).setOther (q := X) (by omega) 6 (.slice none 0 0)).setOther (q := X) (by omega) 7 (.slice (some ⟨gO, 0, none⟩) m cO)).setOther (q := X) (by omega) 8 (.int .i64 0))
      clear RX bs6 e0 f0 e1 f1 e2 f2 e3 f3 e4 f4 e5 f5 e6 f6 e7 f7 e8 f8
      try dsimp only
      refine hK.out _ _ kvs6 (fun hHeld' => ?_)
      clear hK K hHeld
      have hHeld := hHeld'
      clear hHeld'
      try simp only [Act.put, List.setIfInBounds_toArray, List.set_cons_zero, List.set_cons_succ]
      refine wpAnyH_done (by kernel_rfl) ?_ _
      refine NoPanic.normal ?_
      have BB := hHeld.2.2.2.2.2.2.out
      clear hHeld
      go_wp2_with fail
      go_meet
      case rel => exact ⟨X, gO, cO, rfl, RX9, RR, pO.mono (by omega), hcO, by omega, by omega, by omega, BB⟩
    · go_simp
      have bs7 := (Below.refl w1d.heap.size w1d).alloc (Nat.le_refl _) (.cells #[.int .i64 0, .int .i64 0, .int .i64 0, .int .i64 0, .int .i64 0, .int .i64 0, .slice none 0 0, .slice none 0 0, .int .i64 0] 31)
      have RX := Room.new w1d z9 31
      have lX := RX.lt (by simp)
      have kvs7 := S6.keep hHeld bs7 (World.block_lt_of_cell? _ _ hHeld.1)
      have lRs7 := RR.lt (by simp)
      replace RR := RR.below bs7
      clear bs7
      obtain ⟨X, hX⟩ : ∃ X, X = w1d.heap.size := ⟨_, rfl⟩
      rw [← hX] at RX lX ⊢
      generalize w1d.alloc (.cells #[.int .i64 0, .int .i64 0, .int .i64 0, .int .i64 0, .int .i64 0, .int .i64 0, .slice none 0 0, .slice none 0 0, .int .i64 0] 31) = wX at kvs7 RX RR lX ⊢
      have zs7 : w.heap.size + 2 ≤ X := by rw [hX]; first | exact zz | (simp only [World.size_drew] at *; omega) | omega
      clear hX
      try dsimp only
      refine hK.out _ _ kvs7 (fun hHeld' => ?_)
      clear hK K hHeld
      have hHeld := hHeld'
      clear hHeld'
      try simp only [Act.put, List.setIfInBounds_toArray, List.set_cons_zero, List.set_cons_succ]
      refine wpAnyH_ready (rs := [2]) (by kernel_rfl) (by simp) ?_
      refine AllReadyH.cons (o := { dst := some 12, op := Op.call { callee := Callee.value (Operand.func 43), args := #[Operand.tmp 11], argTypes := #[26] }, type := 26, pos := _, after := _, guard := none }) rfl (fun K hK => ?_) AllReadyH.nil
      go_simp
      refine (l1Copy b off m mb os _ hz (fun j hj => by rw [hHeld.2.2.2.2.2.2.out.cell (p := ⟨b, off + j, none⟩) hb]; exact hc j hj) hm (by have := hHeld.2.2.2.2.2.2.out.size; omega)).mono ?_
      rintro e wO ⟨⟨gO, cO, rfl, oO⟩, bs8⟩
      have zs8 := bs8.size
      have kvs8 := S6.keep hHeld bs8 (World.block_lt_of_cell? _ _ hHeld.1)
      replace RR := RR.below bs8
      have lRs8 := RR.lt (by simp)
      replace RX := RX.below bs8
      have pO := oO.has
      have loO := pO.2.1
      have hiO := pO.2.2.1
      have hcO := oO.data.2.2.1
      clear oO
      clear bs8
      try dsimp only
      refine hK.out _ _ kvs8 (fun hHeld' => ?_)
      clear hK K hHeld
      have hHeld := hHeld'
      clear hHeld'
      try simp only [Act.put, List.setIfInBounds_toArray, List.set_cons_zero, List.set_cons_succ]
      refine wpAnyH_take (i := 3) (oi := { dst := some 13, op := Op.build 31 #[(0, Operand.tmp 10), (2, Operand.tmp 12)], type := 31, pos := _, after := _, guard := none }) (v := ?vs9) rfl (by kernel_rfl) (by kernel_rfl) (by kernel_rfl) (fun _ _ _ h => h) (Or.inl ⟨by rfl, ?hys9⟩) (by assumption) ?rests9
      case hys9 => (intro w hSw; (try dsimp only at hSw); go_simp; first | done | with_reducible rfl)
      try simp only [Act.put, List.setIfInBounds_toArray, List.set_cons_zero, List.set_cons_succ]
      refine wpAnyH_ready (rs := [5]) (by kernel_rfl) (by simp) ?_
      refine AllReadyH.cons (o := { dst := none, op := Op.store 31 (Operand.tmp 8) (Operand.tmp 13), type := 0, pos := _, after := _, guard := none }) rfl (fun K hK => ?_) AllReadyH.nil
      have f0 := RX.froz 0 rfl
      have f1 := RX.froz 1 rfl
      have f2 := RX.froz 2 rfl
      have f3 := RX.froz 3 rfl
      have f4 := RX.froz 4 rfl
      have f5 := RX.froz 5 rfl
      have f6 := RX.froz 6 rfl
      have f7 := RX.froz 7 rfl
      have f8 := RX.froz 8 rfl
      have e0 := RX.cell 0 rfl
      have e1 := RX.cell 1 rfl
      have e2 := RX.cell 2 rfl
      have e3 := RX.cell 3 rfl
      have e4 := RX.cell 4 rfl
      have e5 := RX.cell 5 rfl
      have e6 := RX.cell 6 rfl
      have e7 := RX.cell 7 rfl
      have e8 := RX.cell 8 rfl
      go_simp
      have bs10 := Rm.belowOver9 wO X (.int .i64 n) (.int .i64 l) (.int .i64 d) (.int .i64 r) (.int .i64 p) (.int .i64 s) (.slice none 0 0) (.slice (some ⟨gO, 0, none⟩) m cO) (.int .i64 0)
      have kvs10 := S6.keep hHeld bs10 (by omega)
      have RX9 := Rm.over9 RX (.int .i64 n) (.int .i64 l) (.int .i64 d) (.int .i64 r) (.int .i64 p) (.int .i64 s) (.slice none 0 0) (.slice (some ⟨gO, 0, none⟩) m cO) (.int .i64 0)
      replace RR := (((((((((RR.setOther (q := X) (by omega) 0 (.int .i64 n)).setOther (q := X) (by omega) 1 (.int .i64 l)).setOther (q := X) (by omega) 2 (.int .i64 d)).setOther (q := X) (by omega) 3 (.int .i64 r)).setOther (q := X) (by omega) 4 (.int .i64 p)).setOther (q := X) (by omega) 5 (.int .i64 s)).setOther (q := X) (by omega) 6 (.slice none 0 0)).setOther (q := X) (by omega) 7 (.slice (some ⟨gO, 0, none⟩) m cO)).setOther (q := X) (by omega) 8 (.int .i64 0))
      replace pO := (((((((((pO.setOther (q := X) (by omega) 0 (.int .i64 n)).setOther (q := X) (by omega) 1 (.int .i64 l)).setOther (q := X) (by omega) 2 (.int .i64 d)).setOther (q := X) (by omega) 3 (.int .i64 r)).setOther (q := X) (by omega) 4 (.int .i64 p)).setOther (q := X) (by omega) 5 (.int .i64 s)).setOther (q := X) (by omega) 6 (.slice none 0 0)).setOther (q := X) (by omega) 7 (.slice (some ⟨gO, 0, none⟩) m cO)).setOther (q := X) (by omega) 8 (.int .i64 0))
      clear RX bs10 e0 f0 e1 f1 e2 f2 e3 f3 e4 f4 e5 f5 e6 f6 e7 f7 e8 f8
      try dsimp only
      refine hK.out _ _ kvs10 (fun hHeld' => ?_)
      clear hK K hHeld
      have hHeld := hHeld'
      clear hHeld'
      try simp only [Act.put, List.setIfInBounds_toArray, List.set_cons_zero, List.set_cons_succ]
      refine wpAnyH_done (by kernel_rfl) ?_ _
      refine NoPanic.normal ?_
      have BB := hHeld.2.2.2.2.2.2.out
      clear hHeld
      go_wp2_with fail
      go_meet
      case rel => exact ⟨X, gO, cO, rfl, RX9, RR, pO.mono (by omega), hcO, by omega, by omega, by omega, BB⟩
  case rest =>
    obtain ⟨X, gO, cO, rfl, H⟩ := hcut
    obtain ⟨RX, RR, pO, hcO, hX, hneO, hOX, BB⟩ := H.out
    clear H
    have lX := RX.lt (by simp)
    have lR := RR.lt (by simp)
    have lO := pO.2.2.1
    obtain ⟨hzb, hrow⟩ := hr
    have HI : Hid (Room wc X (c9 n l d r p s (.slice none 0 0) (.slice (some ⟨gO, 0, none⟩) m cO) 0) ∧ Room wc (w.heap.size + 1) z9 ∧ Has wc w.heap.size gO 0 m os ∧ Below w.heap.size w wc) := ⟨RX, RR, pO, BB⟩
    clear RX RR pO BB
    go_wp2_with fail
    go_loopw [9] (fun q wr => ∃ (j : Nat) (v : Value), j ≤ k ∧ q = .int .i64 (j : Int) ∧ wc.heap.size ≤ wr.heap.size ∧ Hid (wr.ownsRow wc.heap.size 2 1 v j (ints ((KL bs).take j))) ∧ Hid (Room wr X (c9 n l d r p s (v) (.slice (some ⟨gO, 0, none⟩) m cO) 0) ∧ Room wr (w.heap.size + 1) z9 ∧ Has wr w.heap.size gO 0 m os ∧ Below w.heap.size w wr)) (fun q _ => k - (intOf q).toNat)
    case atStart => exact ⟨0, _, Nat.zero_le _, rfl, Nat.le_refl _, ⟨rfl, .inl ⟨rfl, by simp⟩⟩, HI.out⟩
    case round =>
      obtain ⟨j, v, hj, rfl, hsz, HO, HR⟩ := hrel
      obtain ⟨RX, RR, pO, BB⟩ := HR.out
      clear HR
      have lX1 := RX.lt (by simp)
      by_cases hlt : j < k
      · have hi : (j : Int) < k := by omega
        rcases hrow with hrow | ⟨bb, ob, rfl, hB, hcb⟩
        · omega
        have hc1 : w.cell? ⟨bb, ob + j, none⟩ = some (.bool (eb bs j)) := hcb j hlt
        rw [← BB.cell (p := ⟨bb, ob + j, none⟩) hB] at hc1
        have E0 : Hid ((KL bs).take (j + 1) = (KL bs).take j ++ [el (KL bs) j]) := take_el (KL bs) j (by omega)
        have hel := kl_el bs j
        have x6 := RX.cell 6 rfl
        have f6 := RX.froz 6 rfl
        cases hx : eb bs j with
        | true =>
          rw [hx] at hc1 hel
          have E : Hid ((KL bs).take (j + 1) = (KL bs).take j ++ [2]) := by unfold Hid; rw [E0.out, hel]; rfl
          clear hel E0
          go_wp2_with (at_builtin; refine wpList_append_own _ rfl (.tmp 25) (.tmp 26) 26 rfl wc.heap.size 2 i0 (.int .i64 0) 1 8 Try.underlying26 hi0 hz0 hz1 hz2 rfl (by decide) v j _ rfl (World.ownsRow.alloc (w := wr) HO.out _) ⟨wr.heap.size, 0, none⟩ 1 1 (ints [(2 : Int)]) rfl rfl (Ow.one_new wr (2 : Int) _ _ rfl) (Ow.one _) (by unfold maxLen; omega) (by omega) (by simp; omega) ?_; intro v2 w2 hx2 hg2 hn2; have hne := fun g => own_ge HO.out g; have RX2 := Room.other' (RX.alloc _) hg2 (fun e => (by have := hne _ e; omega)); have RR2 := Room.other' (RR.alloc _) hg2 (fun e => (by have := hne _ e; omega)); have pO2 := Has.kept' (pO.later ((Below.refl _ wr).alloc (Nat.le_refl _) _) pO.2.2.1) hg2 (fun e => (by have := hne _ e; omega)); have BB2 : Below w.heap.size w w2 := (BB.alloc BB.size _).grown hg2 (by have := BB.size; simp; omega) (fun g e => (by have := hne g e; have := BB.size; omega)); have hs2 := hg2.size; simp at hs2; have HN : Hid (w2.ownsRow wc.heap.size 2 1 v2 (j + 1) (ints ((KL bs).take (j + 1)))) := (by unfold Hid; rw [E.out]; simpa [ints] using hx2); obtain ⟨a2, c2, rfl, -, -⟩ := own_any (n := j + 1) (zs := (KL bs).take (j + 1)) (by simp; omega) HN.out; clear hx2 hg2 hn2 hne HO RX RR pO BB x6 f6; have x6 := RX2.cell 6 rfl; have f6 := RX2.froz 6 rfl; have lX2 := RX2.lt (by simp); have RX3 := RX2.set 6 (.slice a2 (j + 1) c2); have RR3 := RR2.setOther (q := X) (by omega) 6 (.slice a2 (j + 1) c2); have pO3 := pO2.setOther (q := X) (by omega) 6 (.slice a2 (j + 1) c2); have BB3 := BB2.setCell (p := ⟨X, 6, none⟩) (by simp; omega) (.slice a2 (j + 1) c2); have HN3 : Hid ((w2.setCell ⟨X, 6, none⟩ (.slice a2 (j + 1) c2)).ownsRow wc.heap.size 2 1 (.slice a2 (j + 1) c2) (j + 1) (ints ((KL bs).take (j + 1)))) := own_set HN.out lX; clear HN)
          go_roundw
          case rel => exact ⟨j + 1, _, by omega, by go_num, by simp; omega, HN3, RX3, RR3, pO3, BB3⟩
          case measure => simp [intOf]; omega
        | false =>
          rw [hx] at hc1 hel
          have E : Hid ((KL bs).take (j + 1) = (KL bs).take j ++ [0]) := by unfold Hid; rw [E0.out, hel]; rfl
          clear hel E0
          go_wp2_with (at_builtin; refine wpList_append_own _ rfl (.tmp 30) (.tmp 31) 26 rfl wc.heap.size 2 i0 (.int .i64 0) 1 8 Try.underlying26 hi0 hz0 hz1 hz2 rfl (by decide) v j _ rfl (World.ownsRow.alloc (w := wr) HO.out _) ⟨wr.heap.size, 0, none⟩ 1 1 (ints [(0 : Int)]) rfl rfl (Ow.one_new wr (0 : Int) _ _ rfl) (Ow.one _) (by unfold maxLen; omega) (by omega) (by simp; omega) ?_; intro v2 w2 hx2 hg2 hn2; have hne := fun g => own_ge HO.out g; have RX2 := Room.other' (RX.alloc _) hg2 (fun e => (by have := hne _ e; omega)); have RR2 := Room.other' (RR.alloc _) hg2 (fun e => (by have := hne _ e; omega)); have pO2 := Has.kept' (pO.later ((Below.refl _ wr).alloc (Nat.le_refl _) _) pO.2.2.1) hg2 (fun e => (by have := hne _ e; omega)); have BB2 : Below w.heap.size w w2 := (BB.alloc BB.size _).grown hg2 (by have := BB.size; simp; omega) (fun g e => (by have := hne g e; have := BB.size; omega)); have hs2 := hg2.size; simp at hs2; have HN : Hid (w2.ownsRow wc.heap.size 2 1 v2 (j + 1) (ints ((KL bs).take (j + 1)))) := (by unfold Hid; rw [E.out]; simpa [ints] using hx2); obtain ⟨a2, c2, rfl, -, -⟩ := own_any (n := j + 1) (zs := (KL bs).take (j + 1)) (by simp; omega) HN.out; clear hx2 hg2 hn2 hne HO RX RR pO BB x6 f6; have x6 := RX2.cell 6 rfl; have f6 := RX2.froz 6 rfl; have lX2 := RX2.lt (by simp); have RX3 := RX2.set 6 (.slice a2 (j + 1) c2); have RR3 := RR2.setOther (q := X) (by omega) 6 (.slice a2 (j + 1) c2); have pO3 := pO2.setOther (q := X) (by omega) 6 (.slice a2 (j + 1) c2); have BB3 := BB2.setCell (p := ⟨X, 6, none⟩) (by simp; omega) (.slice a2 (j + 1) c2); have HN3 : Hid ((w2.setCell ⟨X, 6, none⟩ (.slice a2 (j + 1) c2)).ownsRow wc.heap.size 2 1 (.slice a2 (j + 1) c2) (j + 1) (ints ((KL bs).take (j + 1)))) := own_set HN.out lX; clear HN)
          go_roundw
          case rel => exact ⟨j + 1, _, by omega, by go_num, by simp; omega, HN3, RX3, RR3, pO3, BB3⟩
          case measure => simp [intOf]; omega
      · have hi : ¬ (j : Int) < k := by omega
        have e : j = k := by omega
        subst e
        obtain ⟨aK, cK, rfl, rK, oK⟩ := own_any (n := j) (zs := KL bs) (by omega) (by have q := HO.out; rw [List.take_of_length_le (by omega)] at q; exact q)
        clear HO
        have x0 := RX.cell 0 rfl
        have x1 := RX.cell 1 rfl
        have x2 := RX.cell 2 rfl
        have x3 := RX.cell 3 rfl
        have x4 := RX.cell 4 rfl
        have x5 := RX.cell 5 rfl
        have x6 := RX.cell 6 rfl
        have x7 := RX.cell 7 rfl
        have x8 := RX.cell 8 rfl
        go_wp2_with fail
        refine (s_WorldOk n l d r p s 0 _ _ j cK m cO (KL bs) os _ rK pO.row hk hm).mono ?_
        rintro e w3 ⟨rfl, b3⟩
        clear x0 x1 x2 x3 x4 x5 x6 x7 x8
        replace RX := RX.below b3
        replace RR := RR.below b3
        replace pO := pO.later b3 pO.2.2.1
        replace BB := BB.trans (b3.mono BB.size)
        have r0 := RR.cell 0 rfl
        have r1 := RR.cell 1 rfl
        have r2 := RR.cell 2 rfl
        have r3 := RR.cell 3 rfl
        have r4 := RR.cell 4 rfl
        have r5 := RR.cell 5 rfl
        have r6 := RR.cell 6 rfl
        have r7 := RR.cell 7 rfl
        have r8 := RR.cell 8 rfl
        have f0 := RR.froz 0 rfl
        have f1 := RR.froz 1 rfl
        have f2 := RR.froz 2 rfl
        have f3 := RR.froz 3 rfl
        have f4 := RR.froz 4 rfl
        have f5 := RR.froz 5 rfl
        have f6 := RR.froz 6 rfl
        have f7 := RR.froz 7 rfl
        have f8 := RR.froz 8 rfl
        cases hq : WO n l d r p s (KL bs) j os m 0 with
        | false =>
          have RQ := Rm.over9 RR (.int .i64 0) (.int .i64 0) (.int .i64 0) (.int .i64 0) (.int .i64 0) (.int .i64 0) (.slice none 0 0) (.slice none 0 0) (.int .i64 0)
          have q0 := RQ.cell 0 rfl
          have q1 := RQ.cell 1 rfl
          have q2 := RQ.cell 2 rfl
          have q3 := RQ.cell 3 rfl
          have q4 := RQ.cell 4 rfl
          have q5 := RQ.cell 5 rfl
          have q6 := RQ.cell 6 rfl
          have q7 := RQ.cell 7 rfl
          have q8 := RQ.cell 8 rfl
          have BQ := (((((((((BB.setCell (p := ⟨w.heap.size + 1, 0, none⟩) (by simp) (.int .i64 0)).setCell (p := ⟨w.heap.size + 1, 1, none⟩) (by simp) (.int .i64 0)).setCell (p := ⟨w.heap.size + 1, 2, none⟩) (by simp) (.int .i64 0)).setCell (p := ⟨w.heap.size + 1, 3, none⟩) (by simp) (.int .i64 0)).setCell (p := ⟨w.heap.size + 1, 4, none⟩) (by simp) (.int .i64 0)).setCell (p := ⟨w.heap.size + 1, 5, none⟩) (by simp) (.int .i64 0)).setCell (p := ⟨w.heap.size + 1, 6, none⟩) (by simp) (.slice none 0 0)).setCell (p := ⟨w.heap.size + 1, 7, none⟩) (by simp) (.slice none 0 0)).setCell (p := ⟨w.heap.size + 1, 8, none⟩) (by simp) (.int .i64 0))
          go_wp2
          refine bodyPost_ret (v := .tuple #[.agg #[.int .i64 0, .int .i64 0, .int .i64 0, .int .i64 0, .int .i64 0, .int .i64 0, .slice none 0 0, .slice none 0 0, .int .i64 0], .bool false]) (by simp [results, Try.results12, go_sem, q0, q1, q2, q3, q4, q5, q6, q7, q8]) rfl ⟨⟨fun _ => rfl, fun h => (by rw [hq] at h; cases h)⟩, BQ⟩
        | true =>
          obtain ⟨gK, rfl, oK2⟩ := oK (wo_pos hq)
          have hcK := oK2.data.2.2.1
          have pK := (oK2.has).later b3 oK2.lt
          have loK := pK.2.1
          clear oK oK2 rK
          have nK : w.heap.size + 1 ≠ gK := by omega
          have x0 := RX.cell 0 rfl
          have x1 := RX.cell 1 rfl
          have x2 := RX.cell 2 rfl
          have x3 := RX.cell 3 rfl
          have x4 := RX.cell 4 rfl
          have x5 := RX.cell 5 rfl
          have x6 := RX.cell 6 rfl
          have x7 := RX.cell 7 rfl
          have x8 := RX.cell 8 rfl
          have pK9 := (((((((((pK.setOther (q := w.heap.size + 1) (by omega) 0 (.int .i64 n)).setOther (q := w.heap.size + 1) (by omega) 1 (.int .i64 l)).setOther (q := w.heap.size + 1) (by omega) 2 (.int .i64 d)).setOther (q := w.heap.size + 1) (by omega) 3 (.int .i64 r)).setOther (q := w.heap.size + 1) (by omega) 4 (.int .i64 p)).setOther (q := w.heap.size + 1) (by omega) 5 (.int .i64 s)).setOther (q := w.heap.size + 1) (by omega) 6 (.slice (some ⟨gK, 0, none⟩) j cK)).setOther (q := w.heap.size + 1) (by omega) 7 (.slice (some ⟨gO, 0, none⟩) m cO)).setOther (q := w.heap.size + 1) (by omega) 8 (.int .i64 0))
          have pO9 := (((((((((pO.setOther (q := w.heap.size + 1) (by omega) 0 (.int .i64 n)).setOther (q := w.heap.size + 1) (by omega) 1 (.int .i64 l)).setOther (q := w.heap.size + 1) (by omega) 2 (.int .i64 d)).setOther (q := w.heap.size + 1) (by omega) 3 (.int .i64 r)).setOther (q := w.heap.size + 1) (by omega) 4 (.int .i64 p)).setOther (q := w.heap.size + 1) (by omega) 5 (.int .i64 s)).setOther (q := w.heap.size + 1) (by omega) 6 (.slice (some ⟨gK, 0, none⟩) j cK)).setOther (q := w.heap.size + 1) (by omega) 7 (.slice (some ⟨gO, 0, none⟩) m cO)).setOther (q := w.heap.size + 1) (by omega) 8 (.int .i64 0))
          have RQ := Rm.over9 RR (.int .i64 n) (.int .i64 l) (.int .i64 d) (.int .i64 r) (.int .i64 p) (.int .i64 s) (.slice (some ⟨gK, 0, none⟩) j cK) (.slice (some ⟨gO, 0, none⟩) m cO) (.int .i64 0)
          have q0 := RQ.cell 0 rfl
          have q1 := RQ.cell 1 rfl
          have q2 := RQ.cell 2 rfl
          have q3 := RQ.cell 3 rfl
          have q4 := RQ.cell 4 rfl
          have q5 := RQ.cell 5 rfl
          have q6 := RQ.cell 6 rfl
          have q7 := RQ.cell 7 rfl
          have q8 := RQ.cell 8 rfl
          have BQ := (((((((((BB.setCell (p := ⟨w.heap.size + 1, 0, none⟩) (by simp) (.int .i64 n)).setCell (p := ⟨w.heap.size + 1, 1, none⟩) (by simp) (.int .i64 l)).setCell (p := ⟨w.heap.size + 1, 2, none⟩) (by simp) (.int .i64 d)).setCell (p := ⟨w.heap.size + 1, 3, none⟩) (by simp) (.int .i64 r)).setCell (p := ⟨w.heap.size + 1, 4, none⟩) (by simp) (.int .i64 p)).setCell (p := ⟨w.heap.size + 1, 5, none⟩) (by simp) (.int .i64 s)).setCell (p := ⟨w.heap.size + 1, 6, none⟩) (by simp) (.slice (some ⟨gK, 0, none⟩) j cK)).setCell (p := ⟨w.heap.size + 1, 7, none⟩) (by simp) (.slice (some ⟨gO, 0, none⟩) m cO)).setCell (p := ⟨w.heap.size + 1, 8, none⟩) (by simp) (.int .i64 0))
          go_wp2
          refine bodyPost_ret (v := .tuple #[.agg #[.int .i64 n, .int .i64 l, .int .i64 d, .int .i64 r, .int .i64 p, .int .i64 s, .slice (some ⟨gK, 0, none⟩) j cK, .slice (some ⟨gO, 0, none⟩) m cO, .int .i64 0], .bool true]) (by simp [results, Try.results12, go_sem, q0, q1, q2, q3, q4, q5, q6, q7, q8]) rfl ⟨⟨fun h => (by rw [hq] at h; cases h), fun _ => ⟨gK, gO, cK, cO, rfl, pK9.mono (by omega), pO9, by omega, hcK, hcO⟩⟩, BQ⟩

end Go.Proofs.Ytlalnlnnmlfbcaa.Wl
