/-
  spec.NewWorld: a new world, in new memory, or the zero world. · spec.NewWorld once more: the offs of the new world are a slice of its own, which can be appended to. · What becomes of cells, rows and worlds behind a step of the dice; right worlds of small numbers. · Slices of slices of int64s that a call owns: what becomes of them behind a step, a store, an append; one more. · laws.world: a right world that the laws roll, in new memory.
-/
import Derived.Test.YtloicicgcdfgnaaNewI
import Derived.Test.YtloicicgcdfgnaaPut
import Derived.Deep.RegionHeld3
import Derived.Deep.Cut
import Derived.Test.YtloicicgcdfgnaaTk
import Derived.Test.YtloicicgcdfgnaaDrawAll
import Derived.Test.YtloicicgcdfgnaaOwnAt
import Derived.Test.YtloicicgcdfgnaaTOk
namespace Go.Proofs.Ytloicicgcdfgnaa.Wl
open Go.ChangeShapes Go.WideShapes Go.ChangeAt Go.RowKit
open Ls (el Row)
open Rm (Room)
open Ow (Has Own ints)
open Rd (Flags)
open Bo (eb HasB)
open Cf (cfg CP)
set_option linter.unusedVariables false
set_option linter.unusedSimpArgs false

theorem Room.other' {w w1 : World} {row : Option Nat} {g : Nat} {vs : List Value} (h : Room w g vs) (hg : w.grownBy w1 row) (hne : row ≠ some g) : Room w1 g vs := by
  by_cases hn : 0 < vs.length
  · exact h.block (hg.block g (h.lt hn) (fun e => hne e.symm))
  · intro i v hv
    have : vs = [] := List.eq_nil_of_length_eq_zero (by omega)
    subst this; cases hv
theorem Has.kept' {w w' : World} {row : Option Nat} {B g off n : Nat} {zs : List Int} (h : Has w B g off n zs) (hg : w.grownBy w' row) (hne : row ≠ some g) : Has w' B g off n zs := by
  have e : w'.heap[g]? = w.heap[g]? := hg.block g h.2.2.1 (fun e => hne e.symm)
  exact ⟨h.1, h.2.1, by have := hg.size; have := h.2.2.1; omega, fun k hk => by rw [World.cell?_of_block (w := w) (a := ⟨g, off + k, none⟩) e]; exact h.2.2.2.1 k hk, fun k hk => by rw [World.frozen?_of_block (w := w) (a := ⟨g, off + k, none⟩) e]; exact h.2.2.2.2 k hk⟩
theorem own_ge {w : World} {B n : Nat} {v : Value} {xs : List Value} (h : w.ownsRow B 2 1 v n xs) (g : Nat) (e : v.ownBlock = some g) : B ≤ g ∧ g < w.heap.size := by
  rcases h.2 with ⟨h2, _⟩ | ⟨g', cap', cur, h2, hB, hb, _⟩
  · rw [h2] at e; cases e
  · rw [h2] at e
    have e2 : g' = g := Option.some.inj e
    subst e2
    exact ⟨hB, (Array.getElem?_eq_some_iff.1 hb).1⟩
theorem own_any {w : World} {B n : Nat} {v : Value} {zs : List Int} (hz : zs.length = n) (h : w.ownsRow B 2 1 v n (ints zs)) : ∃ a c, v = .slice a n c ∧ Row w w.heap.size a n zs ∧ (0 < n → ∃ g, a = some ⟨g, 0, none⟩ ∧ Own w B g n c zs) := by
  rcases h.2 with ⟨h2, h3⟩ | ⟨g', cap', cur, h2, hB, hb, h4⟩
  · have h0 : n = 0 := by
      have := h.1
      rw [Ow.ints_len] at this
      first | omega | (rw [h3] at *; simp at *; omega)
    subst h0
    exact ⟨none, 0, h2, ⟨hz, .inl rfl⟩, fun q => by omega⟩
  · subst h2
    have ho : Own w B g' n cap' zs := h
    exact ⟨_, _, rfl, ho.row, fun _ => ⟨g', rfl, ho⟩⟩
theorem take_el (zs : List Int) (j : Nat) (h : j < zs.length) : zs.take (j + 1) = zs.take j ++ [el zs j] := by
  rw [List.take_add_one, List.getElem?_eq_getElem h]
  simp [el, List.getD, h]
theorem own_set {w : World} {B X o n : Nat} {v u : Value} {xs : List Value} (h : w.ownsRow B 2 1 v n xs) (hX : X < B) : (w.setCell ⟨X, o, none⟩ u).ownsRow B 2 1 v n xs := by
  refine ⟨h.1, ?_⟩
  rcases h.2 with h2 | ⟨g', cap', cur, e, hB, hb', rest⟩
  · exact .inl h2
  · exact .inr ⟨g', cap', cur, e, hB, by rw [Below.heap_setCell _ _ _ _ (by simp; omega)]; exact hb', rest⟩
theorem wo_pos {n l d r p s : Int} {ks os : List Int} {k m : Nat} {t : Int} (h : WO n l d r p s ks k os m t = true) : 0 < k := by
  unfold WO at h
  simp only [Bool.and_eq_true, beq_iff_eq] at h
  have h1 := Cf.n1_iff.1 (Cf.cr_zero.1 (Cf.cp_zero.1 h.1).1).1
  have h2 := h.2.1.1
  omega

set_option maxHeartbeats 8000000 in
theorem s_NewWorld (n l d r p s : Int) (b off m mb : Nat) (a : Option Addr) (k ka : Nat) (bs : List Bool) (os : List Int) (w : World) (hz : os.length = m) (hc : ∀ j, j < m → w.cell? ⟨b, off + j, none⟩ = some (.int .i64 (el os j))) (hb : b < w.heap.size) (hr : Flags w w.heap.size a k bs) (hk : k ≤ 1048576) (hm : m ≤ 1048576) :
    Calls Try.prog 28 #[cfg n l d r p s, .slice (some ⟨b, off, none⟩) m mb, .slice a k ka] w fun e w' => ((WO n l d r p s (KL bs) k os m 0 = false → e = .returned (.tuple #[wld 0 0 0 0 0 0 (.slice none 0 0) (.slice none 0 0) 0, .bool false])) ∧ (WO n l d r p s (KL bs) k os m 0 = true → ∃ g h c c', e = .returned (.tuple #[wld n l d r p s (.slice (some ⟨g, 0, none⟩) k c) (.slice (some ⟨h, 0, none⟩) m c') 0, .bool true]) ∧ Has w' w.heap.size g 0 k (KL bs) ∧ Has w' w.heap.size h 0 m os ∧ g ≠ h ∧ k ≤ c ∧ m ≤ c')) ∧ Below w.heap.size w w' := by
  obtain ⟨i0, hi0, hz0, hz1, hz2⟩ := info_parts Ls.info
  have hkl := kl_len bs
  have R0 := (Room.new w [.int .i64 n, .int .i64 l, .int .i64 d, .int .i64 r, .int .i64 p, .int .i64 s] 28).alloc (.cells #[.int .i64 0, .int .i64 0, .int .i64 0, .int .i64 0, .int .i64 0, .int .i64 0, .slice none 0 0, .slice none 0 0, .int .i64 0] 31)
  have RR : Room ((w.alloc (.cells #[.int .i64 n, .int .i64 l, .int .i64 d, .int .i64 r, .int .i64 p, .int .i64 s] 28)).alloc (.cells #[.int .i64 0, .int .i64 0, .int .i64 0, .int .i64 0, .int .i64 0, .int .i64 0, .slice none 0 0, .slice none 0 0, .int .i64 0] 31)) (w.heap.size + 1) z9 := Room.at _ z9 31 _ (by simp)
  have BB := ((Below.refl w.heap.size w).alloc (Nat.le_refl _) (.cells #[.int .i64 n, .int .i64 l, .int .i64 d, .int .i64 r, .int .i64 p, .int .i64 s] 28)).alloc (by simp) (.cells #[.int .i64 0, .int .i64 0, .int .i64 0, .int .i64 0, .int .i64 0, .int .i64 0, .slice none 0 0, .slice none 0 0, .int .i64 0] 31)
  have zz : w.heap.size + 2 ≤ ((w.alloc (.cells #[.int .i64 n, .int .i64 l, .int .i64 d, .int .i64 r, .int .i64 p, .int .i64 s] 28)).alloc (.cells #[.int .i64 0, .int .i64 0, .int .i64 0, .int .i64 0, .int .i64 0, .int .i64 0, .slice none 0 0, .slice none 0 0, .int .i64 0] 31)).heap.size := by simp
  go_enter Try.func28, Try.ntmps28
  go_wp2_with fail
  generalize (w.alloc (.cells #[.int .i64 n, .int .i64 l, .int .i64 d, .int .i64 r, .int .i64 p, .int .i64 s] 28)).alloc (.cells #[.int .i64 0, .int .i64 0, .int .i64 0, .int .i64 0, .int .i64 0, .int .i64 0, .slice none 0 0, .slice none 0 0, .int .i64 0] 31) = w1 at R0 RR BB zz ⊢
  have S0 := s6 R0 BB
  replace RR := RR.drew
  replace zz : w.heap.size + 2 ≤ w1.drew.heap.size := zz
  clear R0 BB
  go_cut [8] from 10 (fun p8 wc => ∃ X gO cO : Nat, p8 = .pointer (some ⟨X, 0, none⟩) ∧ Hid (Room wc X (c9 n l d r p s (.slice none 0 0) (.slice (some ⟨gO, 0, none⟩) m cO) 0) ∧ Room wc (w.heap.size + 1) z9 ∧ Has wc w.heap.size gO 0 m os ∧ m ≤ cO ∧ w.heap.size + 1 < X ∧ w.heap.size + 1 ≠ gO ∧ gO ≠ X ∧ Below w.heap.size w wc))
  case first =>
    refine wp_region_noPanic ?_
    refine wp_region_held_drew (S := (fun w' => w'.cell? ⟨w.heap.size, 0, none⟩ = some (.int .i64 n) ∧ w'.cell? ⟨w.heap.size, 1, none⟩ = some (.int .i64 l) ∧ w'.cell? ⟨w.heap.size, 2, none⟩ = some (.int .i64 d) ∧ w'.cell? ⟨w.heap.size, 3, none⟩ = some (.int .i64 r) ∧ w'.cell? ⟨w.heap.size, 4, none⟩ = some (.int .i64 p) ∧ w'.cell? ⟨w.heap.size, 5, none⟩ = some (.int .i64 s) ∧ Hid (Below w.heap.size w w'))) (by kernel_rfl) (S6.keep S0 (Below.refl _ _).drew (World.block_lt_of_cell? _ _ S0.1)) (fun hHeld => ?_)
    generalize w1.drew = w1d at hHeld RR zz ⊢
    refine Tk.W 0 (some 10) (.load 28 (.tmp 3)) 28 none ?_
    refine Tk.W 1 (some 11) (.move (.tmp 1)) 29 none ?_
    refine wpAnyH_ready (rs := [2, 4]) (by kernel_rfl) (by simp) ?_
    refine (AllReadyH.cons (o := ⟨some 12, .call ⟨.value (.func 80), #[.tmp 11], #[29]⟩, 29, _, _, none⟩) rfl (fun K hK => ?_) (AllReadyH.cons (o := ⟨some 8, .alloc 31, 0, _, _, none⟩) rfl (fun K hK => ?_) AllReadyH.nil))
    · go_simp
      refine (l1Copy b off m mb os _ hz (fun j hj => by rw [hHeld.2.2.2.2.2.2.out.cell (p := ⟨b, off + j, none⟩) hb]; exact hc j hj) hm (by have := hHeld.2.2.2.2.2.2.out.size; omega)).mono ?_
      rintro e wO ⟨⟨gO, cO, rfl, oO⟩, bs3⟩
      have zs3 := bs3.size
      have kvs3 := S6.keep hHeld bs3 (World.block_lt_of_cell? _ _ hHeld.1)
      replace RR := RR.below bs3
      have lRs3 := RR.lt (by simp)
      have pO := oO.has
      have loO := pO.2.1
      have hiO := pO.2.2.1
      have hcO := oO.data.2.2.1
      clear oO
      clear bs3
      try dsimp only
      refine hK.out _ _ kvs3 ?_; clear hK K hHeld; intro hHeld; try simp only [Act.put, List.setIfInBounds_toArray, List.set_cons_zero, List.set_cons_succ]
      refine Tk.W 3 (some 13) (.build 31 #[(0, .tmp 10), (2, .tmp 12)]) 31 none ?_
      refine Tk.R 4 (some 8) (.alloc 31) 0 none (fun K hK => ?_)
      go_simp
      have bs5 := (Below.refl wO.heap.size wO).alloc (Nat.le_refl _) (.cells #[.int .i64 0, .int .i64 0, .int .i64 0, .int .i64 0, .int .i64 0, .int .i64 0, .slice none 0 0, .slice none 0 0, .int .i64 0] 31)
      have RX := Room.new wO z9 31
      have lX := RX.lt (by simp)
      have kvs5 := S6.keep hHeld bs5 (World.block_lt_of_cell? _ _ hHeld.1)
      have lRs5 := RR.lt (by simp)
      replace RR := RR.below bs5
      have us5pO := pO.2.2.1
      replace pO := pO.later bs5 pO.2.2.1
      clear bs5
      obtain ⟨X, hX⟩ : ∃ X, X = wO.heap.size := ⟨_, rfl⟩
      rw [← hX] at RX lX us5pO ⊢
      generalize wO.alloc (.cells #[.int .i64 0, .int .i64 0, .int .i64 0, .int .i64 0, .int .i64 0, .int .i64 0, .slice none 0 0, .slice none 0 0, .int .i64 0] 31) = wX at kvs5 RX RR lX pO ⊢
      have zs5 : w.heap.size + 2 ≤ X := by rw [hX]; first | exact zz | (simp only [World.size_drew] at *; omega) | omega
      clear hX
      try dsimp only
      refine hK.out _ _ kvs5 ?_; clear hK K hHeld; intro hHeld; try simp only [Act.put, List.setIfInBounds_toArray, List.set_cons_zero, List.set_cons_succ]
      refine Tk.R 5 none (.store 31 (.tmp 8) (.tmp 13)) 0 none (fun K hK => ?_)
      have f0 := RX.froz 0 rfl
      have f1 := RX.froz 1 rfl
      have f2 := RX.froz 2 rfl
      have f3 := RX.froz 3 rfl
      have f4 := RX.froz 4 rfl
      have f5 := RX.froz 5 rfl
      have f6 := RX.froz 6 rfl
      have f7 := RX.froz 7 rfl
      have f8 := RX.froz 8 rfl
      have e0 := RX.cell 0 rfl
      have e1 := RX.cell 1 rfl
      have e2 := RX.cell 2 rfl
      have e3 := RX.cell 3 rfl
      have e4 := RX.cell 4 rfl
      have e5 := RX.cell 5 rfl
      have e6 := RX.cell 6 rfl
      have e7 := RX.cell 7 rfl
      have e8 := RX.cell 8 rfl
      go_simp
      have bs6 := Rm.belowOver9 wX X (.int .i64 n) (.int .i64 l) (.int .i64 d) (.int .i64 r) (.int .i64 p) (.int .i64 s) (.slice none 0 0) (.slice (some ⟨gO, 0, none⟩) m cO) (.int .i64 0)
      have kvs6 := S6.keep hHeld bs6 (by omega)
      have RX9 := Rm.over9 RX (.int .i64 n) (.int .i64 l) (.int .i64 d) (.int .i64 r) (.int .i64 p) (.int .i64 s) (.slice none 0 0) (.slice (some ⟨gO, 0, none⟩) m cO) (.int .i64 0)
      replace RR := (((((((((RR.setOther (q := X) (by omega) 0 (.int .i64 n)).setOther (q := X) (by omega) 1 (.int .i64 l)).setOther (q := X) (by omega) 2 (.int .i64 d)).setOther (q := X) (by omega) 3 (.int .i64 r)).setOther (q := X) (by omega) 4 (.int .i64 p)).setOther (q := X) (by omega) 5 (.int .i64 s)).setOther (q := X) (by omega) 6 (.slice none 0 0)).setOther (q := X) (by omega) 7 (.slice (some ⟨gO, 0, none⟩) m cO)).setOther (q := X) (by omega) 8 (.int .i64 0))
      replace pO := (((((((((pO.setOther (q := X) (by omega) 0 (.int .i64 n)).setOther (q := X) (by omega) 1 (.int .i64 l)).setOther (q := X) (by omega) 2 (.int .i64 d)).setOther (q := X) (by omega) 3 (.int .i64 r)).setOther (q := X) (by omega) 4 (.int .i64 p)).setOther (q := X) (by omega) 5 (.int .i64 s)).setOther (q := X) (by omega) 6 (.slice none 0 0)).setOther (q := X) (by omega) 7 (.slice (some ⟨gO, 0, none⟩) m cO)).setOther (q := X) (by omega) 8 (.int .i64 0))
      clear RX bs6 e0 f0 e1 f1 e2 f2 e3 f3 e4 f4 e5 f5 e6 f6 e7 f7 e8 f8
      try dsimp only
      refine hK.out _ _ kvs6 ?_; clear hK K hHeld; intro hHeld; try simp only [Act.put, List.setIfInBounds_toArray, List.set_cons_zero, List.set_cons_succ]
      refine wpAnyH_done (by kernel_rfl) ?_ _
      refine NoPanic.normal ?_
      have BB := hHeld.2.2.2.2.2.2.out
      clear hHeld
      go_wp2_with fail
      go_meet
      case rel => exact ⟨X, gO, cO, rfl, RX9, RR, pO.mono (by omega), hcO, by omega, by omega, by omega, BB⟩
    · go_simp
      have bs7 := (Below.refl w1d.heap.size w1d).alloc (Nat.le_refl _) (.cells #[.int .i64 0, .int .i64 0, .int .i64 0, .int .i64 0, .int .i64 0, .int .i64 0, .slice none 0 0, .slice none 0 0, .int .i64 0] 31)
      have RX := Room.new w1d z9 31
      have lX := RX.lt (by simp)
      have kvs7 := S6.keep hHeld bs7 (World.block_lt_of_cell? _ _ hHeld.1)
      have lRs7 := RR.lt (by simp)
      replace RR := RR.below bs7
      clear bs7
      obtain ⟨X, hX⟩ : ∃ X, X = w1d.heap.size := ⟨_, rfl⟩
      rw [← hX] at RX lX ⊢
      generalize w1d.alloc (.cells #[.int .i64 0, .int .i64 0, .int .i64 0, .int .i64 0, .int .i64 0, .int .i64 0, .slice none 0 0, .slice none 0 0, .int .i64 0] 31) = wX at kvs7 RX RR lX ⊢
      have zs7 : w.heap.size + 2 ≤ X := by rw [hX]; first | exact zz | (simp only [World.size_drew] at *; omega) | omega
      clear hX
      try dsimp only
      refine hK.out _ _ kvs7 ?_; clear hK K hHeld; intro hHeld; try simp only [Act.put, List.setIfInBounds_toArray, List.set_cons_zero, List.set_cons_succ]
      refine Tk.R 2 (some 12) (.call ⟨.value (.func 80), #[.tmp 11], #[29]⟩) 29 none (fun K hK => ?_)
      go_simp
      refine (l1Copy b off m mb os _ hz (fun j hj => by rw [hHeld.2.2.2.2.2.2.out.cell (p := ⟨b, off + j, none⟩) hb]; exact hc j hj) hm (by have := hHeld.2.2.2.2.2.2.out.size; omega)).mono ?_
      rintro e wO ⟨⟨gO, cO, rfl, oO⟩, bs8⟩
      have zs8 := bs8.size
      have kvs8 := S6.keep hHeld bs8 (World.block_lt_of_cell? _ _ hHeld.1)
      replace RR := RR.below bs8
      have lRs8 := RR.lt (by simp)
      replace RX := RX.below bs8
      have pO := oO.has
      have loO := pO.2.1
      have hiO := pO.2.2.1
      have hcO := oO.data.2.2.1
      clear oO
      clear bs8
      try dsimp only
      refine hK.out _ _ kvs8 ?_; clear hK K hHeld; intro hHeld; try simp only [Act.put, List.setIfInBounds_toArray, List.set_cons_zero, List.set_cons_succ]
      refine Tk.W 3 (some 13) (.build 31 #[(0, .tmp 10), (2, .tmp 12)]) 31 none ?_
      refine Tk.R 5 none (.store 31 (.tmp 8) (.tmp 13)) 0 none (fun K hK => ?_)
      have f0 := RX.froz 0 rfl
      have f1 := RX.froz 1 rfl
      have f2 := RX.froz 2 rfl
      have f3 := RX.froz 3 rfl
      have f4 := RX.froz 4 rfl
      have f5 := RX.froz 5 rfl
      have f6 := RX.froz 6 rfl
      have f7 := RX.froz 7 rfl
      have f8 := RX.froz 8 rfl
      have e0 := RX.cell 0 rfl
      have e1 := RX.cell 1 rfl
      have e2 := RX.cell 2 rfl
      have e3 := RX.cell 3 rfl
      have e4 := RX.cell 4 rfl
      have e5 := RX.cell 5 rfl
      have e6 := RX.cell 6 rfl
      have e7 := RX.cell 7 rfl
      have e8 := RX.cell 8 rfl
      go_simp
      have bs10 := Rm.belowOver9 wO X (.int .i64 n) (.int .i64 l) (.int .i64 d) (.int .i64 r) (.int .i64 p) (.int .i64 s) (.slice none 0 0) (.slice (some ⟨gO, 0, none⟩) m cO) (.int .i64 0)
      have kvs10 := S6.keep hHeld bs10 (by omega)
      have RX9 := Rm.over9 RX (.int .i64 n) (.int .i64 l) (.int .i64 d) (.int .i64 r) (.int .i64 p) (.int .i64 s) (.slice none 0 0) (.slice (some ⟨gO, 0, none⟩) m cO) (.int .i64 0)
      replace RR := (((((((((RR.setOther (q := X) (by omega) 0 (.int .i64 n)).setOther (q := X) (by omega) 1 (.int .i64 l)).setOther (q := X) (by omega) 2 (.int .i64 d)).setOther (q := X) (by omega) 3 (.int .i64 r)).setOther (q := X) (by omega) 4 (.int .i64 p)).setOther (q := X) (by omega) 5 (.int .i64 s)).setOther (q := X) (by omega) 6 (.slice none 0 0)).setOther (q := X) (by omega) 7 (.slice (some ⟨gO, 0, none⟩) m cO)).setOther (q := X) (by omega) 8 (.int .i64 0))
      replace pO := (((((((((pO.setOther (q := X) (by omega) 0 (.int .i64 n)).setOther (q := X) (by omega) 1 (.int .i64 l)).setOther (q := X) (by omega) 2 (.int .i64 d)).setOther (q := X) (by omega) 3 (.int .i64 r)).setOther (q := X) (by omega) 4 (.int .i64 p)).setOther (q := X) (by omega) 5 (.int .i64 s)).setOther (q := X) (by omega) 6 (.slice none 0 0)).setOther (q := X) (by omega) 7 (.slice (some ⟨gO, 0, none⟩) m cO)).setOther (q := X) (by omega) 8 (.int .i64 0))
      clear RX bs10 e0 f0 e1 f1 e2 f2 e3 f3 e4 f4 e5 f5 e6 f6 e7 f7 e8 f8
      try dsimp only
      refine hK.out _ _ kvs10 ?_; clear hK K hHeld; intro hHeld; try simp only [Act.put, List.setIfInBounds_toArray, List.set_cons_zero, List.set_cons_succ]
      refine wpAnyH_done (by kernel_rfl) ?_ _
      refine NoPanic.normal ?_
      have BB := hHeld.2.2.2.2.2.2.out
      clear hHeld
      go_wp2_with fail
      go_meet
      case rel => exact ⟨X, gO, cO, rfl, RX9, RR, pO.mono (by omega), hcO, by omega, by omega, by omega, BB⟩
  case rest =>
    obtain ⟨X, gO, cO, rfl, H⟩ := hcut
    obtain ⟨RX, RR, pO, hcO, hX, hneO, hOX, BB⟩ := H.out
    clear H
    have lX := RX.lt (by simp)
    have lR := RR.lt (by simp)
    have lO := pO.2.2.1
    obtain ⟨hzb, hrow⟩ := hr
    have HI : Hid (Room wc X (c9 n l d r p s (.slice none 0 0) (.slice (some ⟨gO, 0, none⟩) m cO) 0) ∧ Room wc (w.heap.size + 1) z9 ∧ Has wc w.heap.size gO 0 m os ∧ Below w.heap.size w wc) := ⟨RX, RR, pO, BB⟩
    clear RX RR pO BB
    go_wp2_with fail
    go_loopw [9] (fun q wr => ∃ (j : Nat) (v : Value), j ≤ k ∧ q = .int .i64 (j : Int) ∧ wc.heap.size ≤ wr.heap.size ∧ Hid (wr.ownsRow wc.heap.size 2 1 v j (ints ((KL bs).take j))) ∧ Hid (Room wr X (c9 n l d r p s (v) (.slice (some ⟨gO, 0, none⟩) m cO) 0) ∧ Room wr (w.heap.size + 1) z9 ∧ Has wr w.heap.size gO 0 m os ∧ Below w.heap.size w wr)) (fun q _ => k - (intOf q).toNat)
    case atStart => exact ⟨0, _, Nat.zero_le _, rfl, Nat.le_refl _, ⟨rfl, .inl ⟨rfl, by simp⟩⟩, HI.out⟩
    case round =>
      obtain ⟨j, v, hj, rfl, hsz, HO, HR⟩ := hrel
      obtain ⟨RX, RR, pO, BB⟩ := HR.out
      clear HR
      have lX1 := RX.lt (by simp)
      by_cases hlt : j < k
      · have hi : (j : Int) < k := by omega
        rcases hrow with hrow | ⟨bb, ob, rfl, hB, hcb⟩
        · omega
        have hc1 : w.cell? ⟨bb, ob + j, none⟩ = some (.bool (eb bs j)) := hcb j hlt
        rw [← BB.cell (p := ⟨bb, ob + j, none⟩) hB] at hc1
        have E0 : Hid ((KL bs).take (j + 1) = (KL bs).take j ++ [el (KL bs) j]) := take_el (KL bs) j (by omega)
        have hel := kl_el bs j
        have x6 := RX.cell 6 rfl
        have f6 := RX.froz 6 rfl
        cases hx : eb bs j with
        | true =>
          rw [hx] at hc1 hel
          have E : Hid ((KL bs).take (j + 1) = (KL bs).take j ++ [2]) := by unfold Hid; rw [E0.out, hel]; rfl
          clear hel E0
          go_wp2_with (at_builtin; refine wpList_append_own _ rfl (.tmp 25) (.tmp 26) 29 rfl wc.heap.size 2 i0 (.int .i64 0) 1 8 Try.underlying29 hi0 hz0 hz1 hz2 rfl (by decide) v j _ rfl (World.ownsRow.alloc (w := wr) HO.out _) ⟨wr.heap.size, 0, none⟩ 1 1 (ints [(2 : Int)]) rfl rfl (Ow.one_new wr (2 : Int) _ _ rfl) (Ow.one _) (by unfold maxLen; omega) (by omega) (by simp; omega) ?_; intro v2 w2 hx2 hg2 hn2; have hne := fun g => own_ge HO.out g; have RX2 := Room.other' (RX.alloc _) hg2 (fun e => (by have := hne _ e; omega)); have RR2 := Room.other' (RR.alloc _) hg2 (fun e => (by have := hne _ e; omega)); have pO2 := Has.kept' (pO.later ((Below.refl _ wr).alloc (Nat.le_refl _) _) pO.2.2.1) hg2 (fun e => (by have := hne _ e; omega)); have BB2 : Below w.heap.size w w2 := (BB.alloc BB.size _).grown hg2 (by have := BB.size; simp; omega) (fun g e => (by have := hne g e; have := BB.size; omega)); have hs2 := hg2.size; simp at hs2; have HN : Hid (w2.ownsRow wc.heap.size 2 1 v2 (j + 1) (ints ((KL bs).take (j + 1)))) := (by unfold Hid; rw [E.out]; simpa [ints] using hx2); obtain ⟨a2, c2, rfl, -, -⟩ := own_any (n := j + 1) (zs := (KL bs).take (j + 1)) (by simp; omega) HN.out; clear hx2 hg2 hn2 hne HO RX RR pO BB x6 f6; have x6 := RX2.cell 6 rfl; have f6 := RX2.froz 6 rfl; have lX2 := RX2.lt (by simp); have RX3 := RX2.set 6 (.slice a2 (j + 1) c2); have RR3 := RR2.setOther (q := X) (by omega) 6 (.slice a2 (j + 1) c2); have pO3 := pO2.setOther (q := X) (by omega) 6 (.slice a2 (j + 1) c2); have BB3 := BB2.setCell (p := ⟨X, 6, none⟩) (by simp; omega) (.slice a2 (j + 1) c2); have HN3 : Hid ((w2.setCell ⟨X, 6, none⟩ (.slice a2 (j + 1) c2)).ownsRow wc.heap.size 2 1 (.slice a2 (j + 1) c2) (j + 1) (ints ((KL bs).take (j + 1)))) := own_set HN.out lX; clear HN)
          go_roundw
          case rel => exact ⟨j + 1, _, by omega, by go_num, by simp; omega, HN3, RX3, RR3, pO3, BB3⟩
          case measure => simp [intOf]; omega
        | false =>
          rw [hx] at hc1 hel
          have E : Hid ((KL bs).take (j + 1) = (KL bs).take j ++ [0]) := by unfold Hid; rw [E0.out, hel]; rfl
          clear hel E0
          go_wp2_with (at_builtin; refine wpList_append_own _ rfl (.tmp 30) (.tmp 31) 29 rfl wc.heap.size 2 i0 (.int .i64 0) 1 8 Try.underlying29 hi0 hz0 hz1 hz2 rfl (by decide) v j _ rfl (World.ownsRow.alloc (w := wr) HO.out _) ⟨wr.heap.size, 0, none⟩ 1 1 (ints [(0 : Int)]) rfl rfl (Ow.one_new wr (0 : Int) _ _ rfl) (Ow.one _) (by unfold maxLen; omega) (by omega) (by simp; omega) ?_; intro v2 w2 hx2 hg2 hn2; have hne := fun g => own_ge HO.out g; have RX2 := Room.other' (RX.alloc _) hg2 (fun e => (by have := hne _ e; omega)); have RR2 := Room.other' (RR.alloc _) hg2 (fun e => (by have := hne _ e; omega)); have pO2 := Has.kept' (pO.later ((Below.refl _ wr).alloc (Nat.le_refl _) _) pO.2.2.1) hg2 (fun e => (by have := hne _ e; omega)); have BB2 : Below w.heap.size w w2 := (BB.alloc BB.size _).grown hg2 (by have := BB.size; simp; omega) (fun g e => (by have := hne g e; have := BB.size; omega)); have hs2 := hg2.size; simp at hs2; have HN : Hid (w2.ownsRow wc.heap.size 2 1 v2 (j + 1) (ints ((KL bs).take (j + 1)))) := (by unfold Hid; rw [E.out]; simpa [ints] using hx2); obtain ⟨a2, c2, rfl, -, -⟩ := own_any (n := j + 1) (zs := (KL bs).take (j + 1)) (by simp; omega) HN.out; clear hx2 hg2 hn2 hne HO RX RR pO BB x6 f6; have x6 := RX2.cell 6 rfl; have f6 := RX2.froz 6 rfl; have lX2 := RX2.lt (by simp); have RX3 := RX2.set 6 (.slice a2 (j + 1) c2); have RR3 := RR2.setOther (q := X) (by omega) 6 (.slice a2 (j + 1) c2); have pO3 := pO2.setOther (q := X) (by omega) 6 (.slice a2 (j + 1) c2); have BB3 := BB2.setCell (p := ⟨X, 6, none⟩) (by simp; omega) (.slice a2 (j + 1) c2); have HN3 : Hid ((w2.setCell ⟨X, 6, none⟩ (.slice a2 (j + 1) c2)).ownsRow wc.heap.size 2 1 (.slice a2 (j + 1) c2) (j + 1) (ints ((KL bs).take (j + 1)))) := own_set HN.out lX; clear HN)
          go_roundw
          case rel => exact ⟨j + 1, _, by omega, by go_num, by simp; omega, HN3, RX3, RR3, pO3, BB3⟩
          case measure => simp [intOf]; omega
      · have hi : ¬ (j : Int) < k := by omega
        have e : j = k := by omega
        subst e
        obtain ⟨aK, cK, rfl, rK, oK⟩ := own_any (n := j) (zs := KL bs) (by omega) (by have q := HO.out; rw [List.take_of_length_le (by omega)] at q; exact q)
        clear HO
        have x0 := RX.cell 0 rfl
        have x1 := RX.cell 1 rfl
        have x2 := RX.cell 2 rfl
        have x3 := RX.cell 3 rfl
        have x4 := RX.cell 4 rfl
        have x5 := RX.cell 5 rfl
        have x6 := RX.cell 6 rfl
        have x7 := RX.cell 7 rfl
        have x8 := RX.cell 8 rfl
        go_wp2_with fail
        refine (s_WorldOk n l d r p s 0 _ _ j cK m cO (KL bs) os _ rK pO.row hk hm).mono ?_
        rintro e w3 ⟨rfl, b3⟩
        clear x0 x1 x2 x3 x4 x5 x6 x7 x8
        replace RX := RX.below b3
        replace RR := RR.below b3
        replace pO := pO.later b3 pO.2.2.1
        replace BB := BB.trans (b3.mono BB.size)
        have r0 := RR.cell 0 rfl
        have r1 := RR.cell 1 rfl
        have r2 := RR.cell 2 rfl
        have r3 := RR.cell 3 rfl
        have r4 := RR.cell 4 rfl
        have r5 := RR.cell 5 rfl
        have r6 := RR.cell 6 rfl
        have r7 := RR.cell 7 rfl
        have r8 := RR.cell 8 rfl
        have f0 := RR.froz 0 rfl
        have f1 := RR.froz 1 rfl
        have f2 := RR.froz 2 rfl
        have f3 := RR.froz 3 rfl
        have f4 := RR.froz 4 rfl
        have f5 := RR.froz 5 rfl
        have f6 := RR.froz 6 rfl
        have f7 := RR.froz 7 rfl
        have f8 := RR.froz 8 rfl
        cases hq : WO n l d r p s (KL bs) j os m 0 with
        | false =>
          have RQ := Rm.over9 RR (.int .i64 0) (.int .i64 0) (.int .i64 0) (.int .i64 0) (.int .i64 0) (.int .i64 0) (.slice none 0 0) (.slice none 0 0) (.int .i64 0)
          have q0 := RQ.cell 0 rfl
          have q1 := RQ.cell 1 rfl
          have q2 := RQ.cell 2 rfl
          have q3 := RQ.cell 3 rfl
          have q4 := RQ.cell 4 rfl
          have q5 := RQ.cell 5 rfl
          have q6 := RQ.cell 6 rfl
          have q7 := RQ.cell 7 rfl
          have q8 := RQ.cell 8 rfl
          have BQ := (((((((((BB.setCell (p := ⟨w.heap.size + 1, 0, none⟩) (by simp) (.int .i64 0)).setCell (p := ⟨w.heap.size + 1, 1, none⟩) (by simp) (.int .i64 0)).setCell (p := ⟨w.heap.size + 1, 2, none⟩) (by simp) (.int .i64 0)).setCell (p := ⟨w.heap.size + 1, 3, none⟩) (by simp) (.int .i64 0)).setCell (p := ⟨w.heap.size + 1, 4, none⟩) (by simp) (.int .i64 0)).setCell (p := ⟨w.heap.size + 1, 5, none⟩) (by simp) (.int .i64 0)).setCell (p := ⟨w.heap.size + 1, 6, none⟩) (by simp) (.slice none 0 0)).setCell (p := ⟨w.heap.size + 1, 7, none⟩) (by simp) (.slice none 0 0)).setCell (p := ⟨w.heap.size + 1, 8, none⟩) (by simp) (.int .i64 0))
          go_wp2
          refine bodyPost_ret (v := .tuple #[.agg #[.int .i64 0, .int .i64 0, .int .i64 0, .int .i64 0, .int .i64 0, .int .i64 0, .slice none 0 0, .slice none 0 0, .int .i64 0], .bool false]) (by simp [results, Try.results28, go_sem, q0, q1, q2, q3, q4, q5, q6, q7, q8]) rfl ⟨⟨fun _ => rfl, fun h => (by rw [hq] at h; cases h)⟩, BQ⟩
        | true =>
          obtain ⟨gK, rfl, oK2⟩ := oK (wo_pos hq)
          have hcK := oK2.data.2.2.1
          have pK := (oK2.has).later b3 oK2.lt
          have loK := pK.2.1
          clear oK oK2 rK
          have nK : w.heap.size + 1 ≠ gK := by omega
          have x0 := RX.cell 0 rfl
          have x1 := RX.cell 1 rfl
          have x2 := RX.cell 2 rfl
          have x3 := RX.cell 3 rfl
          have x4 := RX.cell 4 rfl
          have x5 := RX.cell 5 rfl
          have x6 := RX.cell 6 rfl
          have x7 := RX.cell 7 rfl
          have x8 := RX.cell 8 rfl
          have pK9 := (((((((((pK.setOther (q := w.heap.size + 1) (by omega) 0 (.int .i64 n)).setOther (q := w.heap.size + 1) (by omega) 1 (.int .i64 l)).setOther (q := w.heap.size + 1) (by omega) 2 (.int .i64 d)).setOther (q := w.heap.size + 1) (by omega) 3 (.int .i64 r)).setOther (q := w.heap.size + 1) (by omega) 4 (.int .i64 p)).setOther (q := w.heap.size + 1) (by omega) 5 (.int .i64 s)).setOther (q := w.heap.size + 1) (by omega) 6 (.slice (some ⟨gK, 0, none⟩) j cK)).setOther (q := w.heap.size + 1) (by omega) 7 (.slice (some ⟨gO, 0, none⟩) m cO)).setOther (q := w.heap.size + 1) (by omega) 8 (.int .i64 0))
          have pO9 := (((((((((pO.setOther (q := w.heap.size + 1) (by omega) 0 (.int .i64 n)).setOther (q := w.heap.size + 1) (by omega) 1 (.int .i64 l)).setOther (q := w.heap.size + 1) (by omega) 2 (.int .i64 d)).setOther (q := w.heap.size + 1) (by omega) 3 (.int .i64 r)).setOther (q := w.heap.size + 1) (by omega) 4 (.int .i64 p)).setOther (q := w.heap.size + 1) (by omega) 5 (.int .i64 s)).setOther (q := w.heap.size + 1) (by omega) 6 (.slice (some ⟨gK, 0, none⟩) j cK)).setOther (q := w.heap.size + 1) (by omega) 7 (.slice (some ⟨gO, 0, none⟩) m cO)).setOther (q := w.heap.size + 1) (by omega) 8 (.int .i64 0))
          have RQ := Rm.over9 RR (.int .i64 n) (.int .i64 l) (.int .i64 d) (.int .i64 r) (.int .i64 p) (.int .i64 s) (.slice (some ⟨gK, 0, none⟩) j cK) (.slice (some ⟨gO, 0, none⟩) m cO) (.int .i64 0)
          have q0 := RQ.cell 0 rfl
          have q1 := RQ.cell 1 rfl
          have q2 := RQ.cell 2 rfl
          have q3 := RQ.cell 3 rfl
          have q4 := RQ.cell 4 rfl
          have q5 := RQ.cell 5 rfl
          have q6 := RQ.cell 6 rfl
          have q7 := RQ.cell 7 rfl
          have q8 := RQ.cell 8 rfl
          have BQ := (((((((((BB.setCell (p := ⟨w.heap.size + 1, 0, none⟩) (by simp) (.int .i64 n)).setCell (p := ⟨w.heap.size + 1, 1, none⟩) (by simp) (.int .i64 l)).setCell (p := ⟨w.heap.size + 1, 2, none⟩) (by simp) (.int .i64 d)).setCell (p := ⟨w.heap.size + 1, 3, none⟩) (by simp) (.int .i64 r)).setCell (p := ⟨w.heap.size + 1, 4, none⟩) (by simp) (.int .i64 p)).setCell (p := ⟨w.heap.size + 1, 5, none⟩) (by simp) (.int .i64 s)).setCell (p := ⟨w.heap.size + 1, 6, none⟩) (by simp) (.slice (some ⟨gK, 0, none⟩) j cK)).setCell (p := ⟨w.heap.size + 1, 7, none⟩) (by simp) (.slice (some ⟨gO, 0, none⟩) m cO)).setCell (p := ⟨w.heap.size + 1, 8, none⟩) (by simp) (.int .i64 0))
          go_wp2
          refine bodyPost_ret (v := .tuple #[.agg #[.int .i64 n, .int .i64 l, .int .i64 d, .int .i64 r, .int .i64 p, .int .i64 s, .slice (some ⟨gK, 0, none⟩) j cK, .slice (some ⟨gO, 0, none⟩) m cO, .int .i64 0], .bool true]) (by simp [results, Try.results28, go_sem, q0, q1, q2, q3, q4, q5, q6, q7, q8]) rfl ⟨⟨fun h => (by rw [hq] at h; cases h), fun _ => ⟨gK, gO, cK, cO, rfl, pK9.mono (by omega), pO9, by omega, hcK, hcO⟩⟩, BQ⟩

end Go.Proofs.Ytloicicgcdfgnaa.Wl

namespace Go.Proofs.Ytloicicgcdfgnaa.Wl
open Go.ChangeShapes Go.WideShapes Go.ChangeAt Go.RowKit
open Ls (el Row)
open Rm (Room)
open Ow (Has Own ints)
open Rd (Flags)
open Bo (eb HasB)
open Cf (cfg CP)
set_option linter.unusedVariables false
set_option linter.unusedSimpArgs false

theorem _root_.Go.Proofs.Ytloicicgcdfgnaa.Ow.Own.setOther {w : World} {B g n c : Nat} {zs : List Int} (h : Own w B g n c zs) {q : Nat} (hne : q ≠ g) (i : Nat) (u : Value) : Own (w.setCell ⟨q, i, none⟩ u) B g n c zs := by
  obtain ⟨h1, h2⟩ := h
  refine ⟨h1, ?_⟩
  rcases h2 with h2 | ⟨g', cap', cur, e, hB, hb', rest⟩
  · exact .inl h2
  · cases e
    exact .inr ⟨g, c, cur, rfl, hB, by rw [Below.heap_setCell _ _ _ _ (by simp; omega)]; exact hb', rest⟩
theorem Own.kept2 {w w' : World} {row : Option Nat} {B g n c : Nat} {zs : List Int} (h : Own w B g n c zs) (hg : w.grownBy w' row) (hne : row ≠ some g) : Own w' B g n c zs := by
  have hl := h.lt
  obtain ⟨h1, h2⟩ := h
  refine ⟨h1, ?_⟩
  rcases h2 with h2 | ⟨g', cap', cur, e, hB, hb', rest⟩
  · exact .inl h2
  · cases e
    exact .inr ⟨g, c, cur, rfl, hB, by rw [hg.block g hl (fun e => hne e.symm)]; exact hb', rest⟩

set_option maxHeartbeats 8000000 in
theorem s_NewWorldO (n l d r p s : Int) (b off m mb : Nat) (a : Option Addr) (k ka : Nat) (bs : List Bool) (os : List Int) (w : World) (hz : os.length = m) (hc : ∀ j, j < m → w.cell? ⟨b, off + j, none⟩ = some (.int .i64 (el os j))) (hb : b < w.heap.size) (hr : Flags w w.heap.size a k bs) (hk : k ≤ 1048576) (hm : m ≤ 1048576) :
    Calls Try.prog 28 #[cfg n l d r p s, .slice (some ⟨b, off, none⟩) m mb, .slice a k ka] w fun e w' => ((WO n l d r p s (KL bs) k os m 0 = false → e = .returned (.tuple #[wld 0 0 0 0 0 0 (.slice none 0 0) (.slice none 0 0) 0, .bool false])) ∧ (WO n l d r p s (KL bs) k os m 0 = true → ∃ g h c c', e = .returned (.tuple #[wld n l d r p s (.slice (some ⟨g, 0, none⟩) k c) (.slice (some ⟨h, 0, none⟩) m c') 0, .bool true]) ∧ Has w' w.heap.size g 0 k (KL bs) ∧ Own w' w.heap.size h m c' os ∧ g ≠ h ∧ k ≤ c ∧ m ≤ c')) ∧ Below w.heap.size w w' := by
  obtain ⟨i0, hi0, hz0, hz1, hz2⟩ := info_parts Ls.info
  have hkl := kl_len bs
  have R0 := (Room.new w [.int .i64 n, .int .i64 l, .int .i64 d, .int .i64 r, .int .i64 p, .int .i64 s] 28).alloc (.cells #[.int .i64 0, .int .i64 0, .int .i64 0, .int .i64 0, .int .i64 0, .int .i64 0, .slice none 0 0, .slice none 0 0, .int .i64 0] 31)
  have RR : Room ((w.alloc (.cells #[.int .i64 n, .int .i64 l, .int .i64 d, .int .i64 r, .int .i64 p, .int .i64 s] 28)).alloc (.cells #[.int .i64 0, .int .i64 0, .int .i64 0, .int .i64 0, .int .i64 0, .int .i64 0, .slice none 0 0, .slice none 0 0, .int .i64 0] 31)) (w.heap.size + 1) z9 := Room.at _ z9 31 _ (by simp)
  have BB := ((Below.refl w.heap.size w).alloc (Nat.le_refl _) (.cells #[.int .i64 n, .int .i64 l, .int .i64 d, .int .i64 r, .int .i64 p, .int .i64 s] 28)).alloc (by simp) (.cells #[.int .i64 0, .int .i64 0, .int .i64 0, .int .i64 0, .int .i64 0, .int .i64 0, .slice none 0 0, .slice none 0 0, .int .i64 0] 31)
  have zz : w.heap.size + 2 ≤ ((w.alloc (.cells #[.int .i64 n, .int .i64 l, .int .i64 d, .int .i64 r, .int .i64 p, .int .i64 s] 28)).alloc (.cells #[.int .i64 0, .int .i64 0, .int .i64 0, .int .i64 0, .int .i64 0, .int .i64 0, .slice none 0 0, .slice none 0 0, .int .i64 0] 31)).heap.size := by simp
  go_enter Try.func28, Try.ntmps28
  go_wp2_with fail
  generalize (w.alloc (.cells #[.int .i64 n, .int .i64 l, .int .i64 d, .int .i64 r, .int .i64 p, .int .i64 s] 28)).alloc (.cells #[.int .i64 0, .int .i64 0, .int .i64 0, .int .i64 0, .int .i64 0, .int .i64 0, .slice none 0 0, .slice none 0 0, .int .i64 0] 31) = w1 at R0 RR BB zz ⊢
  have S0 := s6 R0 BB
  replace RR := RR.drew
  replace zz : w.heap.size + 2 ≤ w1.drew.heap.size := zz
  clear R0 BB
  go_cut [8] from 10 (fun p8 wc => ∃ X gO cO : Nat, p8 = .pointer (some ⟨X, 0, none⟩) ∧ Hid (Room wc X (c9 n l d r p s (.slice none 0 0) (.slice (some ⟨gO, 0, none⟩) m cO) 0) ∧ Room wc (w.heap.size + 1) z9 ∧ Own wc w.heap.size gO m cO os ∧ m ≤ cO ∧ w.heap.size + 1 < X ∧ w.heap.size + 1 ≠ gO ∧ gO ≠ X ∧ Below w.heap.size w wc))
  case first =>
    refine wp_region_noPanic ?_
    refine wp_region_held_drew (S := (fun w' => w'.cell? ⟨w.heap.size, 0, none⟩ = some (.int .i64 n) ∧ w'.cell? ⟨w.heap.size, 1, none⟩ = some (.int .i64 l) ∧ w'.cell? ⟨w.heap.size, 2, none⟩ = some (.int .i64 d) ∧ w'.cell? ⟨w.heap.size, 3, none⟩ = some (.int .i64 r) ∧ w'.cell? ⟨w.heap.size, 4, none⟩ = some (.int .i64 p) ∧ w'.cell? ⟨w.heap.size, 5, none⟩ = some (.int .i64 s) ∧ Hid (Below w.heap.size w w'))) (by kernel_rfl) (S6.keep S0 (Below.refl _ _).drew (World.block_lt_of_cell? _ _ S0.1)) (fun hHeld => ?_)
    generalize w1.drew = w1d at hHeld RR zz ⊢
    refine Tk.W 0 (some 10) (.load 28 (.tmp 3)) 28 none ?_
    refine Tk.W 1 (some 11) (.move (.tmp 1)) 29 none ?_
    refine wpAnyH_ready (rs := [2, 4]) (by kernel_rfl) (by simp) ?_
    refine (AllReadyH.cons (o := ⟨some 12, .call ⟨.value (.func 80), #[.tmp 11], #[29]⟩, 29, _, _, none⟩) rfl (fun K hK => ?_) (AllReadyH.cons (o := ⟨some 8, .alloc 31, 0, _, _, none⟩) rfl (fun K hK => ?_) AllReadyH.nil))
    · go_simp
      refine (l1Copy b off m mb os _ hz (fun j hj => by rw [hHeld.2.2.2.2.2.2.out.cell (p := ⟨b, off + j, none⟩) hb]; exact hc j hj) hm (by have := hHeld.2.2.2.2.2.2.out.size; omega)).mono ?_
      rintro e wO ⟨⟨gO, cO, rfl, oO⟩, bs3⟩
      have zs3 := bs3.size
      have kvs3 := S6.keep hHeld bs3 (World.block_lt_of_cell? _ _ hHeld.1)
      replace RR := RR.below bs3
      have lRs3 := RR.lt (by simp)
      have pO := oO
      have loO := pO.data.2.1
      have hiO := pO.lt
      have hcO := oO.data.2.2.1
      clear oO
      clear bs3
      try dsimp only
      refine hK.out _ _ kvs3 ?_; clear hK K hHeld; intro hHeld; try simp only [Act.put, List.setIfInBounds_toArray, List.set_cons_zero, List.set_cons_succ]
      refine Tk.W 3 (some 13) (.build 31 #[(0, .tmp 10), (2, .tmp 12)]) 31 none ?_
      refine Tk.R 4 (some 8) (.alloc 31) 0 none (fun K hK => ?_)
      go_simp
      have bs5 := (Below.refl wO.heap.size wO).alloc (Nat.le_refl _) (.cells #[.int .i64 0, .int .i64 0, .int .i64 0, .int .i64 0, .int .i64 0, .int .i64 0, .slice none 0 0, .slice none 0 0, .int .i64 0] 31)
      have RX := Room.new wO z9 31
      have lX := RX.lt (by simp)
      have kvs5 := S6.keep hHeld bs5 (World.block_lt_of_cell? _ _ hHeld.1)
      have lRs5 := RR.lt (by simp)
      replace RR := RR.below bs5
      have us5pO := pO.lt
      replace pO := pO.later bs5 pO.lt
      clear bs5
      obtain ⟨X, hX⟩ : ∃ X, X = wO.heap.size := ⟨_, rfl⟩
      rw [← hX] at RX lX us5pO ⊢
      generalize wO.alloc (.cells #[.int .i64 0, .int .i64 0, .int .i64 0, .int .i64 0, .int .i64 0, .int .i64 0, .slice none 0 0, .slice none 0 0, .int .i64 0] 31) = wX at kvs5 RX RR lX pO ⊢
      have zs5 : w.heap.size + 2 ≤ X := by rw [hX]; first | exact zz | (simp only [World.size_drew] at *; omega) | omega
      clear hX
      try dsimp only
      refine hK.out _ _ kvs5 ?_; clear hK K hHeld; intro hHeld; try simp only [Act.put, List.setIfInBounds_toArray, List.set_cons_zero, List.set_cons_succ]
      refine Tk.R 5 none (.store 31 (.tmp 8) (.tmp 13)) 0 none (fun K hK => ?_)
      have f0 := RX.froz 0 rfl
      have f1 := RX.froz 1 rfl
      have f2 := RX.froz 2 rfl
      have f3 := RX.froz 3 rfl
      have f4 := RX.froz 4 rfl
      have f5 := RX.froz 5 rfl
      have f6 := RX.froz 6 rfl
      have f7 := RX.froz 7 rfl
      have f8 := RX.froz 8 rfl
      have e0 := RX.cell 0 rfl
      have e1 := RX.cell 1 rfl
      have e2 := RX.cell 2 rfl
      have e3 := RX.cell 3 rfl
      have e4 := RX.cell 4 rfl
      have e5 := RX.cell 5 rfl
      have e6 := RX.cell 6 rfl
      have e7 := RX.cell 7 rfl
      have e8 := RX.cell 8 rfl
      go_simp
      have bs6 := Rm.belowOver9 wX X (.int .i64 n) (.int .i64 l) (.int .i64 d) (.int .i64 r) (.int .i64 p) (.int .i64 s) (.slice none 0 0) (.slice (some ⟨gO, 0, none⟩) m cO) (.int .i64 0)
      have kvs6 := S6.keep hHeld bs6 (by omega)
      have RX9 := Rm.over9 RX (.int .i64 n) (.int .i64 l) (.int .i64 d) (.int .i64 r) (.int .i64 p) (.int .i64 s) (.slice none 0 0) (.slice (some ⟨gO, 0, none⟩) m cO) (.int .i64 0)
      replace RR := (((((((((RR.setOther (q := X) (by omega) 0 (.int .i64 n)).setOther (q := X) (by omega) 1 (.int .i64 l)).setOther (q := X) (by omega) 2 (.int .i64 d)).setOther (q := X) (by omega) 3 (.int .i64 r)).setOther (q := X) (by omega) 4 (.int .i64 p)).setOther (q := X) (by omega) 5 (.int .i64 s)).setOther (q := X) (by omega) 6 (.slice none 0 0)).setOther (q := X) (by omega) 7 (.slice (some ⟨gO, 0, none⟩) m cO)).setOther (q := X) (by omega) 8 (.int .i64 0))
      replace pO := (((((((((pO.setOther (q := X) (by omega) 0 (.int .i64 n)).setOther (q := X) (by omega) 1 (.int .i64 l)).setOther (q := X) (by omega) 2 (.int .i64 d)).setOther (q := X) (by omega) 3 (.int .i64 r)).setOther (q := X) (by omega) 4 (.int .i64 p)).setOther (q := X) (by omega) 5 (.int .i64 s)).setOther (q := X) (by omega) 6 (.slice none 0 0)).setOther (q := X) (by omega) 7 (.slice (some ⟨gO, 0, none⟩) m cO)).setOther (q := X) (by omega) 8 (.int .i64 0))
      clear RX bs6 e0 f0 e1 f1 e2 f2 e3 f3 e4 f4 e5 f5 e6 f6 e7 f7 e8 f8
      try dsimp only
      refine hK.out _ _ kvs6 ?_; clear hK K hHeld; intro hHeld; try simp only [Act.put, List.setIfInBounds_toArray, List.set_cons_zero, List.set_cons_succ]
      refine wpAnyH_done (by kernel_rfl) ?_ _
      refine NoPanic.normal ?_
      have BB := hHeld.2.2.2.2.2.2.out
      clear hHeld
      go_wp2_with fail
      go_meet
      case rel => exact ⟨X, gO, cO, rfl, RX9, RR, pO.mono (by omega), hcO, by omega, by omega, by omega, BB⟩
    · go_simp
      have bs7 := (Below.refl w1d.heap.size w1d).alloc (Nat.le_refl _) (.cells #[.int .i64 0, .int .i64 0, .int .i64 0, .int .i64 0, .int .i64 0, .int .i64 0, .slice none 0 0, .slice none 0 0, .int .i64 0] 31)
      have RX := Room.new w1d z9 31
      have lX := RX.lt (by simp)
      have kvs7 := S6.keep hHeld bs7 (World.block_lt_of_cell? _ _ hHeld.1)
      have lRs7 := RR.lt (by simp)
      replace RR := RR.below bs7
      clear bs7
      obtain ⟨X, hX⟩ : ∃ X, X = w1d.heap.size := ⟨_, rfl⟩
      rw [← hX] at RX lX ⊢
      generalize w1d.alloc (.cells #[.int .i64 0, .int .i64 0, .int .i64 0, .int .i64 0, .int .i64 0, .int .i64 0, .slice none 0 0, .slice none 0 0, .int .i64 0] 31) = wX at kvs7 RX RR lX ⊢
      have zs7 : w.heap.size + 2 ≤ X := by rw [hX]; first | exact zz | (simp only [World.size_drew] at *; omega) | omega
      clear hX
      try dsimp only
      refine hK.out _ _ kvs7 ?_; clear hK K hHeld; intro hHeld; try simp only [Act.put, List.setIfInBounds_toArray, List.set_cons_zero, List.set_cons_succ]
      refine Tk.R 2 (some 12) (.call ⟨.value (.func 80), #[.tmp 11], #[29]⟩) 29 none (fun K hK => ?_)
      go_simp
      refine (l1Copy b off m mb os _ hz (fun j hj => by rw [hHeld.2.2.2.2.2.2.out.cell (p := ⟨b, off + j, none⟩) hb]; exact hc j hj) hm (by have := hHeld.2.2.2.2.2.2.out.size; omega)).mono ?_
      rintro e wO ⟨⟨gO, cO, rfl, oO⟩, bs8⟩
      have zs8 := bs8.size
      have kvs8 := S6.keep hHeld bs8 (World.block_lt_of_cell? _ _ hHeld.1)
      replace RR := RR.below bs8
      have lRs8 := RR.lt (by simp)
      replace RX := RX.below bs8
      have pO := oO
      have loO := pO.data.2.1
      have hiO := pO.lt
      have hcO := oO.data.2.2.1
      clear oO
      clear bs8
      try dsimp only
      refine hK.out _ _ kvs8 ?_; clear hK K hHeld; intro hHeld; try simp only [Act.put, List.setIfInBounds_toArray, List.set_cons_zero, List.set_cons_succ]
      refine Tk.W 3 (some 13) (.build 31 #[(0, .tmp 10), (2, .tmp 12)]) 31 none ?_
      refine Tk.R 5 none (.store 31 (.tmp 8) (.tmp 13)) 0 none (fun K hK => ?_)
      have f0 := RX.froz 0 rfl
      have f1 := RX.froz 1 rfl
      have f2 := RX.froz 2 rfl
      have f3 := RX.froz 3 rfl
      have f4 := RX.froz 4 rfl
      have f5 := RX.froz 5 rfl
      have f6 := RX.froz 6 rfl
      have f7 := RX.froz 7 rfl
      have f8 := RX.froz 8 rfl
      have e0 := RX.cell 0 rfl
      have e1 := RX.cell 1 rfl
      have e2 := RX.cell 2 rfl
      have e3 := RX.cell 3 rfl
      have e4 := RX.cell 4 rfl
      have e5 := RX.cell 5 rfl
      have e6 := RX.cell 6 rfl
      have e7 := RX.cell 7 rfl
      have e8 := RX.cell 8 rfl
      go_simp
      have bs10 := Rm.belowOver9 wO X (.int .i64 n) (.int .i64 l) (.int .i64 d) (.int .i64 r) (.int .i64 p) (.int .i64 s) (.slice none 0 0) (.slice (some ⟨gO, 0, none⟩) m cO) (.int .i64 0)
      have kvs10 := S6.keep hHeld bs10 (by omega)
      have RX9 := Rm.over9 RX (.int .i64 n) (.int .i64 l) (.int .i64 d) (.int .i64 r) (.int .i64 p) (.int .i64 s) (.slice none 0 0) (.slice (some ⟨gO, 0, none⟩) m cO) (.int .i64 0)
      replace RR := (((((((((RR.setOther (q := X) (by omega) 0 (.int .i64 n)).setOther (q := X) (by omega) 1 (.int .i64 l)).setOther (q := X) (by omega) 2 (.int .i64 d)).setOther (q := X) (by omega) 3 (.int .i64 r)).setOther (q := X) (by omega) 4 (.int .i64 p)).setOther (q := X) (by omega) 5 (.int .i64 s)).setOther (q := X) (by omega) 6 (.slice none 0 0)).setOther (q := X) (by omega) 7 (.slice (some ⟨gO, 0, none⟩) m cO)).setOther (q := X) (by omega) 8 (.int .i64 0))
      replace pO := (((((((((pO.setOther (q := X) (by omega) 0 (.int .i64 n)).setOther (q := X) (by omega) 1 (.int .i64 l)).setOther (q := X) (by omega) 2 (.int .i64 d)).setOther (q := X) (by omega) 3 (.int .i64 r)).setOther (q := X) (by omega) 4 (.int .i64 p)).setOther (q := X) (by omega) 5 (.int .i64 s)).setOther (q := X) (by omega) 6 (.slice none 0 0)).setOther (q := X) (by omega) 7 (.slice (some ⟨gO, 0, none⟩) m cO)).setOther (q := X) (by omega) 8 (.int .i64 0))
      clear RX bs10 e0 f0 e1 f1 e2 f2 e3 f3 e4 f4 e5 f5 e6 f6 e7 f7 e8 f8
      try dsimp only
      refine hK.out _ _ kvs10 ?_; clear hK K hHeld; intro hHeld; try simp only [Act.put, List.setIfInBounds_toArray, List.set_cons_zero, List.set_cons_succ]
      refine wpAnyH_done (by kernel_rfl) ?_ _
      refine NoPanic.normal ?_
      have BB := hHeld.2.2.2.2.2.2.out
      clear hHeld
      go_wp2_with fail
      go_meet
      case rel => exact ⟨X, gO, cO, rfl, RX9, RR, pO.mono (by omega), hcO, by omega, by omega, by omega, BB⟩
  case rest =>
    obtain ⟨X, gO, cO, rfl, H⟩ := hcut
    obtain ⟨RX, RR, pO, hcO, hX, hneO, hOX, BB⟩ := H.out
    clear H
    have lX := RX.lt (by simp)
    have lR := RR.lt (by simp)
    have lO := pO.lt
    obtain ⟨hzb, hrow⟩ := hr
    have HI : Hid (Room wc X (c9 n l d r p s (.slice none 0 0) (.slice (some ⟨gO, 0, none⟩) m cO) 0) ∧ Room wc (w.heap.size + 1) z9 ∧ Own wc w.heap.size gO m cO os ∧ Below w.heap.size w wc) := ⟨RX, RR, pO, BB⟩
    clear RX RR pO BB
    go_wp2_with fail
    go_loopw [9] (fun q wr => ∃ (j : Nat) (v : Value), j ≤ k ∧ q = .int .i64 (j : Int) ∧ wc.heap.size ≤ wr.heap.size ∧ Hid (wr.ownsRow wc.heap.size 2 1 v j (ints ((KL bs).take j))) ∧ Hid (Room wr X (c9 n l d r p s (v) (.slice (some ⟨gO, 0, none⟩) m cO) 0) ∧ Room wr (w.heap.size + 1) z9 ∧ Own wr w.heap.size gO m cO os ∧ Below w.heap.size w wr)) (fun q _ => k - (intOf q).toNat)
    case atStart => exact ⟨0, _, Nat.zero_le _, rfl, Nat.le_refl _, ⟨rfl, .inl ⟨rfl, by simp⟩⟩, HI.out⟩
    case round =>
      obtain ⟨j, v, hj, rfl, hsz, HO, HR⟩ := hrel
      obtain ⟨RX, RR, pO, BB⟩ := HR.out
      clear HR
      have lX1 := RX.lt (by simp)
      by_cases hlt : j < k
      · have hi : (j : Int) < k := by omega
        rcases hrow with hrow | ⟨bb, ob, rfl, hB, hcb⟩
        · omega
        have hc1 : w.cell? ⟨bb, ob + j, none⟩ = some (.bool (eb bs j)) := hcb j hlt
        rw [← BB.cell (p := ⟨bb, ob + j, none⟩) hB] at hc1
        have E0 : Hid ((KL bs).take (j + 1) = (KL bs).take j ++ [el (KL bs) j]) := take_el (KL bs) j (by omega)
        have hel := kl_el bs j
        have x6 := RX.cell 6 rfl
        have f6 := RX.froz 6 rfl
        cases hx : eb bs j with
        | true =>
          rw [hx] at hc1 hel
          have E : Hid ((KL bs).take (j + 1) = (KL bs).take j ++ [2]) := by unfold Hid; rw [E0.out, hel]; rfl
          clear hel E0
          go_wp2_with (at_builtin; refine wpList_append_own _ rfl (.tmp 25) (.tmp 26) 29 rfl wc.heap.size 2 i0 (.int .i64 0) 1 8 Try.underlying29 hi0 hz0 hz1 hz2 rfl (by decide) v j _ rfl (World.ownsRow.alloc (w := wr) HO.out _) ⟨wr.heap.size, 0, none⟩ 1 1 (ints [(2 : Int)]) rfl rfl (Ow.one_new wr (2 : Int) _ _ rfl) (Ow.one _) (by unfold maxLen; omega) (by omega) (by simp; omega) ?_; intro v2 w2 hx2 hg2 hn2; have hne := fun g => own_ge HO.out g; have RX2 := Room.other' (RX.alloc _) hg2 (fun e => (by have := hne _ e; omega)); have RR2 := Room.other' (RR.alloc _) hg2 (fun e => (by have := hne _ e; omega)); have pO2 := Own.kept2 (pO.later ((Below.refl _ wr).alloc (Nat.le_refl _) _) pO.lt) hg2 (fun e => (by have := hne _ e; omega)); have BB2 : Below w.heap.size w w2 := (BB.alloc BB.size _).grown hg2 (by have := BB.size; simp; omega) (fun g e => (by have := hne g e; have := BB.size; omega)); have hs2 := hg2.size; simp at hs2; have HN : Hid (w2.ownsRow wc.heap.size 2 1 v2 (j + 1) (ints ((KL bs).take (j + 1)))) := (by unfold Hid; rw [E.out]; simpa [ints] using hx2); obtain ⟨a2, c2, rfl, -, -⟩ := own_any (n := j + 1) (zs := (KL bs).take (j + 1)) (by simp; omega) HN.out; clear hx2 hg2 hn2 hne HO RX RR pO BB x6 f6; have x6 := RX2.cell 6 rfl; have f6 := RX2.froz 6 rfl; have lX2 := RX2.lt (by simp); have RX3 := RX2.set 6 (.slice a2 (j + 1) c2); have RR3 := RR2.setOther (q := X) (by omega) 6 (.slice a2 (j + 1) c2); have pO3 := pO2.setOther (q := X) (by omega) 6 (.slice a2 (j + 1) c2); have BB3 := BB2.setCell (p := ⟨X, 6, none⟩) (by simp; omega) (.slice a2 (j + 1) c2); have HN3 : Hid ((w2.setCell ⟨X, 6, none⟩ (.slice a2 (j + 1) c2)).ownsRow wc.heap.size 2 1 (.slice a2 (j + 1) c2) (j + 1) (ints ((KL bs).take (j + 1)))) := own_set HN.out lX; clear HN)
          go_roundw
          case rel => exact ⟨j + 1, _, by omega, by go_num, by simp; omega, HN3, RX3, RR3, pO3, BB3⟩
          case measure => simp [intOf]; omega
        | false =>
          rw [hx] at hc1 hel
          have E : Hid ((KL bs).take (j + 1) = (KL bs).take j ++ [0]) := by unfold Hid; rw [E0.out, hel]; rfl
          clear hel E0
          go_wp2_with (at_builtin; refine wpList_append_own _ rfl (.tmp 30) (.tmp 31) 29 rfl wc.heap.size 2 i0 (.int .i64 0) 1 8 Try.underlying29 hi0 hz0 hz1 hz2 rfl (by decide) v j _ rfl (World.ownsRow.alloc (w := wr) HO.out _) ⟨wr.heap.size, 0, none⟩ 1 1 (ints [(0 : Int)]) rfl rfl (Ow.one_new wr (0 : Int) _ _ rfl) (Ow.one _) (by unfold maxLen; omega) (by omega) (by simp; omega) ?_; intro v2 w2 hx2 hg2 hn2; have hne := fun g => own_ge HO.out g; have RX2 := Room.other' (RX.alloc _) hg2 (fun e => (by have := hne _ e; omega)); have RR2 := Room.other' (RR.alloc _) hg2 (fun e => (by have := hne _ e; omega)); have pO2 := Own.kept2 (pO.later ((Below.refl _ wr).alloc (Nat.le_refl _) _) pO.lt) hg2 (fun e => (by have := hne _ e; omega)); have BB2 : Below w.heap.size w w2 := (BB.alloc BB.size _).grown hg2 (by have := BB.size; simp; omega) (fun g e => (by have := hne g e; have := BB.size; omega)); have hs2 := hg2.size; simp at hs2; have HN : Hid (w2.ownsRow wc.heap.size 2 1 v2 (j + 1) (ints ((KL bs).take (j + 1)))) := (by unfold Hid; rw [E.out]; simpa [ints] using hx2); obtain ⟨a2, c2, rfl, -, -⟩ := own_any (n := j + 1) (zs := (KL bs).take (j + 1)) (by simp; omega) HN.out; clear hx2 hg2 hn2 hne HO RX RR pO BB x6 f6; have x6 := RX2.cell 6 rfl; have f6 := RX2.froz 6 rfl; have lX2 := RX2.lt (by simp); have RX3 := RX2.set 6 (.slice a2 (j + 1) c2); have RR3 := RR2.setOther (q := X) (by omega) 6 (.slice a2 (j + 1) c2); have pO3 := pO2.setOther (q := X) (by omega) 6 (.slice a2 (j + 1) c2); have BB3 := BB2.setCell (p := ⟨X, 6, none⟩) (by simp; omega) (.slice a2 (j + 1) c2); have HN3 : Hid ((w2.setCell ⟨X, 6, none⟩ (.slice a2 (j + 1) c2)).ownsRow wc.heap.size 2 1 (.slice a2 (j + 1) c2) (j + 1) (ints ((KL bs).take (j + 1)))) := own_set HN.out lX; clear HN)
          go_roundw
          case rel => exact ⟨j + 1, _, by omega, by go_num, by simp; omega, HN3, RX3, RR3, pO3, BB3⟩
          case measure => simp [intOf]; omega
      · have hi : ¬ (j : Int) < k := by omega
        have e : j = k := by omega
        subst e
        obtain ⟨aK, cK, rfl, rK, oK⟩ := own_any (n := j) (zs := KL bs) (by omega) (by have q := HO.out; rw [List.take_of_length_le (by omega)] at q; exact q)
        clear HO
        have x0 := RX.cell 0 rfl
        have x1 := RX.cell 1 rfl
        have x2 := RX.cell 2 rfl
        have x3 := RX.cell 3 rfl
        have x4 := RX.cell 4 rfl
        have x5 := RX.cell 5 rfl
        have x6 := RX.cell 6 rfl
        have x7 := RX.cell 7 rfl
        have x8 := RX.cell 8 rfl
        go_wp2_with fail
        refine (s_WorldOk n l d r p s 0 _ _ j cK m cO (KL bs) os _ rK pO.row hk hm).mono ?_
        rintro e w3 ⟨rfl, b3⟩
        clear x0 x1 x2 x3 x4 x5 x6 x7 x8
        replace RX := RX.below b3
        replace RR := RR.below b3
        replace pO := pO.later b3 pO.lt
        replace BB := BB.trans (b3.mono BB.size)
        have r0 := RR.cell 0 rfl
        have r1 := RR.cell 1 rfl
        have r2 := RR.cell 2 rfl
        have r3 := RR.cell 3 rfl
        have r4 := RR.cell 4 rfl
        have r5 := RR.cell 5 rfl
        have r6 := RR.cell 6 rfl
        have r7 := RR.cell 7 rfl
        have r8 := RR.cell 8 rfl
        have f0 := RR.froz 0 rfl
        have f1 := RR.froz 1 rfl
        have f2 := RR.froz 2 rfl
        have f3 := RR.froz 3 rfl
        have f4 := RR.froz 4 rfl
        have f5 := RR.froz 5 rfl
        have f6 := RR.froz 6 rfl
        have f7 := RR.froz 7 rfl
        have f8 := RR.froz 8 rfl
        cases hq : WO n l d r p s (KL bs) j os m 0 with
        | false =>
          have RQ := Rm.over9 RR (.int .i64 0) (.int .i64 0) (.int .i64 0) (.int .i64 0) (.int .i64 0) (.int .i64 0) (.slice none 0 0) (.slice none 0 0) (.int .i64 0)
          have q0 := RQ.cell 0 rfl
          have q1 := RQ.cell 1 rfl
          have q2 := RQ.cell 2 rfl
          have q3 := RQ.cell 3 rfl
          have q4 := RQ.cell 4 rfl
          have q5 := RQ.cell 5 rfl
          have q6 := RQ.cell 6 rfl
          have q7 := RQ.cell 7 rfl
          have q8 := RQ.cell 8 rfl
          have BQ := (((((((((BB.setCell (p := ⟨w.heap.size + 1, 0, none⟩) (by simp) (.int .i64 0)).setCell (p := ⟨w.heap.size + 1, 1, none⟩) (by simp) (.int .i64 0)).setCell (p := ⟨w.heap.size + 1, 2, none⟩) (by simp) (.int .i64 0)).setCell (p := ⟨w.heap.size + 1, 3, none⟩) (by simp) (.int .i64 0)).setCell (p := ⟨w.heap.size + 1, 4, none⟩) (by simp) (.int .i64 0)).setCell (p := ⟨w.heap.size + 1, 5, none⟩) (by simp) (.int .i64 0)).setCell (p := ⟨w.heap.size + 1, 6, none⟩) (by simp) (.slice none 0 0)).setCell (p := ⟨w.heap.size + 1, 7, none⟩) (by simp) (.slice none 0 0)).setCell (p := ⟨w.heap.size + 1, 8, none⟩) (by simp) (.int .i64 0))
          go_wp2
          refine bodyPost_ret (v := .tuple #[.agg #[.int .i64 0, .int .i64 0, .int .i64 0, .int .i64 0, .int .i64 0, .int .i64 0, .slice none 0 0, .slice none 0 0, .int .i64 0], .bool false]) (by simp [results, Try.results28, go_sem, q0, q1, q2, q3, q4, q5, q6, q7, q8]) rfl ⟨⟨fun _ => rfl, fun h => (by rw [hq] at h; cases h)⟩, BQ⟩
        | true =>
          obtain ⟨gK, rfl, oK2⟩ := oK (wo_pos hq)
          have hcK := oK2.data.2.2.1
          have pK := (oK2.has).later b3 oK2.lt
          have loK := pK.2.1
          clear oK oK2 rK
          have nK : w.heap.size + 1 ≠ gK := by omega
          have x0 := RX.cell 0 rfl
          have x1 := RX.cell 1 rfl
          have x2 := RX.cell 2 rfl
          have x3 := RX.cell 3 rfl
          have x4 := RX.cell 4 rfl
          have x5 := RX.cell 5 rfl
          have x6 := RX.cell 6 rfl
          have x7 := RX.cell 7 rfl
          have x8 := RX.cell 8 rfl
          have pK9 := (((((((((pK.setOther (q := w.heap.size + 1) (by omega) 0 (.int .i64 n)).setOther (q := w.heap.size + 1) (by omega) 1 (.int .i64 l)).setOther (q := w.heap.size + 1) (by omega) 2 (.int .i64 d)).setOther (q := w.heap.size + 1) (by omega) 3 (.int .i64 r)).setOther (q := w.heap.size + 1) (by omega) 4 (.int .i64 p)).setOther (q := w.heap.size + 1) (by omega) 5 (.int .i64 s)).setOther (q := w.heap.size + 1) (by omega) 6 (.slice (some ⟨gK, 0, none⟩) j cK)).setOther (q := w.heap.size + 1) (by omega) 7 (.slice (some ⟨gO, 0, none⟩) m cO)).setOther (q := w.heap.size + 1) (by omega) 8 (.int .i64 0))
          have pO9 := (((((((((pO.setOther (q := w.heap.size + 1) (by omega) 0 (.int .i64 n)).setOther (q := w.heap.size + 1) (by omega) 1 (.int .i64 l)).setOther (q := w.heap.size + 1) (by omega) 2 (.int .i64 d)).setOther (q := w.heap.size + 1) (by omega) 3 (.int .i64 r)).setOther (q := w.heap.size + 1) (by omega) 4 (.int .i64 p)).setOther (q := w.heap.size + 1) (by omega) 5 (.int .i64 s)).setOther (q := w.heap.size + 1) (by omega) 6 (.slice (some ⟨gK, 0, none⟩) j cK)).setOther (q := w.heap.size + 1) (by omega) 7 (.slice (some ⟨gO, 0, none⟩) m cO)).setOther (q := w.heap.size + 1) (by omega) 8 (.int .i64 0))
          have RQ := Rm.over9 RR (.int .i64 n) (.int .i64 l) (.int .i64 d) (.int .i64 r) (.int .i64 p) (.int .i64 s) (.slice (some ⟨gK, 0, none⟩) j cK) (.slice (some ⟨gO, 0, none⟩) m cO) (.int .i64 0)
          have q0 := RQ.cell 0 rfl
          have q1 := RQ.cell 1 rfl
          have q2 := RQ.cell 2 rfl
          have q3 := RQ.cell 3 rfl
          have q4 := RQ.cell 4 rfl
          have q5 := RQ.cell 5 rfl
          have q6 := RQ.cell 6 rfl
          have q7 := RQ.cell 7 rfl
          have q8 := RQ.cell 8 rfl
          have BQ := (((((((((BB.setCell (p := ⟨w.heap.size + 1, 0, none⟩) (by simp) (.int .i64 n)).setCell (p := ⟨w.heap.size + 1, 1, none⟩) (by simp) (.int .i64 l)).setCell (p := ⟨w.heap.size + 1, 2, none⟩) (by simp) (.int .i64 d)).setCell (p := ⟨w.heap.size + 1, 3, none⟩) (by simp) (.int .i64 r)).setCell (p := ⟨w.heap.size + 1, 4, none⟩) (by simp) (.int .i64 p)).setCell (p := ⟨w.heap.size + 1, 5, none⟩) (by simp) (.int .i64 s)).setCell (p := ⟨w.heap.size + 1, 6, none⟩) (by simp) (.slice (some ⟨gK, 0, none⟩) j cK)).setCell (p := ⟨w.heap.size + 1, 7, none⟩) (by simp) (.slice (some ⟨gO, 0, none⟩) m cO)).setCell (p := ⟨w.heap.size + 1, 8, none⟩) (by simp) (.int .i64 0))
          go_wp2
          refine bodyPost_ret (v := .tuple #[.agg #[.int .i64 n, .int .i64 l, .int .i64 d, .int .i64 r, .int .i64 p, .int .i64 s, .slice (some ⟨gK, 0, none⟩) j cK, .slice (some ⟨gO, 0, none⟩) m cO, .int .i64 0], .bool true]) (by simp [results, Try.results28, go_sem, q0, q1, q2, q3, q4, q5, q6, q7, q8]) rfl ⟨⟨fun h => (by rw [hq] at h; cases h), fun _ => ⟨gK, gO, cK, cO, rfl, pK9.mono (by omega), pO9, by omega, hcK, hcO⟩⟩, BQ⟩

end Go.Proofs.Ytloicicgcdfgnaa.Wl

namespace Go.Proofs.Ytloicicgcdfgnaa.Lw
open Go.ChangeShapes Go.WideShapes Go.ChangeAt Go.RowKit
open Ls (el Row)
open Ow (Has Own ints)
open Rd (Flags)
open Wl (KL bad z9 c9 wld WO)
open Cf (cfg CP CR)
set_option linter.unusedVariables false
set_option linter.unusedSimpArgs false

theorem rm_step {w w' : World} {p g : Nat} {vs : List Value} (h : Rm.Room w g vs) (s : Dr.Step p w w') (hne : g ≠ p) (hn : 0 < vs.length) : Rm.Room w' g vs := h.block (s.block g (h.lt hn) hne)
theorem has_step {p : Nat} {w w' : World} {B g off n : Nat} {zs : List Int} (h : Has w B g off n zs) (s : Dr.Step p w w') (hne : g ≠ p) : Has w' B g off n zs := by
  have e : w'.heap[g]? = w.heap[g]? := s.block g h.2.2.1 hne
  exact ⟨h.1, h.2.1, by have := s.size; have := h.2.2.1; omega, fun k hk => by rw [World.cell?_of_block (w := w) (a := ⟨g, off + k, none⟩) e]; exact h.2.2.2.1 k hk, fun k hk => by rw [World.frozen?_of_block (w := w) (a := ⟨g, off + k, none⟩) e]; exact h.2.2.2.2 k hk⟩
theorem has_mono {w : World} {B B' g off n : Nat} {zs : List Int} (h : Has w B g off n zs) (hB : B' ≤ B) : Has w B' g off n zs := ⟨h.1, Nat.le_trans hB h.2.1, h.2.2⟩
theorem step_cut {p n : Nat} {w w1 w2 : World} (k : Dr.Step p w w1) (b : Below n w1 w2) (h : w.heap.size ≤ n) : Dr.Step p w w2 :=
  ⟨b.os.trans k.os, b.tape.trans k.tape, b.output.trans k.output, Nat.le_trans k.size b.size, fun j hj hn => (b.block j (Nat.lt_of_lt_of_le hj h)).trans (k.block j hj hn)⟩
theorem rm_grown {w w' : World} {p g : Nat} {vs : List Value} (h : Rm.Room w g vs) (hg : w.grownBy w' (some p)) (hne : g ≠ p) (hn : 0 < vs.length) : Rm.Room w' g vs := h.other hg hne
theorem flags_room {w : World} {g n : Nat} {bs : List Bool} (h : Rm.Room w g (bs.map .bool)) (hn : bs.length = n) (h0 : 0 < n) : Flags w w.heap.size (some ⟨g, 0, none⟩) n bs :=
  ⟨hn, .inr ⟨g, 0, rfl, h.lt (by simpa using hn ▸ h0), fun k hk => by
    rw [Nat.zero_add]
    refine h.cell k ?_
    rw [List.getElem?_map, List.getElem?_eq_getElem (by omega)]
    simp [List.getD, List.getElem?_eq_getElem (show k < bs.length by omega)]⟩⟩
theorem bad_kl (bs : List Bool) : bad (KL bs) bs.length = bs.count true := by
  have key : ∀ k, k ≤ bs.length → bad (KL bs) k = (bs.take k).count true := by
    intro k
    induction k with
    | zero => intro _; rfl
    | succ k ih =>
      intro hk
      rw [bad, ih (by omega), Wl.kl_el, List.take_add_one, List.count_append, List.getElem?_eq_getElem (by omega)]
      have e : Bo.eb bs k = bs[k] := by simp [Bo.eb, List.getD, List.getElem?_eq_getElem (show k < bs.length by omega)]
      rw [e]
      cases bs[k] <;> simp
  rw [key _ (Nat.le_refl _), List.take_length]
/-- A right config that the laws roll. -/
theorem mesh_ok {n f d r s : Int} (n0 : 3 * f + 1 ≤ n) (n1 : n ≤ 3 * f + 2) (f0 : 0 ≤ f) (f1 : f ≤ 2) (d0 : 0 ≤ d) (d1 : d ≤ 11) (r0 : 0 ≤ r) (r1 : r ≤ 11) (s0 : 2 ≤ s) (s1 : s ≤ 10) : CR n f d r s = 0 ∧ CP n f d r 1000000 s = 0 := by
  have hR : CR n f d r s = 0 := Cf.cr_zero.2 ⟨Cf.n1_iff.2 ⟨by omega, by omega⟩, Cf.l1_iff.2 ⟨by omega, by omega⟩, Cf.r1_iff.2 ⟨⟨by omega, by omega⟩, ⟨by omega, by omega⟩, by omega, by omega⟩⟩
  refine ⟨hR, Cf.cp_zero.2 ⟨hR, ?_⟩⟩
  have q : (4 * d + 5 * r + 2) * s ≤ 101 * s := Int.mul_le_mul_of_nonneg_right (by omega) (by omega)
  unfold Cf.P1
  rw [Cf.pe_iff.2 ⟨by omega, by omega⟩, Bool.true_and]
  exact decide_eq_true (by omega)
/-- What the laws roll: a right world of 1 to 8 nodes, whose offs lie within far. -/
structure RW (far f d r s : Int) (k : Nat) (ks os : List Int) : Prop where
  f0 : 0 ≤ f
  f1 : f ≤ 2
  k0 : 3 * f + 1 ≤ k
  k1 : (k : Int) ≤ 3 * f + 2
  d0 : 0 ≤ d
  d1 : d ≤ 11
  r0 : 0 ≤ r
  r1 : r ≤ 11
  s0 : 2 ≤ s
  s1 : s ≤ 10
  kz : ks.length = k
  oz : os.length = k
  ok : ∀ j, j < k → 0 ≤ el ks j ∧ el ks j ≤ 2
  lo : ∀ j, j < k → -far ≤ el os j ∧ el os j ≤ far
  bad : (bad ks k : Int) ≤ f
theorem all_of {lo hi : Int} {zs : List Int} (h : Ad.Tm lo ∧ Ad.Tm hi ∧ lo ≤ hi) : ∀ k, (∀ j, j < k → lo ≤ el zs j ∧ el zs j ≤ hi) → Wl.allIn lo hi zs k = true
  | 0, _ => rfl
  | k + 1, q => by
    rw [Wl.allIn, all_of h k (fun j hj => q j (by omega)), Bool.true_and, Cf.lk_in h, Cf.in_c h]
    exact decide_eq_true (q k (by omega))
theorem RW.wo {far f d r s : Int} {k : Nat} {ks os : List Int} (h : RW far f d r s k ks os) (hf : far ≤ 1000000000000000) (t : Int) (t0 : 0 ≤ t) (t1 : t ≤ 1000000) : WO k f d r 1000000 s ks k os k t = true := by
  have c := (mesh_ok h.k0 h.k1 h.f0 h.f1 h.d0 h.d1 h.r0 h.r1 h.s0 h.s1).2
  unfold WO
  rw [c, all_of (by decide) k h.ok, all_of (by decide) k (fun j hj => by have := h.lo j hj; omega), Cf.in_c (by decide), decide_eq_true (show (0 : Int) ≤ t ∧ t ≤ 1000000 from ⟨t0, t1⟩), decide_eq_true h.bad]
  simp

theorem has_over9 {w : World} {B g off n : Nat} {zs : List Int} (h : Has w B g off n zs) {q : Nat} (hne : q ≠ g) (x0 x1 x2 x3 x4 x5 x6 x7 x8 : Value) :
    Has (((((((((w.setCell ⟨q, 0, none⟩ x0).setCell ⟨q, 1, none⟩ x1).setCell ⟨q, 2, none⟩ x2).setCell ⟨q, 3, none⟩ x3).setCell ⟨q, 4, none⟩ x4).setCell ⟨q, 5, none⟩ x5).setCell ⟨q, 6, none⟩ x6).setCell ⟨q, 7, none⟩ x7).setCell ⟨q, 8, none⟩ x8) B g off n zs :=
  ((((((((h.setOther hne 0 x0).setOther hne 1 x1).setOther hne 2 x2).setOther hne 3 x3).setOther hne 4 x4).setOther hne 5 x5).setOther hne 6 x6).setOther hne 7 x7).setOther hne 8 x8
theorem step_over9 {p g : Nat} {w0 w : World} (k : Dr.Step p w0 w) (h0 : w0.heap.size ≤ g) (x0 x1 x2 x3 x4 x5 x6 x7 x8 : Value) :
    Dr.Step p w0 (((((((((w.setCell ⟨g, 0, none⟩ x0).setCell ⟨g, 1, none⟩ x1).setCell ⟨g, 2, none⟩ x2).setCell ⟨g, 3, none⟩ x3).setCell ⟨g, 4, none⟩ x4).setCell ⟨g, 5, none⟩ x5).setCell ⟨g, 6, none⟩ x6).setCell ⟨g, 7, none⟩ x7).setCell ⟨g, 8, none⟩ x8) :=
  ((((((((k.setNew 0 h0 x0).setNew 1 h0 x1).setNew 2 h0 x2).setNew 3 h0 x3).setNew 4 h0 x4).setNew 5 h0 x5).setNew 6 h0 x6).setNew 7 h0 x7).setNew 8 h0 x8
theorem has_alloc {w : World} {B g off n : Nat} {zs : List Int} (h : Has w B g off n zs) (o : Obj) : Has (w.alloc o) B g off n zs := h.later ((Below.refl _ w).alloc (Nat.le_refl _) o) h.2.2.1
theorem wret9 {fn : Func} {ts : Array Value} {W : World} {R c : Nat} {n l d r q s t : Int} {aK aO : Option Addr} {k cK m cO : Nat} (hf : fn.results = #[.cell c 31]) (h2 : ts[c]? = some (.pointer (some ⟨R, 0, none⟩))) (h : Rm.Room W R (c9 n l d r q s (.slice aK k cK) (.slice aO m cO) t)) :
    (results fn ts).run Try.prog W = .ok (wld n l d r q s (.slice aK k cK) (.slice aO m cO) t) W := by
  have q0 := h.cell 0 rfl
  have q1 := h.cell 1 rfl
  have q2 := h.cell 2 rfl
  have q3 := h.cell 3 rfl
  have q4 := h.cell 4 rfl
  have q5 := h.cell 5 rfl
  have q6 := h.cell 6 rfl
  have q7 := h.cell 7 rfl
  have q8 := h.cell 8 rfl
  simp [results, hf, h2, go_sem, q0, q1, q2, q3, q4, q5, q6, q7, q8]

end Go.Proofs.Ytloicicgcdfgnaa.Lw

namespace Go.Proofs.Ytloicicgcdfgnaa.Lw
open Go.ChangeShapes Go.WideShapes Go.ChangeAt Go.RowKit
open Ls (el Row)
open Ow (Has Own ints)
open Ss (RowsAt ln rw_)
set_option linter.unusedVariables false
set_option linter.unusedSimpArgs false

theorem info_sl : (Try.prog.info? 29).map (fun i => (i.zero, i.size, i.bytes)) = some (some (.slice none 0 0), 1, 24) := by kernel_rfl

/-- v owns a row of j slices, each of which owns a row of k numbers. -/
def OSS (w : World) (B : Nat) (v : Value) (k j : Nat) (zss : List (List Int)) : Prop :=
  ∃ vs : List Value, w.ownsRow B 29 1 v j vs ∧ zss.length = j ∧ ∀ i, i < j → ∃ g c, vs[i]? = some (.slice (some ⟨g, 0, none⟩) k c) ∧ Own w B g k c (rw_ zss i)
theorem own_move {w w' : World} {B g k c : Nat} {zs : List Int} (h : Own w B g k c zs) (e : w'.heap[g]? = w.heap[g]?) : Own w' B g k c zs := by
  obtain ⟨h1, h2⟩ := h
  refine ⟨h1, ?_⟩
  rcases h2 with h2 | ⟨g', cap', cur, e', hB, hb', rest⟩
  · exact .inl h2
  · cases e'
    exact .inr ⟨g, c, cur, rfl, hB, by rw [e]; exact hb', rest⟩
theorem OSS.nil (w : World) (B k : Nat) : OSS w B (.slice none 0 0) k 0 [] := ⟨[], World.ownsRow_nil _ _ _ _, rfl, fun i hi => by omega⟩
theorem OSS.move {w w' : World} {B k j : Nat} {v : Value} {zss : List (List Int)} (h : OSS w B v k j zss) (row : Option Nat) (hb : ∀ b, B ≤ b → b < w.heap.size → some b ≠ row → w'.heap[b]? = w.heap[b]?) (hv : ∀ b, v.ownBlock = some b → row ≠ some b) (hr : ∀ b, row = some b → ∃ cur x, w.heap[b]? = some (.cells cur 29 x)) : OSS w' B v k j zss := by
  obtain ⟨vs, ho, hz, hi⟩ := h
  refine ⟨vs, ?_, hz, fun i q => ?_⟩
  · obtain ⟨h1, h2⟩ := ho
    refine ⟨h1, ?_⟩
    rcases h2 with h2 | ⟨g, cap, cur, rfl, hB, hg, rest⟩
    · exact .inl h2
    · exact .inr ⟨g, cap, cur, rfl, hB, by rw [hb g hB (Array.getElem?_eq_some_iff.1 hg).1 (fun e => hv g rfl e.symm)]; exact hg, rest⟩
  · obtain ⟨g, c, e, o⟩ := hi i q
    refine ⟨g, c, e, own_move o (hb g o.data.2.1 o.lt (fun e2 => ?_))⟩
    obtain ⟨cur, x, e3⟩ := hr g e2.symm
    obtain ⟨_, _, _, _, cur2, e4, _⟩ := o.data
    rw [e4] at e3
    injection e3 with e3
    injection e3 with e5 e6 e7
    exact absurd e6 (by decide)
theorem OSS.step {w w' : World} {B k j p : Nat} {v : Value} {zss : List (List Int)} (h : OSS w B v k j zss) (s : Dr.Step p w w') (hp : p < B) : OSS w' B v k j zss :=
  h.move none (fun b hB hl _ => s.block b hl (by omega)) (fun b _ e => by cases e) (fun b e => by cases e)
theorem OSS.below {w w' : World} {B k j : Nat} {v : Value} {zss : List (List Int)} (h : OSS w B v k j zss) (s : Below w.heap.size w w') : OSS w' B v k j zss :=
  h.move none (fun b hB hl _ => s.block b hl) (fun b _ e => by cases e) (fun b e => by cases e)
theorem OSS.set {w : World} {B k j q i : Nat} {v u : Value} {zss : List (List Int)} (h : OSS w B v k j zss) (hq : q < B) : OSS (w.setCell ⟨q, i, none⟩ u) B v k j zss :=
  h.move none (fun b hB hl _ => Below.heap_setCell _ _ _ _ (by simp; omega)) (fun b _ e => by cases e) (fun b e => by cases e)
theorem OSS.block {w : World} {B k j b : Nat} {v : Value} {zss : List (List Int)} (h : OSS w B v k j zss) (e : v.ownBlock = some b) : B ≤ b ∧ b < w.heap.size ∧ ∃ cur x, w.heap[b]? = some (.cells cur 29 x) := by
  obtain ⟨vs, ho, hz, hi⟩ := h
  rcases ho.2 with ⟨rfl, _⟩ | ⟨g, cap, cur, rfl, hB, hg, rest⟩
  · cases e
  · cases e
    exact ⟨hB, (Array.getElem?_eq_some_iff.1 hg).1, cur, _, hg⟩
/-- Another row that has grown. -/
theorem OSS.other {w w' : World} {B k j k2 j2 : Nat} {v v2 : Value} {zss zss2 : List (List Int)} (h : OSS w B v k j zss) (h2 : OSS w B v2 k2 j2 zss2) {o : Obj} (hg : (w.alloc o).grownBy w' v2.ownBlock) (hv : ∀ b, v.ownBlock = some b → v2.ownBlock ≠ some b) : OSS w' B v k j zss :=
  h.move v2.ownBlock (fun b hB hl hne => by rw [hg.block b (by simp; omega) hne]; exact Below.heap_alloc _ _ _ hl) hv (fun b e => (h2.block e).2.2)
/-- One more. -/
theorem OSS.more {w w' : World} {B k j g c : Nat} {v v' : Value} {zss : List (List Int)} {zs : List Int} {o : Obj} (h : OSS w B v k j zss) (hi : Own w B g k c zs) (hg : (w.alloc o).grownBy w' v.ownBlock)
    (ho : ∀ vs, w.ownsRow B 29 1 v j vs → w'.ownsRow B 29 1 v' (j + 1) (vs ++ [.slice (some ⟨g, 0, none⟩) k c])) : OSS w' B v' k (j + 1) (zss ++ [zs]) := by
  have hk : ∀ {g c zs}, Own w B g k c zs → Own w' B g k c zs := fun {g c zs} o => by
    refine own_move o ?_
    rw [hg.block g (by have := o.lt; simp; omega) (fun e2 => ?_)]
    · exact Below.heap_alloc _ _ _ o.lt
    · obtain ⟨_, _, cur, x, e3⟩ := h.block e2.symm
      obtain ⟨_, _, _, _, cur2, e4, _⟩ := o.data
      rw [e4] at e3
      injection e3 with e3
      injection e3 with e5 e6 e7
      exact absurd e6 (by decide)
  obtain ⟨vs, h1, hz, hx⟩ := h
  have hl : vs.length = j := by have := h1.1; omega
  refine ⟨_, ho vs h1, by simp [hz], fun i hq => ?_⟩
  by_cases e : i < j
  · obtain ⟨g1, c1, e1, o1⟩ := hx i e
    refine ⟨g1, c1, by rw [List.getElem?_append_left (by omega)]; exact e1, ?_⟩
    have : rw_ (zss ++ [zs]) i = rw_ zss i := by simp [rw_, List.getElem?_append_left (by omega : i < zss.length)]
    rw [this]; exact hk o1
  · have e2 : i = j := by omega
    subst e2
    refine ⟨g, c, by rw [List.getElem?_append_right (by omega), hl]; simp, ?_⟩
    have : rw_ (zss ++ [zs]) i = zs := by simp [rw_, List.getElem?_append_right (by omega : zss.length ≤ i), hz]
    rw [this]; exact hk hi
theorem OSS.rows {w : World} {B k j : Nat} {v : Value} {zss : List (List Int)} (h : OSS w B v k j zss) (hj : 0 < j) : ∃ g c, v = .slice (some ⟨g, 0, none⟩) j c ∧ B ≤ g ∧ RowsAt w w.heap.size (some ⟨g, 0, none⟩) j zss := by
  obtain ⟨vs, ho, hz, hi⟩ := h
  rcases ho.2 with ⟨_, h0⟩ | ⟨g, cap, cur, rfl, hB, hg, q1, q2, q3, q4⟩
  · omega
  · refine ⟨g, cap, rfl, hB, hz, .inr ⟨g, 0, rfl, (Array.getElem?_eq_some_iff.1 hg).1, fun i q => ?_⟩⟩
    obtain ⟨g1, c1, e1, o1⟩ := hi i q
    have hl : ln zss i = k := o1.data.1
    refine ⟨some ⟨g1, 0, none⟩, c1, ?_, ?_⟩
    · rw [hl]
      simp only [World.cell?, hg, Nat.zero_add]
      have e2 : cur.toList[i]? = some (.slice (some ⟨g1, 0, none⟩) k c1) := by
        rw [← q4] at e1
        rw [List.getElem?_take] at e1
        split at e1
        · exact e1
        · cases e1
      simpa using e2
    · rw [hl]; exact o1.has.row

end Go.Proofs.Ytloicicgcdfgnaa.Lw

namespace Go.Proofs.Ytloicicgcdfgnaa.Lw
open Go.ChangeShapes Go.WideShapes Go.ChangeAt Go.RowKit
open Ls (el Row)
open Ow (Has Own ints)
open Rd (Flags)
open Wl (KL bad z9 c9 wld WO)
open Cf (cfg CP CR)
open Di (St)
set_option linter.unusedVariables false
set_option linter.unusedSimpArgs false

theorem st_over9 {w0 : World} {B p : Nat} {a : Option Addr} {len cap : Nat} {w : World} (st : St w0 B p a len cap w) {g : Nat} (h0 : w0.heap.size ≤ g) (hp : g ≠ p) (hB : B ≤ g) (x0 x1 x2 x3 x4 x5 x6 x7 x8 : Value) :
    St w0 B p a len cap (((((((((w.setCell ⟨g, 0, none⟩ x0).setCell ⟨g, 1, none⟩ x1).setCell ⟨g, 2, none⟩ x2).setCell ⟨g, 3, none⟩ x3).setCell ⟨g, 4, none⟩ x4).setCell ⟨g, 5, none⟩ x5).setCell ⟨g, 6, none⟩ x6).setCell ⟨g, 7, none⟩ x7).setCell ⟨g, 8, none⟩ x8) :=
  ((((((((st.setNew 0 h0 hp hB x0).setNew 1 h0 hp hB x1).setNew 2 h0 hp hB x2).setNew 3 h0 hp hB x3).setNew 4 h0 hp hB x4).setNew 5 h0 hp hB x5).setNew 6 h0 hp hB x6).setNew 7 h0 hp hB x7).setNew 8 h0 hp hB x8
set_option maxHeartbeats 8000000 in
set_option maxRecDepth 100000 in
theorem world (B p : Nat) (a : Option Addr) (len cap : Nat) (far : Int) (hf0 : 0 ≤ far) (hf1 : far ≤ 1000000) (w0 w : World) (st : St w0 B p a len cap w) :
    Calls Try.prog 14 #[.pointer (some ⟨p, 0, none⟩), .int .i64 far] w fun e w' => (∃ (f d r s : Int) (k gK cK gO cO : Nat), e = .returned (wld k f d r 1000000 s (.slice (some ⟨gK, 0, none⟩) k cK) (.slice (some ⟨gO, 0, none⟩) k cO) 0) ∧ ∃ ks os : List Int, Has w' w.heap.size gK 0 k ks ∧ Has w' w.heap.size gO 0 k os ∧ gK ≠ gO ∧ RW far f d r s k ks os) ∧ St w0 B p a len cap w' ∧ Dr.Step p w w' := by
  obtain ⟨i0, hi, hz0, hz1, hz2⟩ := info_parts Ls.info
  have hpl := st.lt
  have hle := st.le
  have h0w := st.step.size
  have RR := Rm.Room.new w z9 31
  have st1 := st.obj (.cells z9.toArray 31)
  have k1 : Dr.Step p w (w.alloc (.cells z9.toArray 31)) := (Dr.Step.refl p w).alloc _
  go_enter Try.func14, Try.ntmps14
  go_wp2_with fail
  refine (Di.mesh w0 B p a len cap _ st1).mono ?_
  rintro e w1 ⟨⟨f, d, r, s, N, gL, rfl, bs, ⟨hbl, hbc, RL, hgL⟩, ⟨f0, f1⟩, ⟨n0, n1⟩, ⟨d0, d1⟩, ⟨r0, r1⟩, s0, s1⟩, st2, k2⟩
  replace RR := rm_step RR k2 (by omega) (by decide)
  replace k2 := k1.trans k2
  have RL' : Rm.Room w1 gL (bs.map .bool) := RL
  clear RL st1 k1
  have z1 := k2.size
  simp at hgL
  have RX := Rm.Room.new w1 [.int .i64 N, .int .i64 f, .int .i64 d, .int .i64 r, .int .i64 1000000, .int .i64 s] 28
  have b1 : Below w1.heap.size w1 (w1.alloc (.cells #[.int .i64 N, .int .i64 f, .int .i64 d, .int .i64 r, .int .i64 1000000, .int .i64 s] 28)) := (Below.refl _ w1).alloc (Nat.le_refl _) _
  have hRL := RL'.lt (by simp; omega)
  have hRR := RR.lt (by decide)
  replace RR := RR.below b1
  replace RL' := RL'.below b1
  have st3 := st2.below b1
  have k3 := step_cut k2 b1 z1
  have z2 := b1.size
  have hX : w1.heap.size < (w1.alloc (.cells #[.int .i64 N, .int .i64 f, .int .i64 d, .int .i64 r, .int .i64 1000000, .int .i64 s] 28)).heap.size := RX.lt (by simp)
  have hp1 := st2.lt
  have E2 : Hid ((w1.alloc (.cells #[.int .i64 N, .int .i64 f, .int .i64 d, .int .i64 r, .int .i64 1000000, .int .i64 s] 28)).heap.size = w1.heap.size + 1) := by unfold Hid; simp
  clear st2 k2 b1 z1
  go_wp2_with fail
  generalize (w1.alloc (.cells #[.int .i64 N, .int .i64 f, .int .i64 d, .int .i64 r, .int .i64 1000000, .int .i64 s] 28)) = w2 at RX RR RL' st3 k3 z2 hX E2 ⊢
  have hz4 := k3.size
  go_loopw [7, 8] (fun v q wr => ∃ (j g c : Nat) (zs : List Int), j ≤ N ∧ q = .int .i64 j ∧ v = .slice (some ⟨g, 0, none⟩) j c ∧ Own wr w2.heap.size g j c zs ∧ Hid (∀ x ∈ zs, -far ≤ x ∧ x ≤ far) ∧ St w0 B p a len cap wr ∧ Dr.Step p w wr ∧ Rm.Room wr w.heap.size z9 ∧ Rm.Room wr w1.heap.size [.int .i64 N, .int .i64 f, .int .i64 d, .int .i64 r, .int .i64 1000000, .int .i64 s] ∧ Rm.Room wr gL (bs.map .bool)) (fun _ q _ => N - (intOf q).toNat)
  case atStart => exact ⟨0, w1.heap.size + 1, 0, [], Nat.zero_le _, rfl, rfl, (by rw [← E2.out]; exact World.ownsRow_made w2 #[] 0 (Nat.le_refl _) (by unfold maxLen; omega) rfl), (fun x hx => by cases hx), st3.obj _, k3.alloc _, RR.alloc _, RX.alloc _, RL'.alloc _⟩
  case round =>
    obtain ⟨j, g, c, zs, hj, rfl, rfl, ho, HB, sr, kr, RRr, RXr, RLr⟩ := hrel
    have hgB := ho.data.2.1
    have hzl := ho.data.1
    have c0 := RXr.cell 0 rfl
    by_cases hlt : j < N
    · have hi' : (j : Int) < (N : Int) := by omega
      go_wp2_with fail
      clear c0
      refine (Di.around wr B p a len cap far hf0 (by omega) wr ⟨sr.cur, Dr.Step.refl _ _⟩).mono ?_
      rintro e w3 ⟨⟨x, rfl, x0, x1⟩, s3⟩
      have h2z := E2.out
      have ho1 := Rw.own_step ho s3.step (by omega)
      have sr1 : St w0 B p a len cap w3 := ⟨s3.cur, sr.step.trans s3.step⟩
      have kr1 := kr.trans s3.step
      replace RRr := rm_step RRr s3.step (by omega) (by decide)
      replace RXr := rm_step RXr s3.step (by omega) (by simp)
      replace RLr := rm_step RLr s3.step (by omega) (by simp; omega)
      have sz1 := kr1.size
      have sz3 := ho1.lt
      have HO1 : Hid (Own w3 w2.heap.size g j c zs) := ho1
      clear ho ho1 s3 sr kr h2z
      go_wp2_with (at_builtin; refine wpList_append_own _ rfl (.tmp 23) (.tmp 27) 29 rfl w2.heap.size 2 i0 (.int .i64 0) 1 8 Try.underlying29 hi hz0 hz1 hz2 rfl (by decide) _ _ _ rfl (World.ownsRow.alloc (w := w3) HO1.out _) ⟨w3.heap.size, 0, none⟩ 1 1 (ints [x]) rfl rfl (Ow.one_new w3 x _ _ rfl) (Ow.one _) (by unfold maxLen; omega) (by omega) (by simp; omega) ?_; intro v2 w4 hx2 hg2 hn2)
      obtain ⟨g2, c2, rfl, ho2⟩ := Rw.more (w1 := w3) (g := g) (c := c) hx2 (Ow.no_nil hn2 rfl)
      have h2z := E2.out
      have sr2 : St w0 B p a len cap w4 := Rw.di_grown (g := g) (Rw.di_alloc sr1 _ (by omega)) hg2 (by omega) (by omega) (by omega)
      have kr2 : Dr.Step p w w4 := Rw.step_grown (g := g) (kr1.alloc _) hg2 (by omega)
      replace RRr := (RRr.alloc _).other (b := g) hg2 (by omega)
      replace RXr := (RXr.alloc _).other (b := g) hg2 (by omega)
      replace RLr := (RLr.alloc _).other (b := g) hg2 (by omega)
      clear hx2 hg2 hn2 sr1 HO1 kr1 h2z
      go_wp2_with fail
      go_roundw
      case rel => exact ⟨j + 1, g2, c2, zs ++ [x], by omega, by go_num, rfl, ho2, (fun y hy => by rcases List.mem_append.1 hy with hy | hy; exact HB.out y hy; rw [List.mem_singleton] at hy; subst hy; exact ⟨x0, x1⟩), sr2, kr2, RRr, RXr, RLr⟩
      case measure => simp [intOf]; omega
    · have e : j = N := by omega
      subst e
      have c1 := RXr.cell 1 rfl
      have c2 := RXr.cell 2 rfl
      have c3 := RXr.cell 3 rfl
      have c4 := RXr.cell 4 rfl
      have c5 := RXr.cell 5 rfl
      have HO := ho.has
      have zr := kr.size
      go_wp2_with fail
      refine (Wl.s_NewWorldO j f d r 1000000 s g 0 j c (some ⟨gL, 0, none⟩) j j bs zs _ HO.1 HO.2.2.2.1 HO.2.2.1 (flags_room RLr hbl (by omega)) (by omega) (by omega)).mono ?_
      rintro e w5 ⟨⟨-, hq⟩, b5⟩
      have hA : ∀ i, i < j → -far ≤ el zs i ∧ el zs i ≤ far := fun i hi => by
        have e : el zs i = zs[i]'(by omega) := by simp [el, List.getD, show i < zs.length by omega]
        rw [e]
        exact HB.out _ (List.getElem_mem _)
      have hW : RW far f d r s j (KL bs) zs := ⟨f0, f1, n0, n1, d0, d1, r0, r1, s0, s1, by rw [Wl.kl_len]; exact hbl, HO.1, fun i _ => by rw [Wl.kl_el]; split <;> decide, hA, by rw [← hbl, bad_kl]; exact hbc⟩
      obtain ⟨gK, gO, cK, cO, rfl, hK, hO, hne, -, -⟩ := hq (hW.wo (by omega) 0 (by omega) (by omega))
      have oO := hO.has
      clear hq hO hA HB ho HO RLr RL'
      have st5 := sr.below b5
      have k5 := step_cut kr b5 kr.size
      have lRr := RRr.lt (by decide)
      replace RRr := RRr.below b5
      have lK := hK.2.1
      have lO := oO.2.1
      have uK := hK.2.2.1
      have uO := oO.2.2.1
      have lR := RRr.lt (by decide)
      have z5 := b5.size
      have r0 := RRr.cell 0 rfl
      have r1 := RRr.cell 1 rfl
      have r2 := RRr.cell 2 rfl
      have r3 := RRr.cell 3 rfl
      have r4 := RRr.cell 4 rfl
      have r5 := RRr.cell 5 rfl
      have r6 := RRr.cell 6 rfl
      have r7 := RRr.cell 7 rfl
      have r8 := RRr.cell 8 rfl
      have f0' := RRr.froz 0 rfl
      have f1' := RRr.froz 1 rfl
      have f2' := RRr.froz 2 rfl
      have f3' := RRr.froz 3 rfl
      have f4' := RRr.froz 4 rfl
      have f5' := RRr.froz 5 rfl
      have f6' := RRr.froz 6 rfl
      have f7' := RRr.froz 7 rfl
      have f8' := RRr.froz 8 rfl
      go_wp2_with fail
      have RQ := (Rm.over9 RRr (.int .i64 j) (.int .i64 f) (.int .i64 d) (.int .i64 r) (.int .i64 1000000) (.int .i64 s) (.slice (some ⟨gK, 0, none⟩) j cK) (.slice (some ⟨gO, 0, none⟩) j cO) (.int .i64 0)).alloc (.cells #[.int .i64 j, .int .i64 f, .int .i64 d, .int .i64 r, .int .i64 1000000, .int .i64 s, .slice (some ⟨gK, 0, none⟩) j cK, .slice (some ⟨gO, 0, none⟩) j cO, .int .i64 0] 31)
      have hK9 := has_alloc (has_over9 (has_mono hK (show w.heap.size ≤ wr.heap.size by omega)) (q := w.heap.size) (by omega) (.int .i64 j) (.int .i64 f) (.int .i64 d) (.int .i64 r) (.int .i64 1000000) (.int .i64 s) (.slice (some ⟨gK, 0, none⟩) j cK) (.slice (some ⟨gO, 0, none⟩) j cO) (.int .i64 0)) (.cells #[.int .i64 j, .int .i64 f, .int .i64 d, .int .i64 r, .int .i64 1000000, .int .i64 s, .slice (some ⟨gK, 0, none⟩) j cK, .slice (some ⟨gO, 0, none⟩) j cO, .int .i64 0] 31)
      have hO9 := has_alloc (has_over9 (has_mono oO (show w.heap.size ≤ wr.heap.size by omega)) (q := w.heap.size) (by omega) (.int .i64 j) (.int .i64 f) (.int .i64 d) (.int .i64 r) (.int .i64 1000000) (.int .i64 s) (.slice (some ⟨gK, 0, none⟩) j cK) (.slice (some ⟨gO, 0, none⟩) j cO) (.int .i64 0)) (.cells #[.int .i64 j, .int .i64 f, .int .i64 d, .int .i64 r, .int .i64 1000000, .int .i64 s, .slice (some ⟨gK, 0, none⟩) j cK, .slice (some ⟨gO, 0, none⟩) j cO, .int .i64 0] 31)
      refine bodyPost_ret (v := wld j f d r 1000000 s (.slice (some ⟨gK, 0, none⟩) j cK) (.slice (some ⟨gO, 0, none⟩) j cO) 0) (wret9 Try.results14 rfl RQ) rfl ⟨⟨f, d, r, s, j, gK, cK, gO, cO, rfl, KL bs, zs, hK9, hO9, hne, hW⟩, (st_over9 st5 (by omega) (by omega) (by omega) (.int .i64 j) (.int .i64 f) (.int .i64 d) (.int .i64 r) (.int .i64 1000000) (.int .i64 s) (.slice (some ⟨gK, 0, none⟩) j cK) (.slice (some ⟨gO, 0, none⟩) j cO) (.int .i64 0)).obj _, (step_over9 k5 (Nat.le_refl _) (.int .i64 j) (.int .i64 f) (.int .i64 d) (.int .i64 r) (.int .i64 1000000) (.int .i64 s) (.slice (some ⟨gK, 0, none⟩) j cK) (.slice (some ⟨gO, 0, none⟩) j cO) (.int .i64 0)).alloc _⟩

end Go.Proofs.Ytloicicgcdfgnaa.Lw
