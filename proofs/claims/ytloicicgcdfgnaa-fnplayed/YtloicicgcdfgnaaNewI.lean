/-
  impl.NewWorld: a new world, in new memory, or the zero world.
-/
import Derived.Test.YtloicicgcdfgnaaNew
import Derived.Test.YtloicicgcdfgnaaPut
import Derived.Deep.RegionHeld3
import Derived.Deep.Cut
import Derived.Test.YtloicicgcdfgnaaTk
namespace Go.Proofs.Ytloicicgcdfgnaa.Wl
open Go.ChangeShapes Go.WideShapes Go.ChangeAt Go.RowKit
open Ls (el Row)
open Rm (Room)
open Ow (Has Own ints)
open Rd (Flags)
open Bo (eb HasB)
open Cf (cfg CP)
set_option linter.unusedVariables false
set_option linter.unusedSimpArgs false

abbrev S6 (w : World) (n l d r p s : Int) (w' : World) : Prop := w'.cell? ⟨w.heap.size, 0, none⟩ = some (.int .i64 n) ∧ w'.cell? ⟨w.heap.size, 1, none⟩ = some (.int .i64 l) ∧ w'.cell? ⟨w.heap.size, 2, none⟩ = some (.int .i64 d) ∧ w'.cell? ⟨w.heap.size, 3, none⟩ = some (.int .i64 r) ∧ w'.cell? ⟨w.heap.size, 4, none⟩ = some (.int .i64 p) ∧ w'.cell? ⟨w.heap.size, 5, none⟩ = some (.int .i64 s) ∧ Hid (Below w.heap.size w w')
theorem S6.bel {w w' : World} {n l d r p s : Int} (h : S6 w n l d r p s w') : Below w.heap.size w w' := h.2.2.2.2.2.2.out
theorem S6.keep {w w' w2 : World} {X : Nat} {n l d r p s : Int} (h : S6 w n l d r p s w') (hb : Below X w' w2) (hX : w.heap.size < X) : S6 w n l d r p s w2 := by
  have e : ∀ i, w2.cell? ⟨w.heap.size, i, none⟩ = w'.cell? ⟨w.heap.size, i, none⟩ := fun i => hb.cell (p := ⟨w.heap.size, i, none⟩) hX
  have q := h.bel
  obtain ⟨h0, h1, h2, h3, h4, h5, h9⟩ := h
  exact ⟨(e 0).trans h0, (e 1).trans h1, (e 2).trans h2, (e 3).trans h3, (e 4).trans h4, (e 5).trans h5, q.trans (hb.mono (by omega))⟩
theorem s6 {w w' : World} {n l d r p s : Int} (h : Room w' w.heap.size [.int .i64 n, .int .i64 l, .int .i64 d, .int .i64 r, .int .i64 p, .int .i64 s]) (hb : Below w.heap.size w w') : S6 w n l d r p s w' :=
  ⟨h.cell 0 rfl, h.cell 1 rfl, h.cell 2 rfl, h.cell 3 rfl, h.cell 4 rfl, h.cell 5 rfl, hb⟩

set_option maxHeartbeats 8000000 in
theorem i_NewWorld (n l d r p s : Int) (b off m mb : Nat) (a : Option Addr) (k ka : Nat) (bs : List Bool) (os : List Int) (w : World) (hz : os.length = m) (hc : ∀ j, j < m → w.cell? ⟨b, off + j, none⟩ = some (.int .i64 (el os j))) (hb : b < w.heap.size) (hr : Flags w w.heap.size a k bs) (hk : k ≤ 1048576) (hm : m ≤ 1048576) :
    Calls Try.prog 27 #[cfg n l d r p s, .slice (some ⟨b, off, none⟩) m mb, .slice a k ka] w fun e w' => ((WO n l d r p s (KL bs) k os m 0 = false → e = .returned (.tuple #[wld 0 0 0 0 0 0 (.slice none 0 0) (.slice none 0 0) 0, .bool false])) ∧ (WO n l d r p s (KL bs) k os m 0 = true → ∃ g h c c', e = .returned (.tuple #[wld n l d r p s (.slice (some ⟨g, 0, none⟩) k c) (.slice (some ⟨h, 0, none⟩) m c') 0, .bool true]) ∧ Has w' w.heap.size g 0 k (KL bs) ∧ Has w' w.heap.size h 0 m os ∧ g ≠ h ∧ k ≤ c ∧ m ≤ c')) ∧ Below w.heap.size w w' := by
  have R0 := (Room.new w [.int .i64 n, .int .i64 l, .int .i64 d, .int .i64 r, .int .i64 p, .int .i64 s] 28).alloc (.cells #[.int .i64 0, .int .i64 0, .int .i64 0, .int .i64 0, .int .i64 0, .int .i64 0, .slice none 0 0, .slice none 0 0, .int .i64 0] 31)
  have RR : Room ((w.alloc (.cells #[.int .i64 n, .int .i64 l, .int .i64 d, .int .i64 r, .int .i64 p, .int .i64 s] 28)).alloc (.cells #[.int .i64 0, .int .i64 0, .int .i64 0, .int .i64 0, .int .i64 0, .int .i64 0, .slice none 0 0, .slice none 0 0, .int .i64 0] 31)) (w.heap.size + 1) z9 := Room.at _ z9 31 _ (by simp)
  have BB := ((Below.refl w.heap.size w).alloc (Nat.le_refl _) (.cells #[.int .i64 n, .int .i64 l, .int .i64 d, .int .i64 r, .int .i64 p, .int .i64 s] 28)).alloc (by simp) (.cells #[.int .i64 0, .int .i64 0, .int .i64 0, .int .i64 0, .int .i64 0, .int .i64 0, .slice none 0 0, .slice none 0 0, .int .i64 0] 31)
  have zz : w.heap.size + 2 ≤ ((w.alloc (.cells #[.int .i64 n, .int .i64 l, .int .i64 d, .int .i64 r, .int .i64 p, .int .i64 s] 28)).alloc (.cells #[.int .i64 0, .int .i64 0, .int .i64 0, .int .i64 0, .int .i64 0, .int .i64 0, .slice none 0 0, .slice none 0 0, .int .i64 0] 31)).heap.size := by simp
  go_enter Try.func27, Try.ntmps27
  go_wp2_with fail
  generalize (w.alloc (.cells #[.int .i64 n, .int .i64 l, .int .i64 d, .int .i64 r, .int .i64 p, .int .i64 s] 28)).alloc (.cells #[.int .i64 0, .int .i64 0, .int .i64 0, .int .i64 0, .int .i64 0, .int .i64 0, .slice none 0 0, .slice none 0 0, .int .i64 0] 31) = w1 at R0 RR BB zz ⊢
  have S0 := s6 R0 BB
  replace RR := RR.drew
  replace zz : w.heap.size + 2 ≤ w1.drew.heap.size := zz
  clear R0 BB
  go_cut [8] from 9 (fun p8 wc => ∃ X gK gO cO : Nat, p8 = .pointer (some ⟨X, 0, none⟩) ∧ Hid (Room wc X (c9 n l d r p s (.slice (some ⟨gK, 0, none⟩) k k) (.slice (some ⟨gO, 0, none⟩) m cO) 0) ∧ Room wc (w.heap.size + 1) z9 ∧ Has wc w.heap.size gK 0 k (KL bs) ∧ Has wc w.heap.size gO 0 m os ∧ gK ≠ gO ∧ m ≤ cO ∧ w.heap.size + 1 < X ∧ w.heap.size + 1 ≠ gK ∧ w.heap.size + 1 ≠ gO ∧ Below w.heap.size w wc))
  case first =>
    refine wp_region_noPanic ?_
    refine wp_region_held_drew (S := (fun w' => w'.cell? ⟨w.heap.size, 0, none⟩ = some (.int .i64 n) ∧ w'.cell? ⟨w.heap.size, 1, none⟩ = some (.int .i64 l) ∧ w'.cell? ⟨w.heap.size, 2, none⟩ = some (.int .i64 d) ∧ w'.cell? ⟨w.heap.size, 3, none⟩ = some (.int .i64 r) ∧ w'.cell? ⟨w.heap.size, 4, none⟩ = some (.int .i64 p) ∧ w'.cell? ⟨w.heap.size, 5, none⟩ = some (.int .i64 s) ∧ Hid (Below w.heap.size w w'))) (by kernel_rfl) (S6.keep S0 (Below.refl _ _).drew (World.block_lt_of_cell? _ _ S0.1)) (fun hHeld => ?_)
    generalize w1.drew = w1d at hHeld RR zz ⊢
    refine Tk.W 0 (some 9) (.load 28 (.tmp 3)) 28 none ?_
    refine Tk.W 1 (some 10) (.move (.tmp 2)) 35 none ?_
    refine Tk.W 3 (some 12) (.move (.tmp 1)) 29 none ?_
    refine wpAnyH_ready (rs := [2, 6]) (by kernel_rfl) (by simp) ?_
    refine (AllReadyH.cons (o := ⟨some 11, .call ⟨.value (.func 78), #[.tmp 10], #[35]⟩, 29, _, _, none⟩) rfl (fun K hK => ?_) (AllReadyH.cons (o := ⟨some 8, .alloc 31, 0, _, _, none⟩) rfl (fun K hK => ?_) AllReadyH.nil))
    · go_simp
      refine (kindsOf a k ka bs _ ((hr.later hHeld.2.2.2.2.2.2.out (Nat.le_refl _)).more hHeld.2.2.2.2.2.2.out.size) hk).mono ?_
      rintro e wK ⟨⟨gK, rfl, pK⟩, bq4⟩
      have zq4 := bq4.size
      have kvq4 := S6.keep hHeld bq4 (World.block_lt_of_cell? _ _ hHeld.1)
      replace RR := RR.below bq4
      have lRq4 := RR.lt (by simp)
      have loK := pK.2.1
      have hiK := pK.2.2.1
      clear bq4
      try dsimp only
      refine hK.out _ _ kvq4 ?_; clear hK K hHeld; intro hHeld; try simp only [Act.put, List.setIfInBounds_toArray, List.set_cons_zero, List.set_cons_succ]
      refine wpAnyH_ready (rs := [4, 6]) (by kernel_rfl) (by simp) ?_
      refine (AllReadyH.cons (o := ⟨some 13, .call ⟨.value (.func 79), #[.tmp 12], #[29]⟩, 29, _, _, none⟩) rfl (fun K hK => ?_) (AllReadyH.cons (o := ⟨some 8, .alloc 31, 0, _, _, none⟩) rfl (fun K hK => ?_) AllReadyH.nil))
      · go_simp
        refine (clone b off m mb os _ hz (fun j hj => by rw [hHeld.2.2.2.2.2.2.out.cell (p := ⟨b, off + j, none⟩) hb]; exact hc j hj) hm (by have := hHeld.2.2.2.2.2.2.out.size; omega)).mono ?_
        rintro e wO ⟨⟨gO, cO, rfl, oO⟩, bq5⟩
        have zq5 := bq5.size
        have kvq5 := S6.keep hHeld bq5 (World.block_lt_of_cell? _ _ hHeld.1)
        replace RR := RR.below bq5
        have lRq5 := RR.lt (by simp)
        replace pK := pK.later bq5 pK.2.2.1
        have pO := oO.has
        have loO := pO.2.1
        have hiO := pO.2.2.1
        have hcO := oO.data.2.2.1
        clear oO
        clear bq5
        try dsimp only
        refine hK.out _ _ kvq5 ?_; clear hK K hHeld; intro hHeld; try simp only [Act.put, List.setIfInBounds_toArray, List.set_cons_zero, List.set_cons_succ]
        refine Tk.W 5 (some 14) (.build 31 #[(0, .tmp 9), (1, .tmp 11), (2, .tmp 13)]) 31 none ?_
        refine Tk.R 6 (some 8) (.alloc 31) 0 none (fun K hK => ?_)
        go_simp
        have bq7 := (Below.refl wO.heap.size wO).alloc (Nat.le_refl _) (.cells #[.int .i64 0, .int .i64 0, .int .i64 0, .int .i64 0, .int .i64 0, .int .i64 0, .slice none 0 0, .slice none 0 0, .int .i64 0] 31)
        have RX := Room.new wO z9 31
        have lX := RX.lt (by simp)
        have kvq7 := S6.keep hHeld bq7 (World.block_lt_of_cell? _ _ hHeld.1)
        have lRq7 := RR.lt (by simp)
        replace RR := RR.below bq7
        have uq7pK := pK.2.2.1
        replace pK := pK.later bq7 pK.2.2.1
        have uq7pO := pO.2.2.1
        replace pO := pO.later bq7 pO.2.2.1
        clear bq7
        obtain ⟨X, hX⟩ : ∃ X, X = wO.heap.size := ⟨_, rfl⟩
        rw [← hX] at RX lX uq7pK uq7pO ⊢
        generalize wO.alloc (.cells #[.int .i64 0, .int .i64 0, .int .i64 0, .int .i64 0, .int .i64 0, .int .i64 0, .slice none 0 0, .slice none 0 0, .int .i64 0] 31) = wX at kvq7 RX RR lX pK pO ⊢
        have zq7 : w.heap.size + 2 ≤ X := by rw [hX]; first | exact zz | (simp only [World.size_drew] at *; omega) | omega
        clear hX
        try dsimp only
        refine hK.out _ _ kvq7 ?_; clear hK K hHeld; intro hHeld; try simp only [Act.put, List.setIfInBounds_toArray, List.set_cons_zero, List.set_cons_succ]
        refine Tk.R 7 none (.store 31 (.tmp 8) (.tmp 14)) 0 none (fun K hK => ?_)
        have f0 := RX.froz 0 rfl
        have f1 := RX.froz 1 rfl
        have f2 := RX.froz 2 rfl
        have f3 := RX.froz 3 rfl
        have f4 := RX.froz 4 rfl
        have f5 := RX.froz 5 rfl
        have f6 := RX.froz 6 rfl
        have f7 := RX.froz 7 rfl
        have f8 := RX.froz 8 rfl
        have e0 := RX.cell 0 rfl
        have e1 := RX.cell 1 rfl
        have e2 := RX.cell 2 rfl
        have e3 := RX.cell 3 rfl
        have e4 := RX.cell 4 rfl
        have e5 := RX.cell 5 rfl
        have e6 := RX.cell 6 rfl
        have e7 := RX.cell 7 rfl
        have e8 := RX.cell 8 rfl
        go_simp
        have bq8 := Rm.belowOver9 wX X (.int .i64 n) (.int .i64 l) (.int .i64 d) (.int .i64 r) (.int .i64 p) (.int .i64 s) (.slice (some ⟨gK, 0, none⟩) k k) (.slice (some ⟨gO, 0, none⟩) m cO) (.int .i64 0)
        have kvq8 := S6.keep hHeld bq8 (by omega)
        have RX9 := Rm.over9 RX (.int .i64 n) (.int .i64 l) (.int .i64 d) (.int .i64 r) (.int .i64 p) (.int .i64 s) (.slice (some ⟨gK, 0, none⟩) k k) (.slice (some ⟨gO, 0, none⟩) m cO) (.int .i64 0)
        replace RR := (((((((((RR.setOther (q := X) (by omega) 0 (.int .i64 n)).setOther (q := X) (by omega) 1 (.int .i64 l)).setOther (q := X) (by omega) 2 (.int .i64 d)).setOther (q := X) (by omega) 3 (.int .i64 r)).setOther (q := X) (by omega) 4 (.int .i64 p)).setOther (q := X) (by omega) 5 (.int .i64 s)).setOther (q := X) (by omega) 6 (.slice (some ⟨gK, 0, none⟩) k k)).setOther (q := X) (by omega) 7 (.slice (some ⟨gO, 0, none⟩) m cO)).setOther (q := X) (by omega) 8 (.int .i64 0))
        replace pK := (((((((((pK.setOther (q := X) (by omega) 0 (.int .i64 n)).setOther (q := X) (by omega) 1 (.int .i64 l)).setOther (q := X) (by omega) 2 (.int .i64 d)).setOther (q := X) (by omega) 3 (.int .i64 r)).setOther (q := X) (by omega) 4 (.int .i64 p)).setOther (q := X) (by omega) 5 (.int .i64 s)).setOther (q := X) (by omega) 6 (.slice (some ⟨gK, 0, none⟩) k k)).setOther (q := X) (by omega) 7 (.slice (some ⟨gO, 0, none⟩) m cO)).setOther (q := X) (by omega) 8 (.int .i64 0))
        replace pO := (((((((((pO.setOther (q := X) (by omega) 0 (.int .i64 n)).setOther (q := X) (by omega) 1 (.int .i64 l)).setOther (q := X) (by omega) 2 (.int .i64 d)).setOther (q := X) (by omega) 3 (.int .i64 r)).setOther (q := X) (by omega) 4 (.int .i64 p)).setOther (q := X) (by omega) 5 (.int .i64 s)).setOther (q := X) (by omega) 6 (.slice (some ⟨gK, 0, none⟩) k k)).setOther (q := X) (by omega) 7 (.slice (some ⟨gO, 0, none⟩) m cO)).setOther (q := X) (by omega) 8 (.int .i64 0))
        clear RX bq8 e0 f0 e1 f1 e2 f2 e3 f3 e4 f4 e5 f5 e6 f6 e7 f7 e8 f8
        try dsimp only
        refine hK.out _ _ kvq8 ?_; clear hK K hHeld; intro hHeld; try simp only [Act.put, List.setIfInBounds_toArray, List.set_cons_zero, List.set_cons_succ]
        refine wpAnyH_done (by kernel_rfl) ?_ _
        refine NoPanic.normal ?_
        have BB := hHeld.2.2.2.2.2.2.out
        clear hHeld
        go_wp2_with fail
        go_meet
        case rel => exact ⟨X, gK, gO, cO, rfl, RX9, RR, pK.mono (by omega), pO.mono (by omega), by omega, hcO, by omega, by omega, by omega, BB⟩
      · go_simp
        have bq9 := (Below.refl wK.heap.size wK).alloc (Nat.le_refl _) (.cells #[.int .i64 0, .int .i64 0, .int .i64 0, .int .i64 0, .int .i64 0, .int .i64 0, .slice none 0 0, .slice none 0 0, .int .i64 0] 31)
        have RX := Room.new wK z9 31
        have lX := RX.lt (by simp)
        have kvq9 := S6.keep hHeld bq9 (World.block_lt_of_cell? _ _ hHeld.1)
        have lRq9 := RR.lt (by simp)
        replace RR := RR.below bq9
        have uq9pK := pK.2.2.1
        replace pK := pK.later bq9 pK.2.2.1
        clear bq9
        obtain ⟨X, hX⟩ : ∃ X, X = wK.heap.size := ⟨_, rfl⟩
        rw [← hX] at RX lX uq9pK ⊢
        generalize wK.alloc (.cells #[.int .i64 0, .int .i64 0, .int .i64 0, .int .i64 0, .int .i64 0, .int .i64 0, .slice none 0 0, .slice none 0 0, .int .i64 0] 31) = wX at kvq9 RX RR lX pK ⊢
        have zq9 : w.heap.size + 2 ≤ X := by rw [hX]; first | exact zz | (simp only [World.size_drew] at *; omega) | omega
        clear hX
        try dsimp only
        refine hK.out _ _ kvq9 ?_; clear hK K hHeld; intro hHeld; try simp only [Act.put, List.setIfInBounds_toArray, List.set_cons_zero, List.set_cons_succ]
        refine Tk.R 4 (some 13) (.call ⟨.value (.func 79), #[.tmp 12], #[29]⟩) 29 none (fun K hK => ?_)
        go_simp
        refine (clone b off m mb os _ hz (fun j hj => by rw [hHeld.2.2.2.2.2.2.out.cell (p := ⟨b, off + j, none⟩) hb]; exact hc j hj) hm (by have := hHeld.2.2.2.2.2.2.out.size; omega)).mono ?_
        rintro e wO ⟨⟨gO, cO, rfl, oO⟩, bq10⟩
        have zq10 := bq10.size
        have kvq10 := S6.keep hHeld bq10 (World.block_lt_of_cell? _ _ hHeld.1)
        replace RR := RR.below bq10
        have lRq10 := RR.lt (by simp)
        replace RX := RX.below bq10
        replace pK := pK.later bq10 pK.2.2.1
        have pO := oO.has
        have loO := pO.2.1
        have hiO := pO.2.2.1
        have hcO := oO.data.2.2.1
        clear oO
        clear bq10
        try dsimp only
        refine hK.out _ _ kvq10 ?_; clear hK K hHeld; intro hHeld; try simp only [Act.put, List.setIfInBounds_toArray, List.set_cons_zero, List.set_cons_succ]
        refine Tk.W 5 (some 14) (.build 31 #[(0, .tmp 9), (1, .tmp 11), (2, .tmp 13)]) 31 none ?_
        refine Tk.R 7 none (.store 31 (.tmp 8) (.tmp 14)) 0 none (fun K hK => ?_)
        have f0 := RX.froz 0 rfl
        have f1 := RX.froz 1 rfl
        have f2 := RX.froz 2 rfl
        have f3 := RX.froz 3 rfl
        have f4 := RX.froz 4 rfl
        have f5 := RX.froz 5 rfl
        have f6 := RX.froz 6 rfl
        have f7 := RX.froz 7 rfl
        have f8 := RX.froz 8 rfl
        have e0 := RX.cell 0 rfl
        have e1 := RX.cell 1 rfl
        have e2 := RX.cell 2 rfl
        have e3 := RX.cell 3 rfl
        have e4 := RX.cell 4 rfl
        have e5 := RX.cell 5 rfl
        have e6 := RX.cell 6 rfl
        have e7 := RX.cell 7 rfl
        have e8 := RX.cell 8 rfl
        go_simp
        have bq12 := Rm.belowOver9 wO X (.int .i64 n) (.int .i64 l) (.int .i64 d) (.int .i64 r) (.int .i64 p) (.int .i64 s) (.slice (some ⟨gK, 0, none⟩) k k) (.slice (some ⟨gO, 0, none⟩) m cO) (.int .i64 0)
        have kvq12 := S6.keep hHeld bq12 (by omega)
        have RX9 := Rm.over9 RX (.int .i64 n) (.int .i64 l) (.int .i64 d) (.int .i64 r) (.int .i64 p) (.int .i64 s) (.slice (some ⟨gK, 0, none⟩) k k) (.slice (some ⟨gO, 0, none⟩) m cO) (.int .i64 0)
        replace RR := (((((((((RR.setOther (q := X) (by omega) 0 (.int .i64 n)).setOther (q := X) (by omega) 1 (.int .i64 l)).setOther (q := X) (by omega) 2 (.int .i64 d)).setOther (q := X) (by omega) 3 (.int .i64 r)).setOther (q := X) (by omega) 4 (.int .i64 p)).setOther (q := X) (by omega) 5 (.int .i64 s)).setOther (q := X) (by omega) 6 (.slice (some ⟨gK, 0, none⟩) k k)).setOther (q := X) (by omega) 7 (.slice (some ⟨gO, 0, none⟩) m cO)).setOther (q := X) (by omega) 8 (.int .i64 0))
        replace pK := (((((((((pK.setOther (q := X) (by omega) 0 (.int .i64 n)).setOther (q := X) (by omega) 1 (.int .i64 l)).setOther (q := X) (by omega) 2 (.int .i64 d)).setOther (q := X) (by omega) 3 (.int .i64 r)).setOther (q := X) (by omega) 4 (.int .i64 p)).setOther (q := X) (by omega) 5 (.int .i64 s)).setOther (q := X) (by omega) 6 (.slice (some ⟨gK, 0, none⟩) k k)).setOther (q := X) (by omega) 7 (.slice (some ⟨gO, 0, none⟩) m cO)).setOther (q := X) (by omega) 8 (.int .i64 0))
        replace pO := (((((((((pO.setOther (q := X) (by omega) 0 (.int .i64 n)).setOther (q := X) (by omega) 1 (.int .i64 l)).setOther (q := X) (by omega) 2 (.int .i64 d)).setOther (q := X) (by omega) 3 (.int .i64 r)).setOther (q := X) (by omega) 4 (.int .i64 p)).setOther (q := X) (by omega) 5 (.int .i64 s)).setOther (q := X) (by omega) 6 (.slice (some ⟨gK, 0, none⟩) k k)).setOther (q := X) (by omega) 7 (.slice (some ⟨gO, 0, none⟩) m cO)).setOther (q := X) (by omega) 8 (.int .i64 0))
        clear RX bq12 e0 f0 e1 f1 e2 f2 e3 f3 e4 f4 e5 f5 e6 f6 e7 f7 e8 f8
        try dsimp only
        refine hK.out _ _ kvq12 ?_; clear hK K hHeld; intro hHeld; try simp only [Act.put, List.setIfInBounds_toArray, List.set_cons_zero, List.set_cons_succ]
        refine wpAnyH_done (by kernel_rfl) ?_ _
        refine NoPanic.normal ?_
        have BB := hHeld.2.2.2.2.2.2.out
        clear hHeld
        go_wp2_with fail
        go_meet
        case rel => exact ⟨X, gK, gO, cO, rfl, RX9, RR, pK.mono (by omega), pO.mono (by omega), by omega, hcO, by omega, by omega, by omega, BB⟩
    · go_simp
      have bq13 := (Below.refl w1d.heap.size w1d).alloc (Nat.le_refl _) (.cells #[.int .i64 0, .int .i64 0, .int .i64 0, .int .i64 0, .int .i64 0, .int .i64 0, .slice none 0 0, .slice none 0 0, .int .i64 0] 31)
      have RX := Room.new w1d z9 31
      have lX := RX.lt (by simp)
      have kvq13 := S6.keep hHeld bq13 (World.block_lt_of_cell? _ _ hHeld.1)
      have lRq13 := RR.lt (by simp)
      replace RR := RR.below bq13
      clear bq13
      obtain ⟨X, hX⟩ : ∃ X, X = w1d.heap.size := ⟨_, rfl⟩
      rw [← hX] at RX lX ⊢
      generalize w1d.alloc (.cells #[.int .i64 0, .int .i64 0, .int .i64 0, .int .i64 0, .int .i64 0, .int .i64 0, .slice none 0 0, .slice none 0 0, .int .i64 0] 31) = wX at kvq13 RX RR lX ⊢
      have zq13 : w.heap.size + 2 ≤ X := by rw [hX]; first | exact zz | (simp only [World.size_drew] at *; omega) | omega
      clear hX
      try dsimp only
      refine hK.out _ _ kvq13 ?_; clear hK K hHeld; intro hHeld; try simp only [Act.put, List.setIfInBounds_toArray, List.set_cons_zero, List.set_cons_succ]
      refine Tk.R 2 (some 11) (.call ⟨.value (.func 78), #[.tmp 10], #[35]⟩) 29 none (fun K hK => ?_)
      go_simp
      refine (kindsOf a k ka bs _ ((hr.later hHeld.2.2.2.2.2.2.out (Nat.le_refl _)).more hHeld.2.2.2.2.2.2.out.size) hk).mono ?_
      rintro e wK ⟨⟨gK, rfl, pK⟩, bq14⟩
      have zq14 := bq14.size
      have kvq14 := S6.keep hHeld bq14 (World.block_lt_of_cell? _ _ hHeld.1)
      replace RR := RR.below bq14
      have lRq14 := RR.lt (by simp)
      replace RX := RX.below bq14
      have loK := pK.2.1
      have hiK := pK.2.2.1
      clear bq14
      try dsimp only
      refine hK.out _ _ kvq14 ?_; clear hK K hHeld; intro hHeld; try simp only [Act.put, List.setIfInBounds_toArray, List.set_cons_zero, List.set_cons_succ]
      refine Tk.R 4 (some 13) (.call ⟨.value (.func 79), #[.tmp 12], #[29]⟩) 29 none (fun K hK => ?_)
      go_simp
      refine (clone b off m mb os _ hz (fun j hj => by rw [hHeld.2.2.2.2.2.2.out.cell (p := ⟨b, off + j, none⟩) hb]; exact hc j hj) hm (by have := hHeld.2.2.2.2.2.2.out.size; omega)).mono ?_
      rintro e wO ⟨⟨gO, cO, rfl, oO⟩, bq15⟩
      have zq15 := bq15.size
      have kvq15 := S6.keep hHeld bq15 (World.block_lt_of_cell? _ _ hHeld.1)
      replace RR := RR.below bq15
      have lRq15 := RR.lt (by simp)
      replace RX := RX.below bq15
      replace pK := pK.later bq15 pK.2.2.1
      have pO := oO.has
      have loO := pO.2.1
      have hiO := pO.2.2.1
      have hcO := oO.data.2.2.1
      clear oO
      clear bq15
      try dsimp only
      refine hK.out _ _ kvq15 ?_; clear hK K hHeld; intro hHeld; try simp only [Act.put, List.setIfInBounds_toArray, List.set_cons_zero, List.set_cons_succ]
      refine Tk.W 5 (some 14) (.build 31 #[(0, .tmp 9), (1, .tmp 11), (2, .tmp 13)]) 31 none ?_
      refine Tk.R 7 none (.store 31 (.tmp 8) (.tmp 14)) 0 none (fun K hK => ?_)
      have f0 := RX.froz 0 rfl
      have f1 := RX.froz 1 rfl
      have f2 := RX.froz 2 rfl
      have f3 := RX.froz 3 rfl
      have f4 := RX.froz 4 rfl
      have f5 := RX.froz 5 rfl
      have f6 := RX.froz 6 rfl
      have f7 := RX.froz 7 rfl
      have f8 := RX.froz 8 rfl
      have e0 := RX.cell 0 rfl
      have e1 := RX.cell 1 rfl
      have e2 := RX.cell 2 rfl
      have e3 := RX.cell 3 rfl
      have e4 := RX.cell 4 rfl
      have e5 := RX.cell 5 rfl
      have e6 := RX.cell 6 rfl
      have e7 := RX.cell 7 rfl
      have e8 := RX.cell 8 rfl
      go_simp
      have bq17 := Rm.belowOver9 wO X (.int .i64 n) (.int .i64 l) (.int .i64 d) (.int .i64 r) (.int .i64 p) (.int .i64 s) (.slice (some ⟨gK, 0, none⟩) k k) (.slice (some ⟨gO, 0, none⟩) m cO) (.int .i64 0)
      have kvq17 := S6.keep hHeld bq17 (by omega)
      have RX9 := Rm.over9 RX (.int .i64 n) (.int .i64 l) (.int .i64 d) (.int .i64 r) (.int .i64 p) (.int .i64 s) (.slice (some ⟨gK, 0, none⟩) k k) (.slice (some ⟨gO, 0, none⟩) m cO) (.int .i64 0)
      replace RR := (((((((((RR.setOther (q := X) (by omega) 0 (.int .i64 n)).setOther (q := X) (by omega) 1 (.int .i64 l)).setOther (q := X) (by omega) 2 (.int .i64 d)).setOther (q := X) (by omega) 3 (.int .i64 r)).setOther (q := X) (by omega) 4 (.int .i64 p)).setOther (q := X) (by omega) 5 (.int .i64 s)).setOther (q := X) (by omega) 6 (.slice (some ⟨gK, 0, none⟩) k k)).setOther (q := X) (by omega) 7 (.slice (some ⟨gO, 0, none⟩) m cO)).setOther (q := X) (by omega) 8 (.int .i64 0))
      replace pK := (((((((((pK.setOther (q := X) (by omega) 0 (.int .i64 n)).setOther (q := X) (by omega) 1 (.int .i64 l)).setOther (q := X) (by omega) 2 (.int .i64 d)).setOther (q := X) (by omega) 3 (.int .i64 r)).setOther (q := X) (by omega) 4 (.int .i64 p)).setOther (q := X) (by omega) 5 (.int .i64 s)).setOther (q := X) (by omega) 6 (.slice (some ⟨gK, 0, none⟩) k k)).setOther (q := X) (by omega) 7 (.slice (some ⟨gO, 0, none⟩) m cO)).setOther (q := X) (by omega) 8 (.int .i64 0))
      replace pO := (((((((((pO.setOther (q := X) (by omega) 0 (.int .i64 n)).setOther (q := X) (by omega) 1 (.int .i64 l)).setOther (q := X) (by omega) 2 (.int .i64 d)).setOther (q := X) (by omega) 3 (.int .i64 r)).setOther (q := X) (by omega) 4 (.int .i64 p)).setOther (q := X) (by omega) 5 (.int .i64 s)).setOther (q := X) (by omega) 6 (.slice (some ⟨gK, 0, none⟩) k k)).setOther (q := X) (by omega) 7 (.slice (some ⟨gO, 0, none⟩) m cO)).setOther (q := X) (by omega) 8 (.int .i64 0))
      clear RX bq17 e0 f0 e1 f1 e2 f2 e3 f3 e4 f4 e5 f5 e6 f6 e7 f7 e8 f8
      try dsimp only
      refine hK.out _ _ kvq17 ?_; clear hK K hHeld; intro hHeld; try simp only [Act.put, List.setIfInBounds_toArray, List.set_cons_zero, List.set_cons_succ]
      refine wpAnyH_done (by kernel_rfl) ?_ _
      refine NoPanic.normal ?_
      have BB := hHeld.2.2.2.2.2.2.out
      clear hHeld
      go_wp2_with fail
      go_meet
      case rel => exact ⟨X, gK, gO, cO, rfl, RX9, RR, pK.mono (by omega), pO.mono (by omega), by omega, hcO, by omega, by omega, by omega, BB⟩
  case rest =>
    obtain ⟨X, gK, gO, cO, rfl, H⟩ := hcut
    obtain ⟨RX, RR, pK, pO, hne, hcO, hX, hneK, hneO, BB⟩ := H.out
    clear H
    have x0 := RX.cell 0 rfl
    have x1 := RX.cell 1 rfl
    have x2 := RX.cell 2 rfl
    have x3 := RX.cell 3 rfl
    have x4 := RX.cell 4 rfl
    have x5 := RX.cell 5 rfl
    have x6 := RX.cell 6 rfl
    have x7 := RX.cell 7 rfl
    have x8 := RX.cell 8 rfl
    go_wp2_with fail
    refine (i_WorldOk n l d r p s 0 _ _ k k m cO (KL bs) os _ pK.row pO.row hk hm).mono ?_
    rintro e w3 ⟨rfl, b3⟩
    clear x0 x1 x2 x3 x4 x5 x6 x7 x8
    replace RX := RX.below b3
    replace RR := RR.below b3
    replace pK := pK.later b3 pK.2.2.1
    replace pO := pO.later b3 pO.2.2.1
    replace BB := BB.trans (b3.mono BB.size)
    have lR := RR.lt (by simp)
    have uK := pK.2.2.1
    have uO := pO.2.2.1
    have r0 := RR.cell 0 rfl
    have r1 := RR.cell 1 rfl
    have r2 := RR.cell 2 rfl
    have r3 := RR.cell 3 rfl
    have r4 := RR.cell 4 rfl
    have r5 := RR.cell 5 rfl
    have r6 := RR.cell 6 rfl
    have r7 := RR.cell 7 rfl
    have r8 := RR.cell 8 rfl
    have f0 := RR.froz 0 rfl
    have f1 := RR.froz 1 rfl
    have f2 := RR.froz 2 rfl
    have f3 := RR.froz 3 rfl
    have f4 := RR.froz 4 rfl
    have f5 := RR.froz 5 rfl
    have f6 := RR.froz 6 rfl
    have f7 := RR.froz 7 rfl
    have f8 := RR.froz 8 rfl
    cases hq : WO n l d r p s (KL bs) k os m 0 with
    | false =>
      have RQ := Rm.over9 RR (.int .i64 0) (.int .i64 0) (.int .i64 0) (.int .i64 0) (.int .i64 0) (.int .i64 0) (.slice none 0 0) (.slice none 0 0) (.int .i64 0)
      have q0 := RQ.cell 0 rfl
      have q1 := RQ.cell 1 rfl
      have q2 := RQ.cell 2 rfl
      have q3 := RQ.cell 3 rfl
      have q4 := RQ.cell 4 rfl
      have q5 := RQ.cell 5 rfl
      have q6 := RQ.cell 6 rfl
      have q7 := RQ.cell 7 rfl
      have q8 := RQ.cell 8 rfl
      have BQ := (((((((((BB.setCell (p := ⟨w.heap.size + 1, 0, none⟩) (by simp) (.int .i64 0)).setCell (p := ⟨w.heap.size + 1, 1, none⟩) (by simp) (.int .i64 0)).setCell (p := ⟨w.heap.size + 1, 2, none⟩) (by simp) (.int .i64 0)).setCell (p := ⟨w.heap.size + 1, 3, none⟩) (by simp) (.int .i64 0)).setCell (p := ⟨w.heap.size + 1, 4, none⟩) (by simp) (.int .i64 0)).setCell (p := ⟨w.heap.size + 1, 5, none⟩) (by simp) (.int .i64 0)).setCell (p := ⟨w.heap.size + 1, 6, none⟩) (by simp) (.slice none 0 0)).setCell (p := ⟨w.heap.size + 1, 7, none⟩) (by simp) (.slice none 0 0)).setCell (p := ⟨w.heap.size + 1, 8, none⟩) (by simp) (.int .i64 0))
      go_wp2
      refine bodyPost_ret (v := .tuple #[.agg #[.int .i64 0, .int .i64 0, .int .i64 0, .int .i64 0, .int .i64 0, .int .i64 0, .slice none 0 0, .slice none 0 0, .int .i64 0], .bool false]) (by simp [results, Try.results27, go_sem, q0, q1, q2, q3, q4, q5, q6, q7, q8]) rfl ⟨⟨fun _ => rfl, fun h => (by rw [hq] at h; cases h)⟩, BQ⟩
    | true =>
      have x0 := RX.cell 0 rfl
      have x1 := RX.cell 1 rfl
      have x2 := RX.cell 2 rfl
      have x3 := RX.cell 3 rfl
      have x4 := RX.cell 4 rfl
      have x5 := RX.cell 5 rfl
      have x6 := RX.cell 6 rfl
      have x7 := RX.cell 7 rfl
      have x8 := RX.cell 8 rfl
      have nK : w.heap.size + 1 ≠ gK := hneK
      have nO : w.heap.size + 1 ≠ gO := hneO
      have pK9 := (((((((((pK.setOther (q := w.heap.size + 1) (by omega) 0 (.int .i64 n)).setOther (q := w.heap.size + 1) (by omega) 1 (.int .i64 l)).setOther (q := w.heap.size + 1) (by omega) 2 (.int .i64 d)).setOther (q := w.heap.size + 1) (by omega) 3 (.int .i64 r)).setOther (q := w.heap.size + 1) (by omega) 4 (.int .i64 p)).setOther (q := w.heap.size + 1) (by omega) 5 (.int .i64 s)).setOther (q := w.heap.size + 1) (by omega) 6 (.slice (some ⟨gK, 0, none⟩) k k)).setOther (q := w.heap.size + 1) (by omega) 7 (.slice (some ⟨gO, 0, none⟩) m cO)).setOther (q := w.heap.size + 1) (by omega) 8 (.int .i64 0))
      have pO9 := (((((((((pO.setOther (q := w.heap.size + 1) (by omega) 0 (.int .i64 n)).setOther (q := w.heap.size + 1) (by omega) 1 (.int .i64 l)).setOther (q := w.heap.size + 1) (by omega) 2 (.int .i64 d)).setOther (q := w.heap.size + 1) (by omega) 3 (.int .i64 r)).setOther (q := w.heap.size + 1) (by omega) 4 (.int .i64 p)).setOther (q := w.heap.size + 1) (by omega) 5 (.int .i64 s)).setOther (q := w.heap.size + 1) (by omega) 6 (.slice (some ⟨gK, 0, none⟩) k k)).setOther (q := w.heap.size + 1) (by omega) 7 (.slice (some ⟨gO, 0, none⟩) m cO)).setOther (q := w.heap.size + 1) (by omega) 8 (.int .i64 0))
      have RQ := Rm.over9 RR (.int .i64 n) (.int .i64 l) (.int .i64 d) (.int .i64 r) (.int .i64 p) (.int .i64 s) (.slice (some ⟨gK, 0, none⟩) k k) (.slice (some ⟨gO, 0, none⟩) m cO) (.int .i64 0)
      have q0 := RQ.cell 0 rfl
      have q1 := RQ.cell 1 rfl
      have q2 := RQ.cell 2 rfl
      have q3 := RQ.cell 3 rfl
      have q4 := RQ.cell 4 rfl
      have q5 := RQ.cell 5 rfl
      have q6 := RQ.cell 6 rfl
      have q7 := RQ.cell 7 rfl
      have q8 := RQ.cell 8 rfl
      have BQ := (((((((((BB.setCell (p := ⟨w.heap.size + 1, 0, none⟩) (by simp) (.int .i64 n)).setCell (p := ⟨w.heap.size + 1, 1, none⟩) (by simp) (.int .i64 l)).setCell (p := ⟨w.heap.size + 1, 2, none⟩) (by simp) (.int .i64 d)).setCell (p := ⟨w.heap.size + 1, 3, none⟩) (by simp) (.int .i64 r)).setCell (p := ⟨w.heap.size + 1, 4, none⟩) (by simp) (.int .i64 p)).setCell (p := ⟨w.heap.size + 1, 5, none⟩) (by simp) (.int .i64 s)).setCell (p := ⟨w.heap.size + 1, 6, none⟩) (by simp) (.slice (some ⟨gK, 0, none⟩) k k)).setCell (p := ⟨w.heap.size + 1, 7, none⟩) (by simp) (.slice (some ⟨gO, 0, none⟩) m cO)).setCell (p := ⟨w.heap.size + 1, 8, none⟩) (by simp) (.int .i64 0))
      go_wp2
      refine bodyPost_ret (v := .tuple #[.agg #[.int .i64 n, .int .i64 l, .int .i64 d, .int .i64 r, .int .i64 p, .int .i64 s, .slice (some ⟨gK, 0, none⟩) k k, .slice (some ⟨gO, 0, none⟩) m cO, .int .i64 0], .bool true]) (by simp [results, Try.results27, go_sem, q0, q1, q2, q3, q4, q5, q6, q7, q8]) rfl ⟨⟨fun h => (by rw [hq] at h; cases h), fun _ => ⟨gK, gO, k, cO, rfl, pK9, pO9, hne, Nat.le_refl _, hcO⟩⟩, BQ⟩

end Go.Proofs.Ytloicicgcdfgnaa.Wl
