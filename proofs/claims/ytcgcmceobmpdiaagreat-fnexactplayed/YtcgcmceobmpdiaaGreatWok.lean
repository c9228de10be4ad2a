/-
  WorldOk of impl and of spec by one answer; each writes nothing that was there ahead of it.
-/
import Derived.Test.YtcgcmceobmpdiaaGreatEach
import Derived.Deep.RegionHeld3
import Derived.Test.YtcgcmceobmpdiaaGreatTk
namespace Go.Proofs.YtcgcmceobmpdiaaGreat.Wl
open Go.ChangeShapes Go.WideShapes Go.ChangeAt Go.RowKit
open Ls (el Row)
open Rm (Room)
open Sp (span LK IN)
open Cf (cfg CP)
set_option linter.unusedVariables false
set_option linter.unusedSimpArgs false

/-- A right world. -/
def WO (n l d r p s : Int) (ks : List Int) (k : Nat) (os : List Int) (m : Nat) (t : Int) : Bool :=
  (CP n l d r p s == 0) && ((((k : Int) == n) && allIn 0 2 ks k) && ((((m : Int) == n) && allIn (-1000000000000000) 1000000000000000 os m) && (IN 0 1000000 t && decide ((bad ks k : Int) ≤ l))))

abbrev S9 (w : World) (n l d r p s : Int) (K O : Value) (t : Int) (w' : World) : Prop := w'.cell? ⟨w.heap.size, 0, none⟩ = some (.int .i64 n) ∧ w'.cell? ⟨w.heap.size, 1, none⟩ = some (.int .i64 l) ∧ w'.cell? ⟨w.heap.size, 2, none⟩ = some (.int .i64 d) ∧ w'.cell? ⟨w.heap.size, 3, none⟩ = some (.int .i64 r) ∧ w'.cell? ⟨w.heap.size, 4, none⟩ = some (.int .i64 p) ∧ w'.cell? ⟨w.heap.size, 5, none⟩ = some (.int .i64 s) ∧ w'.cell? ⟨w.heap.size, 6, none⟩ = some (K) ∧ w'.cell? ⟨w.heap.size, 7, none⟩ = some (O) ∧ w'.cell? ⟨w.heap.size, 8, none⟩ = some (.int .i64 t) ∧ Hid (Below w.heap.size w w')
theorem s9 {w w' : World} {n l d r p s : Int} {K O : Value} {t : Int} (h : Room w' w.heap.size (c9 n l d r p s K O t)) (hb : Below w.heap.size w w') : S9 w n l d r p s K O t w' :=
  ⟨h.cell 0 rfl, h.cell 1 rfl, h.cell 2 rfl, h.cell 3 rfl, h.cell 4 rfl, h.cell 5 rfl, h.cell 6 rfl, h.cell 7 rfl, h.cell 8 rfl, hb⟩
theorem new9 (w : World) (n l d r p s : Int) (K O : Value) (t : Int) (y : TypeId) : S9 w n l d r p s K O t (w.alloc (.cells #[.int .i64 n, .int .i64 l, .int .i64 d, .int .i64 r, .int .i64 p, .int .i64 s, K, O, .int .i64 t] y)) :=
  s9 (Room.new w (c9 n l d r p s K O t) y) ((Below.refl _ _).alloc (Nat.le_refl _) _)
theorem S9.bel {w w' : World} {n l d r p s : Int} {K O : Value} {t : Int} (h : S9 w n l d r p s K O t w') : Below w.heap.size w w' := h.2.2.2.2.2.2.2.2.2.out
theorem S9.keep {w w' w2 : World} {n l d r p s : Int} {K O : Value} {t : Int} (h : S9 w n l d r p s K O t w') (hb : Below w'.heap.size w' w2) : S9 w n l d r p s K O t w2 := by
  have hl : w.heap.size < w'.heap.size := World.block_lt_of_cell? _ _ h.1
  have e : ∀ i, w2.cell? ⟨w.heap.size, i, none⟩ = w'.cell? ⟨w.heap.size, i, none⟩ := fun i => hb.cell (p := ⟨w.heap.size, i, none⟩) hl
  have q := h.bel
  obtain ⟨h0, h1, h2, h3, h4, h5, h6, h7, h8, h9⟩ := h
  exact ⟨(e 0).trans h0, (e 1).trans h1, (e 2).trans h2, (e 3).trans h3, (e 4).trans h4, (e 5).trans h5, (e 6).trans h6, (e 7).trans h7, (e 8).trans h8, q.trans (hb.mono q.size)⟩

set_option maxHeartbeats 8000000 in
theorem i_WorldOk (n l d r p s t : Int) (a b : Option Addr) (k ka m mb : Nat) (ks os : List Int) (w : World) (hr : Row w w.heap.size a k ks) (hs : Row w w.heap.size b m os) (hk : k ≤ 1048576) (hm : m ≤ 1048576) :
    Calls Tryz.prog 23 #[wld n l d r p s (.slice a k ka) (.slice b m mb) t] w fun e w' => e = .returned (.bool (WO n l d r p s ks k os m t)) ∧ Below w.heap.size w w' := by
  have k1 := new9 w n l d r p s (.slice a k ka) (.slice b m mb) t 32
  cases h1 : (CP n l d r p s == 0) with
  | false =>
    have E : Hid (false = WO n l d r p s ks k os m t) := by unfold Hid WO; rw [h1]; rfl
    go_enter Tryz.func23, Tryz.ntmps23
    go_wp2_with fail
    refine wp_region_noPanic ?_
    refine wp_region_held_drew (S := (fun w' => w'.cell? ⟨w.heap.size, 0, none⟩ = some (.int .i64 n) ∧ w'.cell? ⟨w.heap.size, 1, none⟩ = some (.int .i64 l) ∧ w'.cell? ⟨w.heap.size, 2, none⟩ = some (.int .i64 d) ∧ w'.cell? ⟨w.heap.size, 3, none⟩ = some (.int .i64 r) ∧ w'.cell? ⟨w.heap.size, 4, none⟩ = some (.int .i64 p) ∧ w'.cell? ⟨w.heap.size, 5, none⟩ = some (.int .i64 s) ∧ w'.cell? ⟨w.heap.size, 6, none⟩ = some (.slice a k ka) ∧ w'.cell? ⟨w.heap.size, 7, none⟩ = some (.slice b m mb) ∧ w'.cell? ⟨w.heap.size, 8, none⟩ = some (.int .i64 t) ∧ Hid (Below w.heap.size w w'))) (by kernel_rfl) (S9.keep k1 (Below.refl _ _).drew) (fun hHeld => ?_)
    refine Tk.W 0 (some 3) (.fieldAddr 32 (.tmp 1) 0) 0 none ?_
    refine Tk.W 1 (some 4) (.load 30 (.tmp 3)) 30 none ?_
    refine Tk.R 2 (some 5) (.call ⟨.value (.func 46), #[.tmp 4], #[30]⟩) 4 none (fun K hK => ?_)
    go_simp
    refine (Cf.i_ConfigOk _ _ _ _ _ _ _).mono ?_
    rintro e vq1n3 ⟨rfl, hbq1n3⟩
    have kvq1n3 := S9.keep hHeld hbq1n3
    try rw [h1]
    try dsimp only
    refine hK.out _ _ kvq1n3 ?_; clear hK K hHeld; intro hHeld; try simp only [Act.put, List.setIfInBounds_toArray, List.set_cons_zero, List.set_cons_succ]
    refine Tk.W 3 (some 6) (.move (.tmp 5)) 4 none ?_
    refine Tk.N 4 (some 7) (.build 74 #[(0, .const (.int .i64 0)), (1, .const (.int .i64 2))]) 74 (some (3, true)) ?_
    refine Tk.N 5 (some 8) (.fieldAddr 32 (.tmp 1) 1) 0 (some (3, true)) ?_
    refine Tk.N 6 (some 9) (.load 24 (.tmp 8)) 24 (some (3, true)) ?_
    refine Tk.N 7 (some 10) (.fieldAddr 32 (.tmp 1) 0) 0 (some (3, true)) ?_
    refine Tk.N 8 (some 11) (.fieldAddr 30 (.tmp 10) 0) 0 (some (3, true)) ?_
    refine Tk.N 9 (some 12) (.load 2 (.tmp 11)) 2 (some (3, true)) ?_
    refine Tk.N 10 (some 13) (.call ⟨.value (.func 47), #[.tmp 7, .tmp 9, .tmp 12], #[74, 24, 2]⟩) 4 (some (3, true)) ?_
    refine Tk.W 11 (some 14) (.pick (.tmp 6) (.tmp 13) (.const (.bool false))) 4 none ?_
    refine Tk.W 12 (some 15) (.move (.tmp 14)) 4 none ?_
    refine Tk.N 13 (some 16) (.build 74 #[(0, .const (.int .i64 (-1000000000000000))), (1, .const (.int .i64 1000000000000000))]) 74 (some (12, true)) ?_
    refine Tk.N 14 (some 17) (.fieldAddr 32 (.tmp 1) 2) 0 (some (12, true)) ?_
    refine Tk.N 15 (some 18) (.load 24 (.tmp 17)) 24 (some (12, true)) ?_
    refine Tk.N 16 (some 19) (.fieldAddr 32 (.tmp 1) 0) 0 (some (12, true)) ?_
    refine Tk.N 17 (some 20) (.fieldAddr 30 (.tmp 19) 0) 0 (some (12, true)) ?_
    refine Tk.N 18 (some 21) (.load 2 (.tmp 20)) 2 (some (12, true)) ?_
    refine Tk.N 19 (some 22) (.call ⟨.value (.func 47), #[.tmp 16, .tmp 18, .tmp 21], #[74, 24, 2]⟩) 4 (some (12, true)) ?_
    refine Tk.W 20 (some 23) (.pick (.tmp 15) (.tmp 22) (.const (.bool false))) 4 none ?_
    refine Tk.W 21 (some 24) (.move (.tmp 23)) 4 none ?_
    refine Tk.N 22 (some 25) (.build 74 #[(0, .const (.int .i64 0)), (1, .const (.int .i64 1000000))]) 74 (some (21, true)) ?_
    refine Tk.N 23 (some 26) (.fieldAddr 32 (.tmp 1) 3) 0 (some (21, true)) ?_
    refine Tk.N 24 (some 27) (.load 2 (.tmp 26)) 2 (some (21, true)) ?_
    refine Tk.N 25 (some 28) (.call ⟨.value (.func 48), #[.tmp 25, .tmp 27], #[74, 2]⟩) 4 (some (21, true)) ?_
    refine Tk.W 26 (some 29) (.pick (.tmp 24) (.tmp 28) (.const (.bool false))) 4 none ?_
    refine Tk.W 27 (some 30) (.move (.tmp 29)) 4 none ?_
    refine Tk.N 28 (some 31) (.fieldAddr 32 (.tmp 1) 1) 0 (some (27, true)) ?_
    refine Tk.N 29 (some 32) (.load 24 (.tmp 31)) 24 (some (27, true)) ?_
    refine Tk.N 30 (some 33) (.call ⟨.value (.func 49), #[.tmp 32], #[24]⟩) 2 (some (27, true)) ?_
    refine Tk.N 31 (some 34) (.fieldAddr 32 (.tmp 1) 0) 0 (some (27, true)) ?_
    refine Tk.N 32 (some 35) (.fieldAddr 30 (.tmp 34) 1) 0 (some (27, true)) ?_
    refine Tk.N 33 (some 36) (.load 2 (.tmp 35)) 2 (some (27, true)) ?_
    refine Tk.N 34 (some 37) (.binOp .leq 2 (.tmp 33) (.tmp 36) 2) 4 (some (27, true)) ?_
    refine Tk.W 35 (some 38) (.pick (.tmp 30) (.tmp 37) (.const (.bool false))) 4 none ?_
    refine Tk.W 36 (some 2) (.assign (.tmp 38)) 4 none ?_
    refine wpAnyH_done (by kernel_rfl) ?_ _
    refine NoPanic.normal ?_
    go_wp2_with fail
    go_ret
    exact ⟨Sp.retb E.out, hHeld.2.2.2.2.2.2.2.2.2.out⟩
  | true =>
    cases h2 : (((k : Int) == n) && allIn 0 2 ks k) with
    | false =>
      have E : Hid (false = WO n l d r p s ks k os m t) := by unfold Hid WO; rw [h1, h2]; rfl
      go_enter Tryz.func23, Tryz.ntmps23
      go_wp2_with fail
      refine wp_region_noPanic ?_
      refine wp_region_held_drew (S := (fun w' => w'.cell? ⟨w.heap.size, 0, none⟩ = some (.int .i64 n) ∧ w'.cell? ⟨w.heap.size, 1, none⟩ = some (.int .i64 l) ∧ w'.cell? ⟨w.heap.size, 2, none⟩ = some (.int .i64 d) ∧ w'.cell? ⟨w.heap.size, 3, none⟩ = some (.int .i64 r) ∧ w'.cell? ⟨w.heap.size, 4, none⟩ = some (.int .i64 p) ∧ w'.cell? ⟨w.heap.size, 5, none⟩ = some (.int .i64 s) ∧ w'.cell? ⟨w.heap.size, 6, none⟩ = some (.slice a k ka) ∧ w'.cell? ⟨w.heap.size, 7, none⟩ = some (.slice b m mb) ∧ w'.cell? ⟨w.heap.size, 8, none⟩ = some (.int .i64 t) ∧ Hid (Below w.heap.size w w'))) (by kernel_rfl) (S9.keep k1 (Below.refl _ _).drew) (fun hHeld => ?_)
      refine Tk.W 0 (some 3) (.fieldAddr 32 (.tmp 1) 0) 0 none ?_
      refine Tk.W 1 (some 4) (.load 30 (.tmp 3)) 30 none ?_
      refine Tk.R 2 (some 5) (.call ⟨.value (.func 46), #[.tmp 4], #[30]⟩) 4 none (fun K hK => ?_)
      go_simp
      refine (Cf.i_ConfigOk _ _ _ _ _ _ _).mono ?_
      rintro e vq2n3 ⟨rfl, hbq2n3⟩
      have kvq2n3 := S9.keep hHeld hbq2n3
      try rw [h1]
      try dsimp only
      refine hK.out _ _ kvq2n3 ?_; clear hK K hHeld; intro hHeld; try simp only [Act.put, List.setIfInBounds_toArray, List.set_cons_zero, List.set_cons_succ]
      refine Tk.W 3 (some 6) (.move (.tmp 5)) 4 none ?_
      refine Tk.W 4 (some 7) (.build 74 #[(0, .const (.int .i64 0)), (1, .const (.int .i64 2))]) 74 (some (3, true)) ?_
      refine Tk.W 5 (some 8) (.fieldAddr 32 (.tmp 1) 1) 0 (some (3, true)) ?_
      refine Tk.W 6 (some 9) (.load 24 (.tmp 8)) 24 (some (3, true)) ?_
      refine Tk.W 7 (some 10) (.fieldAddr 32 (.tmp 1) 0) 0 (some (3, true)) ?_
      refine Tk.W 8 (some 11) (.fieldAddr 30 (.tmp 10) 0) 0 (some (3, true)) ?_
      refine Tk.W 9 (some 12) (.load 2 (.tmp 11)) 2 (some (3, true)) ?_
      refine Tk.R 10 (some 13) (.call ⟨.value (.func 47), #[.tmp 7, .tmp 9, .tmp 12], #[74, 24, 2]⟩) 4 (some (3, true)) (fun K hK => ?_)
      go_simp
      refine (eachIn _ _ _ _ _ ks _ _ ((hr.later hHeld.2.2.2.2.2.2.2.2.2.out (Nat.le_refl _)).more hHeld.2.2.2.2.2.2.2.2.2.out.size) hk).mono ?_
      rintro e vq2n11 ⟨rfl, hbq2n11⟩
      have kvq2n11 := S9.keep hHeld hbq2n11
      try rw [h2]
      try dsimp only
      refine hK.out _ _ kvq2n11 ?_; clear hK K hHeld; intro hHeld; try simp only [Act.put, List.setIfInBounds_toArray, List.set_cons_zero, List.set_cons_succ]
      refine Tk.W 11 (some 14) (.pick (.tmp 6) (.tmp 13) (.const (.bool false))) 4 none ?_
      refine Tk.W 12 (some 15) (.move (.tmp 14)) 4 none ?_
      refine Tk.N 13 (some 16) (.build 74 #[(0, .const (.int .i64 (-1000000000000000))), (1, .const (.int .i64 1000000000000000))]) 74 (some (12, true)) ?_
      refine Tk.N 14 (some 17) (.fieldAddr 32 (.tmp 1) 2) 0 (some (12, true)) ?_
      refine Tk.N 15 (some 18) (.load 24 (.tmp 17)) 24 (some (12, true)) ?_
      refine Tk.N 16 (some 19) (.fieldAddr 32 (.tmp 1) 0) 0 (some (12, true)) ?_
      refine Tk.N 17 (some 20) (.fieldAddr 30 (.tmp 19) 0) 0 (some (12, true)) ?_
      refine Tk.N 18 (some 21) (.load 2 (.tmp 20)) 2 (some (12, true)) ?_
      refine Tk.N 19 (some 22) (.call ⟨.value (.func 47), #[.tmp 16, .tmp 18, .tmp 21], #[74, 24, 2]⟩) 4 (some (12, true)) ?_
      refine Tk.W 20 (some 23) (.pick (.tmp 15) (.tmp 22) (.const (.bool false))) 4 none ?_
      refine Tk.W 21 (some 24) (.move (.tmp 23)) 4 none ?_
      refine Tk.N 22 (some 25) (.build 74 #[(0, .const (.int .i64 0)), (1, .const (.int .i64 1000000))]) 74 (some (21, true)) ?_
      refine Tk.N 23 (some 26) (.fieldAddr 32 (.tmp 1) 3) 0 (some (21, true)) ?_
      refine Tk.N 24 (some 27) (.load 2 (.tmp 26)) 2 (some (21, true)) ?_
      refine Tk.N 25 (some 28) (.call ⟨.value (.func 48), #[.tmp 25, .tmp 27], #[74, 2]⟩) 4 (some (21, true)) ?_
      refine Tk.W 26 (some 29) (.pick (.tmp 24) (.tmp 28) (.const (.bool false))) 4 none ?_
      refine Tk.W 27 (some 30) (.move (.tmp 29)) 4 none ?_
      refine Tk.N 28 (some 31) (.fieldAddr 32 (.tmp 1) 1) 0 (some (27, true)) ?_
      refine Tk.N 29 (some 32) (.load 24 (.tmp 31)) 24 (some (27, true)) ?_
      refine Tk.N 30 (some 33) (.call ⟨.value (.func 49), #[.tmp 32], #[24]⟩) 2 (some (27, true)) ?_
      refine Tk.N 31 (some 34) (.fieldAddr 32 (.tmp 1) 0) 0 (some (27, true)) ?_
      refine Tk.N 32 (some 35) (.fieldAddr 30 (.tmp 34) 1) 0 (some (27, true)) ?_
      refine Tk.N 33 (some 36) (.load 2 (.tmp 35)) 2 (some (27, true)) ?_
      refine Tk.N 34 (some 37) (.binOp .leq 2 (.tmp 33) (.tmp 36) 2) 4 (some (27, true)) ?_
      refine Tk.W 35 (some 38) (.pick (.tmp 30) (.tmp 37) (.const (.bool false))) 4 none ?_
      refine Tk.W 36 (some 2) (.assign (.tmp 38)) 4 none ?_
      refine wpAnyH_done (by kernel_rfl) ?_ _
      refine NoPanic.normal ?_
      go_wp2_with fail
      go_ret
      exact ⟨Sp.retb E.out, hHeld.2.2.2.2.2.2.2.2.2.out⟩
    | true =>
      cases h3 : (((m : Int) == n) && allIn (-1000000000000000) 1000000000000000 os m) with
      | false =>
        have E : Hid (false = WO n l d r p s ks k os m t) := by unfold Hid WO; rw [h1, h2, h3]; rfl
        go_enter Tryz.func23, Tryz.ntmps23
        go_wp2_with fail
        refine wp_region_noPanic ?_
        refine wp_region_held_drew (S := (fun w' => w'.cell? ⟨w.heap.size, 0, none⟩ = some (.int .i64 n) ∧ w'.cell? ⟨w.heap.size, 1, none⟩ = some (.int .i64 l) ∧ w'.cell? ⟨w.heap.size, 2, none⟩ = some (.int .i64 d) ∧ w'.cell? ⟨w.heap.size, 3, none⟩ = some (.int .i64 r) ∧ w'.cell? ⟨w.heap.size, 4, none⟩ = some (.int .i64 p) ∧ w'.cell? ⟨w.heap.size, 5, none⟩ = some (.int .i64 s) ∧ w'.cell? ⟨w.heap.size, 6, none⟩ = some (.slice a k ka) ∧ w'.cell? ⟨w.heap.size, 7, none⟩ = some (.slice b m mb) ∧ w'.cell? ⟨w.heap.size, 8, none⟩ = some (.int .i64 t) ∧ Hid (Below w.heap.size w w'))) (by kernel_rfl) (S9.keep k1 (Below.refl _ _).drew) (fun hHeld => ?_)
        refine Tk.W 0 (some 3) (.fieldAddr 32 (.tmp 1) 0) 0 none ?_
        refine Tk.W 1 (some 4) (.load 30 (.tmp 3)) 30 none ?_
        refine Tk.R 2 (some 5) (.call ⟨.value (.func 46), #[.tmp 4], #[30]⟩) 4 none (fun K hK => ?_)
        go_simp
        refine (Cf.i_ConfigOk _ _ _ _ _ _ _).mono ?_
        rintro e vq3n3 ⟨rfl, hbq3n3⟩
        have kvq3n3 := S9.keep hHeld hbq3n3
        try rw [h1]
        try dsimp only
        refine hK.out _ _ kvq3n3 ?_; clear hK K hHeld; intro hHeld; try simp only [Act.put, List.setIfInBounds_toArray, List.set_cons_zero, List.set_cons_succ]
        refine Tk.W 3 (some 6) (.move (.tmp 5)) 4 none ?_
        refine Tk.W 4 (some 7) (.build 74 #[(0, .const (.int .i64 0)), (1, .const (.int .i64 2))]) 74 (some (3, true)) ?_
        refine Tk.W 5 (some 8) (.fieldAddr 32 (.tmp 1) 1) 0 (some (3, true)) ?_
        refine Tk.W 6 (some 9) (.load 24 (.tmp 8)) 24 (some (3, true)) ?_
        refine Tk.W 7 (some 10) (.fieldAddr 32 (.tmp 1) 0) 0 (some (3, true)) ?_
        refine Tk.W 8 (some 11) (.fieldAddr 30 (.tmp 10) 0) 0 (some (3, true)) ?_
        refine Tk.W 9 (some 12) (.load 2 (.tmp 11)) 2 (some (3, true)) ?_
        refine Tk.R 10 (some 13) (.call ⟨.value (.func 47), #[.tmp 7, .tmp 9, .tmp 12], #[74, 24, 2]⟩) 4 (some (3, true)) (fun K hK => ?_)
        go_simp
        refine (eachIn _ _ _ _ _ ks _ _ ((hr.later hHeld.2.2.2.2.2.2.2.2.2.out (Nat.le_refl _)).more hHeld.2.2.2.2.2.2.2.2.2.out.size) hk).mono ?_
        rintro e vq3n11 ⟨rfl, hbq3n11⟩
        have kvq3n11 := S9.keep hHeld hbq3n11
        try rw [h2]
        try dsimp only
        refine hK.out _ _ kvq3n11 ?_; clear hK K hHeld; intro hHeld; try simp only [Act.put, List.setIfInBounds_toArray, List.set_cons_zero, List.set_cons_succ]
        refine Tk.W 11 (some 14) (.pick (.tmp 6) (.tmp 13) (.const (.bool false))) 4 none ?_
        refine Tk.W 12 (some 15) (.move (.tmp 14)) 4 none ?_
        refine Tk.W 13 (some 16) (.build 74 #[(0, .const (.int .i64 (-1000000000000000))), (1, .const (.int .i64 1000000000000000))]) 74 (some (12, true)) ?_
        refine Tk.W 14 (some 17) (.fieldAddr 32 (.tmp 1) 2) 0 (some (12, true)) ?_
        refine Tk.W 15 (some 18) (.load 24 (.tmp 17)) 24 (some (12, true)) ?_
        refine Tk.W 16 (some 19) (.fieldAddr 32 (.tmp 1) 0) 0 (some (12, true)) ?_
        refine Tk.W 17 (some 20) (.fieldAddr 30 (.tmp 19) 0) 0 (some (12, true)) ?_
        refine Tk.W 18 (some 21) (.load 2 (.tmp 20)) 2 (some (12, true)) ?_
        refine Tk.R 19 (some 22) (.call ⟨.value (.func 47), #[.tmp 16, .tmp 18, .tmp 21], #[74, 24, 2]⟩) 4 (some (12, true)) (fun K hK => ?_)
        go_simp
        refine (eachIn _ _ _ _ _ os _ _ ((hs.later hHeld.2.2.2.2.2.2.2.2.2.out (Nat.le_refl _)).more hHeld.2.2.2.2.2.2.2.2.2.out.size) hm).mono ?_
        rintro e vq3n20 ⟨rfl, hbq3n20⟩
        have kvq3n20 := S9.keep hHeld hbq3n20
        try rw [h3]
        try dsimp only
        refine hK.out _ _ kvq3n20 ?_; clear hK K hHeld; intro hHeld; try simp only [Act.put, List.setIfInBounds_toArray, List.set_cons_zero, List.set_cons_succ]
        refine Tk.W 20 (some 23) (.pick (.tmp 15) (.tmp 22) (.const (.bool false))) 4 none ?_
        refine Tk.W 21 (some 24) (.move (.tmp 23)) 4 none ?_
        refine Tk.N 22 (some 25) (.build 74 #[(0, .const (.int .i64 0)), (1, .const (.int .i64 1000000))]) 74 (some (21, true)) ?_
        refine Tk.N 23 (some 26) (.fieldAddr 32 (.tmp 1) 3) 0 (some (21, true)) ?_
        refine Tk.N 24 (some 27) (.load 2 (.tmp 26)) 2 (some (21, true)) ?_
        refine Tk.N 25 (some 28) (.call ⟨.value (.func 48), #[.tmp 25, .tmp 27], #[74, 2]⟩) 4 (some (21, true)) ?_
        refine Tk.W 26 (some 29) (.pick (.tmp 24) (.tmp 28) (.const (.bool false))) 4 none ?_
        refine Tk.W 27 (some 30) (.move (.tmp 29)) 4 none ?_
        refine Tk.N 28 (some 31) (.fieldAddr 32 (.tmp 1) 1) 0 (some (27, true)) ?_
        refine Tk.N 29 (some 32) (.load 24 (.tmp 31)) 24 (some (27, true)) ?_
        refine Tk.N 30 (some 33) (.call ⟨.value (.func 49), #[.tmp 32], #[24]⟩) 2 (some (27, true)) ?_
        refine Tk.N 31 (some 34) (.fieldAddr 32 (.tmp 1) 0) 0 (some (27, true)) ?_
        refine Tk.N 32 (some 35) (.fieldAddr 30 (.tmp 34) 1) 0 (some (27, true)) ?_
        refine Tk.N 33 (some 36) (.load 2 (.tmp 35)) 2 (some (27, true)) ?_
        refine Tk.N 34 (some 37) (.binOp .leq 2 (.tmp 33) (.tmp 36) 2) 4 (some (27, true)) ?_
        refine Tk.W 35 (some 38) (.pick (.tmp 30) (.tmp 37) (.const (.bool false))) 4 none ?_
        refine Tk.W 36 (some 2) (.assign (.tmp 38)) 4 none ?_
        refine wpAnyH_done (by kernel_rfl) ?_ _
        refine NoPanic.normal ?_
        go_wp2_with fail
        go_ret
        exact ⟨Sp.retb E.out, hHeld.2.2.2.2.2.2.2.2.2.out⟩
      | true =>
        cases h4 : IN 0 1000000 t with
        | false =>
          have E : Hid (false = WO n l d r p s ks k os m t) := by unfold Hid WO; rw [h1, h2, h3, h4]; rfl
          go_enter Tryz.func23, Tryz.ntmps23
          go_wp2_with fail
          refine wp_region_noPanic ?_
          refine wp_region_held_drew (S := (fun w' => w'.cell? ⟨w.heap.size, 0, none⟩ = some (.int .i64 n) ∧ w'.cell? ⟨w.heap.size, 1, none⟩ = some (.int .i64 l) ∧ w'.cell? ⟨w.heap.size, 2, none⟩ = some (.int .i64 d) ∧ w'.cell? ⟨w.heap.size, 3, none⟩ = some (.int .i64 r) ∧ w'.cell? ⟨w.heap.size, 4, none⟩ = some (.int .i64 p) ∧ w'.cell? ⟨w.heap.size, 5, none⟩ = some (.int .i64 s) ∧ w'.cell? ⟨w.heap.size, 6, none⟩ = some (.slice a k ka) ∧ w'.cell? ⟨w.heap.size, 7, none⟩ = some (.slice b m mb) ∧ w'.cell? ⟨w.heap.size, 8, none⟩ = some (.int .i64 t) ∧ Hid (Below w.heap.size w w'))) (by kernel_rfl) (S9.keep k1 (Below.refl _ _).drew) (fun hHeld => ?_)
          refine Tk.W 0 (some 3) (.fieldAddr 32 (.tmp 1) 0) 0 none ?_
          refine Tk.W 1 (some 4) (.load 30 (.tmp 3)) 30 none ?_
          refine Tk.R 2 (some 5) (.call ⟨.value (.func 46), #[.tmp 4], #[30]⟩) 4 none (fun K hK => ?_)
          go_simp
          refine (Cf.i_ConfigOk _ _ _ _ _ _ _).mono ?_
          rintro e vq4n3 ⟨rfl, hbq4n3⟩
          have kvq4n3 := S9.keep hHeld hbq4n3
          try rw [h1]
          try dsimp only
          refine hK.out _ _ kvq4n3 ?_; clear hK K hHeld; intro hHeld; try simp only [Act.put, List.setIfInBounds_toArray, List.set_cons_zero, List.set_cons_succ]
          refine Tk.W 3 (some 6) (.move (.tmp 5)) 4 none ?_
          refine Tk.W 4 (some 7) (.build 74 #[(0, .const (.int .i64 0)), (1, .const (.int .i64 2))]) 74 (some (3, true)) ?_
          refine Tk.W 5 (some 8) (.fieldAddr 32 (.tmp 1) 1) 0 (some (3, true)) ?_
          refine Tk.W 6 (some 9) (.load 24 (.tmp 8)) 24 (some (3, true)) ?_
          refine Tk.W 7 (some 10) (.fieldAddr 32 (.tmp 1) 0) 0 (some (3, true)) ?_
          refine Tk.W 8 (some 11) (.fieldAddr 30 (.tmp 10) 0) 0 (some (3, true)) ?_
          refine Tk.W 9 (some 12) (.load 2 (.tmp 11)) 2 (some (3, true)) ?_
          refine Tk.R 10 (some 13) (.call ⟨.value (.func 47), #[.tmp 7, .tmp 9, .tmp 12], #[74, 24, 2]⟩) 4 (some (3, true)) (fun K hK => ?_)
          go_simp
          refine (eachIn _ _ _ _ _ ks _ _ ((hr.later hHeld.2.2.2.2.2.2.2.2.2.out (Nat.le_refl _)).more hHeld.2.2.2.2.2.2.2.2.2.out.size) hk).mono ?_
          rintro e vq4n11 ⟨rfl, hbq4n11⟩
          have kvq4n11 := S9.keep hHeld hbq4n11
          try rw [h2]
          try dsimp only
          refine hK.out _ _ kvq4n11 ?_; clear hK K hHeld; intro hHeld; try simp only [Act.put, List.setIfInBounds_toArray, List.set_cons_zero, List.set_cons_succ]
          refine Tk.W 11 (some 14) (.pick (.tmp 6) (.tmp 13) (.const (.bool false))) 4 none ?_
          refine Tk.W 12 (some 15) (.move (.tmp 14)) 4 none ?_
          refine Tk.W 13 (some 16) (.build 74 #[(0, .const (.int .i64 (-1000000000000000))), (1, .const (.int .i64 1000000000000000))]) 74 (some (12, true)) ?_
          refine Tk.W 14 (some 17) (.fieldAddr 32 (.tmp 1) 2) 0 (some (12, true)) ?_
          refine Tk.W 15 (some 18) (.load 24 (.tmp 17)) 24 (some (12, true)) ?_
          refine Tk.W 16 (some 19) (.fieldAddr 32 (.tmp 1) 0) 0 (some (12, true)) ?_
          refine Tk.W 17 (some 20) (.fieldAddr 30 (.tmp 19) 0) 0 (some (12, true)) ?_
          refine Tk.W 18 (some 21) (.load 2 (.tmp 20)) 2 (some (12, true)) ?_
          refine Tk.R 19 (some 22) (.call ⟨.value (.func 47), #[.tmp 16, .tmp 18, .tmp 21], #[74, 24, 2]⟩) 4 (some (12, true)) (fun K hK => ?_)
          go_simp
          refine (eachIn _ _ _ _ _ os _ _ ((hs.later hHeld.2.2.2.2.2.2.2.2.2.out (Nat.le_refl _)).more hHeld.2.2.2.2.2.2.2.2.2.out.size) hm).mono ?_
          rintro e vq4n20 ⟨rfl, hbq4n20⟩
          have kvq4n20 := S9.keep hHeld hbq4n20
          try rw [h3]
          try dsimp only
          refine hK.out _ _ kvq4n20 ?_; clear hK K hHeld; intro hHeld; try simp only [Act.put, List.setIfInBounds_toArray, List.set_cons_zero, List.set_cons_succ]
          refine Tk.W 20 (some 23) (.pick (.tmp 15) (.tmp 22) (.const (.bool false))) 4 none ?_
          refine Tk.W 21 (some 24) (.move (.tmp 23)) 4 none ?_
          refine Tk.W 22 (some 25) (.build 74 #[(0, .const (.int .i64 0)), (1, .const (.int .i64 1000000))]) 74 (some (21, true)) ?_
          refine Tk.W 23 (some 26) (.fieldAddr 32 (.tmp 1) 3) 0 (some (21, true)) ?_
          refine Tk.W 24 (some 27) (.load 2 (.tmp 26)) 2 (some (21, true)) ?_
          refine Tk.R 25 (some 28) (.call ⟨.value (.func 48), #[.tmp 25, .tmp 27], #[74, 2]⟩) 4 (some (21, true)) (fun K hK => ?_)
          go_simp
          refine (Sp.i_InSpan _ _ _ _).mono ?_
          rintro e vq4n26 ⟨rfl, hbq4n26⟩
          have kvq4n26 := S9.keep hHeld hbq4n26
          try rw [h4]
          try dsimp only
          refine hK.out _ _ kvq4n26 ?_; clear hK K hHeld; intro hHeld; try simp only [Act.put, List.setIfInBounds_toArray, List.set_cons_zero, List.set_cons_succ]
          refine Tk.W 26 (some 29) (.pick (.tmp 24) (.tmp 28) (.const (.bool false))) 4 none ?_
          refine Tk.W 27 (some 30) (.move (.tmp 29)) 4 none ?_
          refine Tk.N 28 (some 31) (.fieldAddr 32 (.tmp 1) 1) 0 (some (27, true)) ?_
          refine Tk.N 29 (some 32) (.load 24 (.tmp 31)) 24 (some (27, true)) ?_
          refine Tk.N 30 (some 33) (.call ⟨.value (.func 49), #[.tmp 32], #[24]⟩) 2 (some (27, true)) ?_
          refine Tk.N 31 (some 34) (.fieldAddr 32 (.tmp 1) 0) 0 (some (27, true)) ?_
          refine Tk.N 32 (some 35) (.fieldAddr 30 (.tmp 34) 1) 0 (some (27, true)) ?_
          refine Tk.N 33 (some 36) (.load 2 (.tmp 35)) 2 (some (27, true)) ?_
          refine Tk.N 34 (some 37) (.binOp .leq 2 (.tmp 33) (.tmp 36) 2) 4 (some (27, true)) ?_
          refine Tk.W 35 (some 38) (.pick (.tmp 30) (.tmp 37) (.const (.bool false))) 4 none ?_
          refine Tk.W 36 (some 2) (.assign (.tmp 38)) 4 none ?_
          refine wpAnyH_done (by kernel_rfl) ?_ _
          refine NoPanic.normal ?_
          go_wp2_with fail
          go_ret
          exact ⟨Sp.retb E.out, hHeld.2.2.2.2.2.2.2.2.2.out⟩
        | true =>
          have E : Hid (decide ((bad ks k : Int) ≤ l) = WO n l d r p s ks k os m t) := by unfold Hid WO; rw [h1, h2, h3, h4]; simp
          go_enter Tryz.func23, Tryz.ntmps23
          go_wp2_with fail
          refine wp_region_noPanic ?_
          refine wp_region_held_drew (S := (fun w' => w'.cell? ⟨w.heap.size, 0, none⟩ = some (.int .i64 n) ∧ w'.cell? ⟨w.heap.size, 1, none⟩ = some (.int .i64 l) ∧ w'.cell? ⟨w.heap.size, 2, none⟩ = some (.int .i64 d) ∧ w'.cell? ⟨w.heap.size, 3, none⟩ = some (.int .i64 r) ∧ w'.cell? ⟨w.heap.size, 4, none⟩ = some (.int .i64 p) ∧ w'.cell? ⟨w.heap.size, 5, none⟩ = some (.int .i64 s) ∧ w'.cell? ⟨w.heap.size, 6, none⟩ = some (.slice a k ka) ∧ w'.cell? ⟨w.heap.size, 7, none⟩ = some (.slice b m mb) ∧ w'.cell? ⟨w.heap.size, 8, none⟩ = some (.int .i64 t) ∧ Hid (Below w.heap.size w w'))) (by kernel_rfl) (S9.keep k1 (Below.refl _ _).drew) (fun hHeld => ?_)
          refine Tk.W 0 (some 3) (.fieldAddr 32 (.tmp 1) 0) 0 none ?_
          refine Tk.W 1 (some 4) (.load 30 (.tmp 3)) 30 none ?_
          refine Tk.R 2 (some 5) (.call ⟨.value (.func 46), #[.tmp 4], #[30]⟩) 4 none (fun K hK => ?_)
          go_simp
          refine (Cf.i_ConfigOk _ _ _ _ _ _ _).mono ?_
          rintro e vq4y3 ⟨rfl, hbq4y3⟩
          have kvq4y3 := S9.keep hHeld hbq4y3
          try rw [h1]
          try dsimp only
          refine hK.out _ _ kvq4y3 ?_; clear hK K hHeld; intro hHeld; try simp only [Act.put, List.setIfInBounds_toArray, List.set_cons_zero, List.set_cons_succ]
          refine Tk.W 3 (some 6) (.move (.tmp 5)) 4 none ?_
          refine Tk.W 4 (some 7) (.build 74 #[(0, .const (.int .i64 0)), (1, .const (.int .i64 2))]) 74 (some (3, true)) ?_
          refine Tk.W 5 (some 8) (.fieldAddr 32 (.tmp 1) 1) 0 (some (3, true)) ?_
          refine Tk.W 6 (some 9) (.load 24 (.tmp 8)) 24 (some (3, true)) ?_
          refine Tk.W 7 (some 10) (.fieldAddr 32 (.tmp 1) 0) 0 (some (3, true)) ?_
          refine Tk.W 8 (some 11) (.fieldAddr 30 (.tmp 10) 0) 0 (some (3, true)) ?_
          refine Tk.W 9 (some 12) (.load 2 (.tmp 11)) 2 (some (3, true)) ?_
          refine Tk.R 10 (some 13) (.call ⟨.value (.func 47), #[.tmp 7, .tmp 9, .tmp 12], #[74, 24, 2]⟩) 4 (some (3, true)) (fun K hK => ?_)
          go_simp
          refine (eachIn _ _ _ _ _ ks _ _ ((hr.later hHeld.2.2.2.2.2.2.2.2.2.out (Nat.le_refl _)).more hHeld.2.2.2.2.2.2.2.2.2.out.size) hk).mono ?_
          rintro e vq4y11 ⟨rfl, hbq4y11⟩
          have kvq4y11 := S9.keep hHeld hbq4y11
          try rw [h2]
          try dsimp only
          refine hK.out _ _ kvq4y11 ?_; clear hK K hHeld; intro hHeld; try simp only [Act.put, List.setIfInBounds_toArray, List.set_cons_zero, List.set_cons_succ]
          refine Tk.W 11 (some 14) (.pick (.tmp 6) (.tmp 13) (.const (.bool false))) 4 none ?_
          refine Tk.W 12 (some 15) (.move (.tmp 14)) 4 none ?_
          refine Tk.W 13 (some 16) (.build 74 #[(0, .const (.int .i64 (-1000000000000000))), (1, .const (.int .i64 1000000000000000))]) 74 (some (12, true)) ?_
          refine Tk.W 14 (some 17) (.fieldAddr 32 (.tmp 1) 2) 0 (some (12, true)) ?_
          refine Tk.W 15 (some 18) (.load 24 (.tmp 17)) 24 (some (12, true)) ?_
          refine Tk.W 16 (some 19) (.fieldAddr 32 (.tmp 1) 0) 0 (some (12, true)) ?_
          refine Tk.W 17 (some 20) (.fieldAddr 30 (.tmp 19) 0) 0 (some (12, true)) ?_
          refine Tk.W 18 (some 21) (.load 2 (.tmp 20)) 2 (some (12, true)) ?_
          refine Tk.R 19 (some 22) (.call ⟨.value (.func 47), #[.tmp 16, .tmp 18, .tmp 21], #[74, 24, 2]⟩) 4 (some (12, true)) (fun K hK => ?_)
          go_simp
          refine (eachIn _ _ _ _ _ os _ _ ((hs.later hHeld.2.2.2.2.2.2.2.2.2.out (Nat.le_refl _)).more hHeld.2.2.2.2.2.2.2.2.2.out.size) hm).mono ?_
          rintro e vq4y20 ⟨rfl, hbq4y20⟩
          have kvq4y20 := S9.keep hHeld hbq4y20
          try rw [h3]
          try dsimp only
          refine hK.out _ _ kvq4y20 ?_; clear hK K hHeld; intro hHeld; try simp only [Act.put, List.setIfInBounds_toArray, List.set_cons_zero, List.set_cons_succ]
          refine Tk.W 20 (some 23) (.pick (.tmp 15) (.tmp 22) (.const (.bool false))) 4 none ?_
          refine Tk.W 21 (some 24) (.move (.tmp 23)) 4 none ?_
          refine Tk.W 22 (some 25) (.build 74 #[(0, .const (.int .i64 0)), (1, .const (.int .i64 1000000))]) 74 (some (21, true)) ?_
          refine Tk.W 23 (some 26) (.fieldAddr 32 (.tmp 1) 3) 0 (some (21, true)) ?_
          refine Tk.W 24 (some 27) (.load 2 (.tmp 26)) 2 (some (21, true)) ?_
          refine Tk.R 25 (some 28) (.call ⟨.value (.func 48), #[.tmp 25, .tmp 27], #[74, 2]⟩) 4 (some (21, true)) (fun K hK => ?_)
          go_simp
          refine (Sp.i_InSpan _ _ _ _).mono ?_
          rintro e vq4y26 ⟨rfl, hbq4y26⟩
          have kvq4y26 := S9.keep hHeld hbq4y26
          try rw [h4]
          try dsimp only
          refine hK.out _ _ kvq4y26 ?_; clear hK K hHeld; intro hHeld; try simp only [Act.put, List.setIfInBounds_toArray, List.set_cons_zero, List.set_cons_succ]
          refine Tk.W 26 (some 29) (.pick (.tmp 24) (.tmp 28) (.const (.bool false))) 4 none ?_
          refine Tk.W 27 (some 30) (.move (.tmp 29)) 4 none ?_
          refine Tk.W 28 (some 31) (.fieldAddr 32 (.tmp 1) 1) 0 (some (27, true)) ?_
          refine Tk.W 29 (some 32) (.load 24 (.tmp 31)) 24 (some (27, true)) ?_
          refine Tk.W 31 (some 34) (.fieldAddr 32 (.tmp 1) 0) 0 (some (27, true)) ?_
          refine Tk.W 32 (some 35) (.fieldAddr 30 (.tmp 34) 1) 0 (some (27, true)) ?_
          refine Tk.W 33 (some 36) (.load 2 (.tmp 35)) 2 (some (27, true)) ?_
          refine Tk.R 30 (some 33) (.call ⟨.value (.func 49), #[.tmp 32], #[24]⟩) 2 (some (27, true)) (fun K hK => ?_)
          go_simp
          refine (countNotUp _ _ _ ks _ ((hr.later hHeld.2.2.2.2.2.2.2.2.2.out (Nat.le_refl _)).more hHeld.2.2.2.2.2.2.2.2.2.out.size) hk).mono ?_
          rintro e vq4y34 ⟨rfl, rfl⟩
          have kvq4y34 := hHeld
          try dsimp only
          refine hK.out _ _ kvq4y34 ?_; clear hK K hHeld; intro hHeld; try simp only [Act.put, List.setIfInBounds_toArray, List.set_cons_zero, List.set_cons_succ]
          refine Tk.W 34 (some 37) (.binOp .leq 2 (.tmp 33) (.tmp 36) 2) 4 (some (27, true)) ?_
          refine Tk.W 35 (some 38) (.pick (.tmp 30) (.tmp 37) (.const (.bool false))) 4 none ?_
          refine Tk.W 36 (some 2) (.assign (.tmp 38)) 4 none ?_
          refine wpAnyH_done (by kernel_rfl) ?_ _
          refine NoPanic.normal ?_
          go_wp2_with fail
          go_ret
          exact ⟨Sp.retb E.out, hHeld.2.2.2.2.2.2.2.2.2.out⟩

end Go.Proofs.YtcgcmceobmpdiaaGreat.Wl
