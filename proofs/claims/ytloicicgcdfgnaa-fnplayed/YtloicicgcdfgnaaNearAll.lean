/-
  SkewOf of impl and of spec by one answer; each writes nothing that was there ahead of it. · NearIn of impl and of spec by one answer; each writes nothing that was there ahead of it. · MiddleSkew of impl and of spec by one answer; each writes nothing that was there ahead of it. · Right worlds behind right turns (plain): how far those that are up are apart, ahead, in the middle and behind. · A right world and a right turn in memory, in bundles, and the calls over them. · A right world in memory without the dice. · laws.likeWorld of worlds that are alike: true.
-/
import Derived.Test.YtloicicgcdfgnaaOffs
import Derived.Test.YtloicicgcdfgnaaHullSp
import Derived.Test.YtloicicgcdfgnaaCfg2
import Derived.Deep.RegionHeld3
import Derived.Test.YtloicicgcdfgnaaTk
import Derived.Test.YtloicicgcdfgnaaIm6b
import Derived.Test.YtloicicgcdfgnaaG1
import Derived.Test.YtloicicgcdfgnaaTOkI
import Derived.Test.YtloicicgcdfgnaaPlain
import Derived.Test.YtloicicgcdfgnaaTurnAll
import Derived.Test.YtloicicgcdfgnaaWok
namespace Go.Proofs.Ytloicicgcdfgnaa.Wl
open Go.ChangeShapes Go.WideShapes Go.ChangeAt Go.RowKit
open Ls (el Row)
open Rm (Room)
open Ow (Has Own ints)
open Cf (cfg CP)
set_option linter.unusedVariables false
set_option linter.unusedSimpArgs false

/-- The answer of SkewOf. -/
def SK (n l d r p s : Int) (ks : List Int) (k : Nat) (os : List Int) (m : Nat) (t : Int) : Int := if WO n l d r p s ks k os m t = true then Sr.SO (OL n l d r p s ks k os m t) (OL n l d r p s ks k os m t).length else -1

set_option maxHeartbeats 2000000 in
theorem i_SkewOf (n l d r p s t : Int) (a b : Option Addr) (k ka m mb : Nat) (ks os : List Int) (w : World) (hr : Row w w.heap.size a k ks) (hs : Row w w.heap.size b m os) (hk : k ≤ 1048576) (hm : m ≤ 1048576) :
    Calls Try.prog 46 #[wld n l d r p s (.slice a k ka) (.slice b m mb) t] w fun e w' => e = .returned (.int .i64 (SK n l d r p s ks k os m t)) ∧ Below w.heap.size w w' := by
  have hL := smallO n l d r p s ks k os m t hk
  have B1 := (Below.refl w.heap.size w).alloc (Nat.le_refl _) (.cells #[.int .i64 n, .int .i64 l, .int .i64 d, .int .i64 r, .int .i64 p, .int .i64 s, .slice a k ka, .slice b m mb, .int .i64 t] 31)
  have R1 := Room.new w (c9 n l d r p s (.slice a k ka) (.slice b m mb) t) 31
  cases hq : WO n l d r p s ks k os m t with
  | false =>
    have E : SK n l d r p s ks k os m t = -1 := by unfold SK; rw [hq]; rfl
    rw [E]
    clear E
    go_enter Try.func46, Try.ntmps46
    go_wp2_with fail
    refine (i_WorldOk n l d r p s t a b k ka m mb ks os _ ((hr.later B1 (Nat.le_refl _)).more B1.size) ((hs.later B1 (Nat.le_refl _)).more B1.size) hk hm).mono ?_
    rintro e w2 ⟨rfl, bb⟩
    rw [hq]
    have b2 := B1.trans (bb.mono B1.size)
    go_wp2
    go_ret
    exact ⟨rfl, b2⟩
  | true =>
    have E : SK n l d r p s ks k os m t = Sr.SO (OL n l d r p s ks k os m t) (OL n l d r p s ks k os m t).length := by unfold SK; rw [if_pos hq]
    rw [E]
    clear E
    have key := fun w hr hs => i_OffsOf n l d r p s t a b k ka m mb ks os w hr hs hk hm
    generalize OL n l d r p s ks k os m t = O at key hL ⊢
    go_enter Try.func46, Try.ntmps46
    go_wp2_with fail
    refine (i_WorldOk n l d r p s t a b k ka m mb ks os _ ((hr.later B1 (Nat.le_refl _)).more B1.size) ((hs.later B1 (Nat.le_refl _)).more B1.size) hk hm).mono ?_
    rintro e w2 ⟨rfl, bb⟩
    rw [hq]
    have b2 := B1.trans (bb.mono B1.size)
    have z2 := b2.size
    have R2 := R1.below bb
    have c0 := R2.cell 0 rfl
    have c1 := R2.cell 1 rfl
    have c2 := R2.cell 2 rfl
    have c3 := R2.cell 3 rfl
    have c4 := R2.cell 4 rfl
    have c5 := R2.cell 5 rfl
    have c6 := R2.cell 6 rfl
    have c7 := R2.cell 7 rfl
    have c8 := R2.cell 8 rfl
    go_wp2_with fail
    refine (key _ ((hr.later b2 (Nat.le_refl _)).more b2.size) ((hs.later b2 (Nat.le_refl _)).more b2.size)).mono ?_
    rintro e w3 ⟨⟨g, ⟨c, rfl⟩, ho⟩, b3⟩
    have b3' := b2.trans (b3.mono z2)
    clear key b3
    go_wp2_with fail
    refine (Sr.i_SpreadOf _ O.length c O _ ho.row hL).mono ?_
    rintro e w4 ⟨rfl, b4⟩
    go_wp2
    go_ret
    exact ⟨rfl, b3'.trans (b4.mono b3'.size)⟩

set_option maxHeartbeats 2000000 in
theorem s_SkewOf (n l d r p s t : Int) (a b : Option Addr) (k ka m mb : Nat) (ks os : List Int) (w : World) (hr : Row w w.heap.size a k ks) (hs : Row w w.heap.size b m os) (hk : k ≤ 1048576) (hm : m ≤ 1048576) :
    Calls Try.prog 45 #[wld n l d r p s (.slice a k ka) (.slice b m mb) t] w fun e w' => e = .returned (.int .i64 (SK n l d r p s ks k os m t)) ∧ Below w.heap.size w w' := by
  have hL := smallO n l d r p s ks k os m t hk
  have B1 := (Below.refl w.heap.size w).alloc (Nat.le_refl _) (.cells #[.int .i64 n, .int .i64 l, .int .i64 d, .int .i64 r, .int .i64 p, .int .i64 s, .slice a k ka, .slice b m mb, .int .i64 t] 31)
  have R1 := Room.new w (c9 n l d r p s (.slice a k ka) (.slice b m mb) t) 31
  cases hq : WO n l d r p s ks k os m t with
  | false =>
    have E : SK n l d r p s ks k os m t = -1 := by unfold SK; rw [hq]; rfl
    rw [E]
    clear E
    go_enter Try.func45, Try.ntmps45
    go_wp2_with fail
    refine (s_WorldOk n l d r p s t a b k ka m mb ks os _ ((hr.later B1 (Nat.le_refl _)).more B1.size) ((hs.later B1 (Nat.le_refl _)).more B1.size) hk hm).mono ?_
    rintro e w2 ⟨rfl, bb⟩
    rw [hq]
    have b2 := B1.trans (bb.mono B1.size)
    go_wp2
    go_ret
    exact ⟨rfl, b2⟩
  | true =>
    have E : SK n l d r p s ks k os m t = Sr.SO (OL n l d r p s ks k os m t) (OL n l d r p s ks k os m t).length := by unfold SK; rw [if_pos hq]
    rw [E]
    clear E
    have key := fun w hr hs => s_OffsOf n l d r p s t a b k ka m mb ks os w hr hs hk hm
    generalize OL n l d r p s ks k os m t = O at key hL ⊢
    go_enter Try.func45, Try.ntmps45
    go_wp2_with fail
    refine (s_WorldOk n l d r p s t a b k ka m mb ks os _ ((hr.later B1 (Nat.le_refl _)).more B1.size) ((hs.later B1 (Nat.le_refl _)).more B1.size) hk hm).mono ?_
    rintro e w2 ⟨rfl, bb⟩
    rw [hq]
    have b2 := B1.trans (bb.mono B1.size)
    have z2 := b2.size
    have R2 := R1.below bb
    have c0 := R2.cell 0 rfl
    have c1 := R2.cell 1 rfl
    have c2 := R2.cell 2 rfl
    have c3 := R2.cell 3 rfl
    have c4 := R2.cell 4 rfl
    have c5 := R2.cell 5 rfl
    have c6 := R2.cell 6 rfl
    have c7 := R2.cell 7 rfl
    have c8 := R2.cell 8 rfl
    go_wp2_with fail
    refine (key _ ((hr.later b2 (Nat.le_refl _)).more b2.size) ((hs.later b2 (Nat.le_refl _)).more b2.size)).mono ?_
    rintro e w3 ⟨⟨g, ⟨c, rfl⟩, ho⟩, b3⟩
    have b3' := b2.trans (b3.mono z2)
    clear key b3
    go_wp2_with fail
    refine (Sr.s_SpreadOf _ O.length c O _ ho.row hL).mono ?_
    rintro e w4 ⟨rfl, b4⟩
    go_wp2
    go_ret
    exact ⟨rfl, b3'.trans (b4.mono b3'.size)⟩

end Go.Proofs.Ytloicicgcdfgnaa.Wl

namespace Go.Proofs.Ytloicicgcdfgnaa.Wl
open Go.ChangeShapes Go.WideShapes Go.ChangeAt Go.RowKit
open Ls (el Row)
open Rm (Room)
open Cf (cfg GM)
set_option linter.unusedVariables false
set_option linter.unusedSimpArgs false

/-- The answer of NearIn. -/
def NI (n l d r p s : Int) (ks : List Int) (k : Nat) (os : List Int) (m : Nat) (t : Int) : Bool := if WO n l d r p s ks k os m t = true then decide (SK n l d r p s ks k os m t ≤ GM n l d r s) else false

set_option maxHeartbeats 4000000 in
theorem i_NearIn (n l d r p s t : Int) (a b : Option Addr) (k ka m mb : Nat) (ks os : List Int) (w : World) (hr : Row w w.heap.size a k ks) (hs : Row w w.heap.size b m os) (hk : k ≤ 1048576) (hm : m ≤ 1048576) :
    Calls Try.prog 15 #[wld n l d r p s (.slice a k ka) (.slice b m mb) t] w fun e w' => e = .returned (.bool (NI n l d r p s ks k os m t)) ∧ Below w.heap.size w w' := by
  have B1 := (Below.refl w.heap.size w).alloc (Nat.le_refl _) (.cells #[.int .i64 n, .int .i64 l, .int .i64 d, .int .i64 r, .int .i64 p, .int .i64 s, .slice a k ka, .slice b m mb, .int .i64 t] 31)
  have R1 := Room.new w (c9 n l d r p s (.slice a k ka) (.slice b m mb) t) 31
  have okey := fun w hr hs => i_WorldOk n l d r p s t a b k ka m mb ks os w hr hs hk hm
  have skey := fun w hr hs => i_SkewOf n l d r p s t a b k ka m mb ks os w hr hs hk hm
  have gkey := fun w => Cf.i_GapMost n l d r p s w
  unfold NI
  generalize SK n l d r p s ks k os m t = X at skey ⊢
  generalize GM n l d r s = Y at gkey ⊢
  generalize WO n l d r p s ks k os m t = q at okey ⊢
  cases q with
  | false =>
    go_enter Try.func15, Try.ntmps15
    go_wp2_with fail
    refine wp_region_noPanic ?_
    refine wp_region_held_drew (S := (fun w' => w'.cell? ⟨w.heap.size, 0, none⟩ = some (.int .i64 n) ∧ w'.cell? ⟨w.heap.size, 1, none⟩ = some (.int .i64 l) ∧ w'.cell? ⟨w.heap.size, 2, none⟩ = some (.int .i64 d) ∧ w'.cell? ⟨w.heap.size, 3, none⟩ = some (.int .i64 r) ∧ w'.cell? ⟨w.heap.size, 4, none⟩ = some (.int .i64 p) ∧ w'.cell? ⟨w.heap.size, 5, none⟩ = some (.int .i64 s) ∧ w'.cell? ⟨w.heap.size, 6, none⟩ = some (.slice a k ka) ∧ w'.cell? ⟨w.heap.size, 7, none⟩ = some (.slice b m mb) ∧ w'.cell? ⟨w.heap.size, 8, none⟩ = some (.int .i64 t) ∧ Hid (Below w.heap.size w w' ∧ Room w' w.heap.size [.int .i64 n, .int .i64 l, .int .i64 d, .int .i64 r, .int .i64 p, .int .i64 s, .slice a k ka, .slice b m mb, .int .i64 t]))) (by kernel_rfl) ⟨R1.cell 0 rfl, R1.cell 1 rfl, R1.cell 2 rfl, R1.cell 3 rfl, R1.cell 4 rfl, R1.cell 5 rfl, R1.cell 6 rfl, R1.cell 7 rfl, R1.cell 8 rfl, ⟨B1.drew, R1.drew⟩⟩ (fun hHeld => ?_)
    refine Tk.W 0 (some 3) (.load 31 (.tmp 1)) 31 none ?_
    refine Tk.R 1 (some 4) (.call ⟨.value (.func 32), #[.tmp 3], #[31]⟩) 4 none (fun K hK => ?_)
    go_simp
    refine (okey _ ((hr.later hHeld.2.2.2.2.2.2.2.2.2.out.1 (Nat.le_refl _)).more hHeld.2.2.2.2.2.2.2.2.2.out.1.size) ((hs.later hHeld.2.2.2.2.2.2.2.2.2.out.1 (Nat.le_refl _)).more hHeld.2.2.2.2.2.2.2.2.2.out.1.size)).mono ?_
    rintro e vi02 ⟨rfl, b_i02⟩
    have ⟨bb_i02, rr_i02⟩ := hHeld.2.2.2.2.2.2.2.2.2.out
    have bx_i02 := bb_i02.trans (b_i02.mono bb_i02.size)
    have ry_i02 := rr_i02.below b_i02
    have kvi02 := Tk.kv hK (w := vi02) ⟨ry_i02.cell 0 rfl, ry_i02.cell 1 rfl, ry_i02.cell 2 rfl, ry_i02.cell 3 rfl, ry_i02.cell 4 rfl, ry_i02.cell 5 rfl, ry_i02.cell 6 rfl, ry_i02.cell 7 rfl, ry_i02.cell 8 rfl, ⟨bx_i02, ry_i02⟩⟩
    clear bb_i02 rr_i02 bx_i02 ry_i02 b_i02
    try dsimp only
    refine hK.out _ _ kvi02 ?_; clear hK K hHeld; intro hHeld; try simp only [Act.put, List.setIfInBounds_toArray, List.set_cons_zero, List.set_cons_succ]
    refine Tk.W 2 (some 5) (.move (.tmp 4)) 4 none ?_
    refine Tk.N 3 (some 6) (.load 31 (.tmp 1)) 31 (some (2, true)) ?_
    refine Tk.N 4 (some 7) (.call ⟨.value (.func 46), #[.tmp 6], #[31]⟩) 2 (some (2, true)) ?_
    refine Tk.N 5 (some 8) (.fieldAddr 31 (.tmp 1) 0) 0 (some (2, true)) ?_
    refine Tk.N 6 (some 9) (.load 28 (.tmp 8)) 28 (some (2, true)) ?_
    refine Tk.N 7 (some 10) (.call ⟨.value (.func 54), #[.tmp 9], #[28]⟩) 2 (some (2, true)) ?_
    refine Tk.N 8 (some 11) (.binOp .leq 2 (.tmp 7) (.tmp 10) 2) 4 (some (2, true)) ?_
    refine Tk.W 9 (some 12) (.pick (.tmp 5) (.tmp 11) (.const (.bool false))) 4 none ?_
    refine Tk.W 10 (some 2) (.assign (.tmp 12)) 4 none ?_
    refine wpAnyH_done (by kernel_rfl) ?_ _
    refine NoPanic.normal ?_
    have hEnd := hHeld.2.2.2.2.2.2.2.2.2.out.1
    clear hHeld
    go_wp2
    go_ret
    exact ⟨rfl, hEnd⟩
  | true =>
    go_enter Try.func15, Try.ntmps15
    go_wp2_with fail
    refine wp_region_noPanic ?_
    refine wp_region_held_drew (S := (fun w' => w'.cell? ⟨w.heap.size, 0, none⟩ = some (.int .i64 n) ∧ w'.cell? ⟨w.heap.size, 1, none⟩ = some (.int .i64 l) ∧ w'.cell? ⟨w.heap.size, 2, none⟩ = some (.int .i64 d) ∧ w'.cell? ⟨w.heap.size, 3, none⟩ = some (.int .i64 r) ∧ w'.cell? ⟨w.heap.size, 4, none⟩ = some (.int .i64 p) ∧ w'.cell? ⟨w.heap.size, 5, none⟩ = some (.int .i64 s) ∧ w'.cell? ⟨w.heap.size, 6, none⟩ = some (.slice a k ka) ∧ w'.cell? ⟨w.heap.size, 7, none⟩ = some (.slice b m mb) ∧ w'.cell? ⟨w.heap.size, 8, none⟩ = some (.int .i64 t) ∧ Hid (Below w.heap.size w w' ∧ Room w' w.heap.size [.int .i64 n, .int .i64 l, .int .i64 d, .int .i64 r, .int .i64 p, .int .i64 s, .slice a k ka, .slice b m mb, .int .i64 t]))) (by kernel_rfl) ⟨R1.cell 0 rfl, R1.cell 1 rfl, R1.cell 2 rfl, R1.cell 3 rfl, R1.cell 4 rfl, R1.cell 5 rfl, R1.cell 6 rfl, R1.cell 7 rfl, R1.cell 8 rfl, ⟨B1.drew, R1.drew⟩⟩ (fun hHeld => ?_)
    refine Tk.W 0 (some 3) (.load 31 (.tmp 1)) 31 none ?_
    refine Tk.R 1 (some 4) (.call ⟨.value (.func 32), #[.tmp 3], #[31]⟩) 4 none (fun K hK => ?_)
    go_simp
    refine (okey _ ((hr.later hHeld.2.2.2.2.2.2.2.2.2.out.1 (Nat.le_refl _)).more hHeld.2.2.2.2.2.2.2.2.2.out.1.size) ((hs.later hHeld.2.2.2.2.2.2.2.2.2.out.1 (Nat.le_refl _)).more hHeld.2.2.2.2.2.2.2.2.2.out.1.size)).mono ?_
    rintro e vi12 ⟨rfl, b_i12⟩
    have ⟨bb_i12, rr_i12⟩ := hHeld.2.2.2.2.2.2.2.2.2.out
    have bx_i12 := bb_i12.trans (b_i12.mono bb_i12.size)
    have ry_i12 := rr_i12.below b_i12
    have kvi12 := Tk.kv hK (w := vi12) ⟨ry_i12.cell 0 rfl, ry_i12.cell 1 rfl, ry_i12.cell 2 rfl, ry_i12.cell 3 rfl, ry_i12.cell 4 rfl, ry_i12.cell 5 rfl, ry_i12.cell 6 rfl, ry_i12.cell 7 rfl, ry_i12.cell 8 rfl, ⟨bx_i12, ry_i12⟩⟩
    clear bb_i12 rr_i12 bx_i12 ry_i12 b_i12
    try dsimp only
    refine hK.out _ _ kvi12 ?_; clear hK K hHeld; intro hHeld; try simp only [Act.put, List.setIfInBounds_toArray, List.set_cons_zero, List.set_cons_succ]
    refine Tk.W 2 (some 5) (.move (.tmp 4)) 4 none ?_
    refine Tk.W 3 (some 6) (.load 31 (.tmp 1)) 31 (some (2, true)) ?_
    refine Tk.W 5 (some 8) (.fieldAddr 31 (.tmp 1) 0) 0 (some (2, true)) ?_
    refine Tk.W 6 (some 9) (.load 28 (.tmp 8)) 28 (some (2, true)) ?_
    refine Tk.R 4 (some 7) (.call ⟨.value (.func 46), #[.tmp 6], #[31]⟩) 2 (some (2, true)) (fun K hK => ?_)
    go_simp
    refine (skey _ ((hr.later hHeld.2.2.2.2.2.2.2.2.2.out.1 (Nat.le_refl _)).more hHeld.2.2.2.2.2.2.2.2.2.out.1.size) ((hs.later hHeld.2.2.2.2.2.2.2.2.2.out.1 (Nat.le_refl _)).more hHeld.2.2.2.2.2.2.2.2.2.out.1.size)).mono ?_
    rintro e vi17 ⟨rfl, b_i17⟩
    have ⟨bb_i17, rr_i17⟩ := hHeld.2.2.2.2.2.2.2.2.2.out
    have bx_i17 := bb_i17.trans (b_i17.mono bb_i17.size)
    have ry_i17 := rr_i17.below b_i17
    have kvi17 := Tk.kv hK (w := vi17) ⟨ry_i17.cell 0 rfl, ry_i17.cell 1 rfl, ry_i17.cell 2 rfl, ry_i17.cell 3 rfl, ry_i17.cell 4 rfl, ry_i17.cell 5 rfl, ry_i17.cell 6 rfl, ry_i17.cell 7 rfl, ry_i17.cell 8 rfl, ⟨bx_i17, ry_i17⟩⟩
    clear bb_i17 rr_i17 bx_i17 ry_i17 b_i17
    try dsimp only
    refine hK.out _ _ kvi17 ?_; clear hK K hHeld; intro hHeld; try simp only [Act.put, List.setIfInBounds_toArray, List.set_cons_zero, List.set_cons_succ]
    refine Tk.R 7 (some 10) (.call ⟨.value (.func 54), #[.tmp 9], #[28]⟩) 2 (some (2, true)) (fun K hK => ?_)
    go_simp
    refine (gkey _).mono ?_
    rintro e vi18 ⟨rfl, b_i18⟩
    have ⟨bb_i18, rr_i18⟩ := hHeld.2.2.2.2.2.2.2.2.2.out
    have bx_i18 := bb_i18.trans (b_i18.mono bb_i18.size)
    have ry_i18 := rr_i18.below b_i18
    have kvi18 := Tk.kv hK (w := vi18) ⟨ry_i18.cell 0 rfl, ry_i18.cell 1 rfl, ry_i18.cell 2 rfl, ry_i18.cell 3 rfl, ry_i18.cell 4 rfl, ry_i18.cell 5 rfl, ry_i18.cell 6 rfl, ry_i18.cell 7 rfl, ry_i18.cell 8 rfl, ⟨bx_i18, ry_i18⟩⟩
    clear bb_i18 rr_i18 bx_i18 ry_i18 b_i18
    try dsimp only
    refine hK.out _ _ kvi18 ?_; clear hK K hHeld; intro hHeld; try simp only [Act.put, List.setIfInBounds_toArray, List.set_cons_zero, List.set_cons_succ]
    refine Tk.W 8 (some 11) (.binOp .leq 2 (.tmp 7) (.tmp 10) 2) 4 (some (2, true)) ?_
    refine Tk.W 9 (some 12) (.pick (.tmp 5) (.tmp 11) (.const (.bool false))) 4 none ?_
    refine Tk.W 10 (some 2) (.assign (.tmp 12)) 4 none ?_
    refine wpAnyH_done (by kernel_rfl) ?_ _
    refine NoPanic.normal ?_
    have hEnd := hHeld.2.2.2.2.2.2.2.2.2.out.1
    clear hHeld
    go_wp2
    go_ret
    exact ⟨rfl, hEnd⟩

set_option maxHeartbeats 4000000 in
theorem s_NearIn (n l d r p s t : Int) (a b : Option Addr) (k ka m mb : Nat) (ks os : List Int) (w : World) (hr : Row w w.heap.size a k ks) (hs : Row w w.heap.size b m os) (hk : k ≤ 1048576) (hm : m ≤ 1048576) :
    Calls Try.prog 51 #[wld n l d r p s (.slice a k ka) (.slice b m mb) t] w fun e w' => e = .returned (.bool (NI n l d r p s ks k os m t)) ∧ Below w.heap.size w w' := by
  have B1 := (Below.refl w.heap.size w).alloc (Nat.le_refl _) (.cells #[.int .i64 n, .int .i64 l, .int .i64 d, .int .i64 r, .int .i64 p, .int .i64 s, .slice a k ka, .slice b m mb, .int .i64 t] 31)
  have R1 := Room.new w (c9 n l d r p s (.slice a k ka) (.slice b m mb) t) 31
  have okey := fun w hr hs => s_WorldOk n l d r p s t a b k ka m mb ks os w hr hs hk hm
  have skey := fun w hr hs => s_SkewOf n l d r p s t a b k ka m mb ks os w hr hs hk hm
  have gkey := fun w => Cf.s_GapMost n l d r p s w
  unfold NI
  generalize SK n l d r p s ks k os m t = X at skey ⊢
  generalize GM n l d r s = Y at gkey ⊢
  generalize WO n l d r p s ks k os m t = q at okey ⊢
  cases q with
  | false =>
    go_enter Try.func51, Try.ntmps51
    go_wp2_with fail
    refine wp_region_noPanic ?_
    refine wp_region_held_drew (S := (fun w' => w'.cell? ⟨w.heap.size, 0, none⟩ = some (.int .i64 n) ∧ w'.cell? ⟨w.heap.size, 1, none⟩ = some (.int .i64 l) ∧ w'.cell? ⟨w.heap.size, 2, none⟩ = some (.int .i64 d) ∧ w'.cell? ⟨w.heap.size, 3, none⟩ = some (.int .i64 r) ∧ w'.cell? ⟨w.heap.size, 4, none⟩ = some (.int .i64 p) ∧ w'.cell? ⟨w.heap.size, 5, none⟩ = some (.int .i64 s) ∧ w'.cell? ⟨w.heap.size, 6, none⟩ = some (.slice a k ka) ∧ w'.cell? ⟨w.heap.size, 7, none⟩ = some (.slice b m mb) ∧ w'.cell? ⟨w.heap.size, 8, none⟩ = some (.int .i64 t) ∧ Hid (Below w.heap.size w w' ∧ Room w' w.heap.size [.int .i64 n, .int .i64 l, .int .i64 d, .int .i64 r, .int .i64 p, .int .i64 s, .slice a k ka, .slice b m mb, .int .i64 t]))) (by kernel_rfl) ⟨R1.cell 0 rfl, R1.cell 1 rfl, R1.cell 2 rfl, R1.cell 3 rfl, R1.cell 4 rfl, R1.cell 5 rfl, R1.cell 6 rfl, R1.cell 7 rfl, R1.cell 8 rfl, ⟨B1.drew, R1.drew⟩⟩ (fun hHeld => ?_)
    refine Tk.W 0 (some 3) (.load 31 (.tmp 1)) 31 none ?_
    refine Tk.R 1 (some 4) (.call ⟨.value (.func 66), #[.tmp 3], #[31]⟩) 4 none (fun K hK => ?_)
    go_simp
    refine (okey _ ((hr.later hHeld.2.2.2.2.2.2.2.2.2.out.1 (Nat.le_refl _)).more hHeld.2.2.2.2.2.2.2.2.2.out.1.size) ((hs.later hHeld.2.2.2.2.2.2.2.2.2.out.1 (Nat.le_refl _)).more hHeld.2.2.2.2.2.2.2.2.2.out.1.size)).mono ?_
    rintro e vs02 ⟨rfl, b_s02⟩
    have ⟨bb_s02, rr_s02⟩ := hHeld.2.2.2.2.2.2.2.2.2.out
    have bx_s02 := bb_s02.trans (b_s02.mono bb_s02.size)
    have ry_s02 := rr_s02.below b_s02
    have kvs02 := Tk.kv hK (w := vs02) ⟨ry_s02.cell 0 rfl, ry_s02.cell 1 rfl, ry_s02.cell 2 rfl, ry_s02.cell 3 rfl, ry_s02.cell 4 rfl, ry_s02.cell 5 rfl, ry_s02.cell 6 rfl, ry_s02.cell 7 rfl, ry_s02.cell 8 rfl, ⟨bx_s02, ry_s02⟩⟩
    clear bb_s02 rr_s02 bx_s02 ry_s02 b_s02
    try dsimp only
    refine hK.out _ _ kvs02 ?_; clear hK K hHeld; intro hHeld; try simp only [Act.put, List.setIfInBounds_toArray, List.set_cons_zero, List.set_cons_succ]
    refine Tk.W 2 (some 5) (.move (.tmp 4)) 4 none ?_
    refine Tk.N 3 (some 6) (.load 31 (.tmp 1)) 31 (some (2, true)) ?_
    refine Tk.N 4 (some 7) (.call ⟨.value (.func 45), #[.tmp 6], #[31]⟩) 2 (some (2, true)) ?_
    refine Tk.N 5 (some 8) (.fieldAddr 31 (.tmp 1) 0) 0 (some (2, true)) ?_
    refine Tk.N 6 (some 9) (.load 28 (.tmp 8)) 28 (some (2, true)) ?_
    refine Tk.N 7 (some 10) (.call ⟨.value (.func 100), #[.tmp 9], #[28]⟩) 2 (some (2, true)) ?_
    refine Tk.N 8 (some 11) (.binOp .leq 2 (.tmp 7) (.tmp 10) 2) 4 (some (2, true)) ?_
    refine Tk.W 9 (some 12) (.pick (.tmp 5) (.tmp 11) (.const (.bool false))) 4 none ?_
    refine Tk.W 10 (some 2) (.assign (.tmp 12)) 4 none ?_
    refine wpAnyH_done (by kernel_rfl) ?_ _
    refine NoPanic.normal ?_
    have hEnd := hHeld.2.2.2.2.2.2.2.2.2.out.1
    clear hHeld
    go_wp2
    go_ret
    exact ⟨rfl, hEnd⟩
  | true =>
    go_enter Try.func51, Try.ntmps51
    go_wp2_with fail
    refine wp_region_noPanic ?_
    refine wp_region_held_drew (S := (fun w' => w'.cell? ⟨w.heap.size, 0, none⟩ = some (.int .i64 n) ∧ w'.cell? ⟨w.heap.size, 1, none⟩ = some (.int .i64 l) ∧ w'.cell? ⟨w.heap.size, 2, none⟩ = some (.int .i64 d) ∧ w'.cell? ⟨w.heap.size, 3, none⟩ = some (.int .i64 r) ∧ w'.cell? ⟨w.heap.size, 4, none⟩ = some (.int .i64 p) ∧ w'.cell? ⟨w.heap.size, 5, none⟩ = some (.int .i64 s) ∧ w'.cell? ⟨w.heap.size, 6, none⟩ = some (.slice a k ka) ∧ w'.cell? ⟨w.heap.size, 7, none⟩ = some (.slice b m mb) ∧ w'.cell? ⟨w.heap.size, 8, none⟩ = some (.int .i64 t) ∧ Hid (Below w.heap.size w w' ∧ Room w' w.heap.size [.int .i64 n, .int .i64 l, .int .i64 d, .int .i64 r, .int .i64 p, .int .i64 s, .slice a k ka, .slice b m mb, .int .i64 t]))) (by kernel_rfl) ⟨R1.cell 0 rfl, R1.cell 1 rfl, R1.cell 2 rfl, R1.cell 3 rfl, R1.cell 4 rfl, R1.cell 5 rfl, R1.cell 6 rfl, R1.cell 7 rfl, R1.cell 8 rfl, ⟨B1.drew, R1.drew⟩⟩ (fun hHeld => ?_)
    refine Tk.W 0 (some 3) (.load 31 (.tmp 1)) 31 none ?_
    refine Tk.R 1 (some 4) (.call ⟨.value (.func 66), #[.tmp 3], #[31]⟩) 4 none (fun K hK => ?_)
    go_simp
    refine (okey _ ((hr.later hHeld.2.2.2.2.2.2.2.2.2.out.1 (Nat.le_refl _)).more hHeld.2.2.2.2.2.2.2.2.2.out.1.size) ((hs.later hHeld.2.2.2.2.2.2.2.2.2.out.1 (Nat.le_refl _)).more hHeld.2.2.2.2.2.2.2.2.2.out.1.size)).mono ?_
    rintro e vs12 ⟨rfl, b_s12⟩
    have ⟨bb_s12, rr_s12⟩ := hHeld.2.2.2.2.2.2.2.2.2.out
    have bx_s12 := bb_s12.trans (b_s12.mono bb_s12.size)
    have ry_s12 := rr_s12.below b_s12
    have kvs12 := Tk.kv hK (w := vs12) ⟨ry_s12.cell 0 rfl, ry_s12.cell 1 rfl, ry_s12.cell 2 rfl, ry_s12.cell 3 rfl, ry_s12.cell 4 rfl, ry_s12.cell 5 rfl, ry_s12.cell 6 rfl, ry_s12.cell 7 rfl, ry_s12.cell 8 rfl, ⟨bx_s12, ry_s12⟩⟩
    clear bb_s12 rr_s12 bx_s12 ry_s12 b_s12
    try dsimp only
    refine hK.out _ _ kvs12 ?_; clear hK K hHeld; intro hHeld; try simp only [Act.put, List.setIfInBounds_toArray, List.set_cons_zero, List.set_cons_succ]
    refine Tk.W 2 (some 5) (.move (.tmp 4)) 4 none ?_
    refine Tk.W 3 (some 6) (.load 31 (.tmp 1)) 31 (some (2, true)) ?_
    refine Tk.W 5 (some 8) (.fieldAddr 31 (.tmp 1) 0) 0 (some (2, true)) ?_
    refine Tk.W 6 (some 9) (.load 28 (.tmp 8)) 28 (some (2, true)) ?_
    refine Tk.R 4 (some 7) (.call ⟨.value (.func 45), #[.tmp 6], #[31]⟩) 2 (some (2, true)) (fun K hK => ?_)
    go_simp
    refine (skey _ ((hr.later hHeld.2.2.2.2.2.2.2.2.2.out.1 (Nat.le_refl _)).more hHeld.2.2.2.2.2.2.2.2.2.out.1.size) ((hs.later hHeld.2.2.2.2.2.2.2.2.2.out.1 (Nat.le_refl _)).more hHeld.2.2.2.2.2.2.2.2.2.out.1.size)).mono ?_
    rintro e vs17 ⟨rfl, b_s17⟩
    have ⟨bb_s17, rr_s17⟩ := hHeld.2.2.2.2.2.2.2.2.2.out
    have bx_s17 := bb_s17.trans (b_s17.mono bb_s17.size)
    have ry_s17 := rr_s17.below b_s17
    have kvs17 := Tk.kv hK (w := vs17) ⟨ry_s17.cell 0 rfl, ry_s17.cell 1 rfl, ry_s17.cell 2 rfl, ry_s17.cell 3 rfl, ry_s17.cell 4 rfl, ry_s17.cell 5 rfl, ry_s17.cell 6 rfl, ry_s17.cell 7 rfl, ry_s17.cell 8 rfl, ⟨bx_s17, ry_s17⟩⟩
    clear bb_s17 rr_s17 bx_s17 ry_s17 b_s17
    try dsimp only
    refine hK.out _ _ kvs17 ?_; clear hK K hHeld; intro hHeld; try simp only [Act.put, List.setIfInBounds_toArray, List.set_cons_zero, List.set_cons_succ]
    refine Tk.R 7 (some 10) (.call ⟨.value (.func 100), #[.tmp 9], #[28]⟩) 2 (some (2, true)) (fun K hK => ?_)
    go_simp
    refine (gkey _).mono ?_
    rintro e vs18 ⟨rfl, b_s18⟩
    have ⟨bb_s18, rr_s18⟩ := hHeld.2.2.2.2.2.2.2.2.2.out
    have bx_s18 := bb_s18.trans (b_s18.mono bb_s18.size)
    have ry_s18 := rr_s18.below b_s18
    have kvs18 := Tk.kv hK (w := vs18) ⟨ry_s18.cell 0 rfl, ry_s18.cell 1 rfl, ry_s18.cell 2 rfl, ry_s18.cell 3 rfl, ry_s18.cell 4 rfl, ry_s18.cell 5 rfl, ry_s18.cell 6 rfl, ry_s18.cell 7 rfl, ry_s18.cell 8 rfl, ⟨bx_s18, ry_s18⟩⟩
    clear bb_s18 rr_s18 bx_s18 ry_s18 b_s18
    try dsimp only
    refine hK.out _ _ kvs18 ?_; clear hK K hHeld; intro hHeld; try simp only [Act.put, List.setIfInBounds_toArray, List.set_cons_zero, List.set_cons_succ]
    refine Tk.W 8 (some 11) (.binOp .leq 2 (.tmp 7) (.tmp 10) 2) 4 (some (2, true)) ?_
    refine Tk.W 9 (some 12) (.pick (.tmp 5) (.tmp 11) (.const (.bool false))) 4 none ?_
    refine Tk.W 10 (some 2) (.assign (.tmp 12)) 4 none ?_
    refine wpAnyH_done (by kernel_rfl) ?_ _
    refine NoPanic.normal ?_
    have hEnd := hHeld.2.2.2.2.2.2.2.2.2.out.1
    clear hHeld
    go_wp2
    go_ret
    exact ⟨rfl, hEnd⟩

end Go.Proofs.Ytloicicgcdfgnaa.Wl

namespace Go.Proofs.Ytloicicgcdfgnaa.Tu
open Go.ChangeShapes Go.WideShapes Go.ChangeAt Go.RowKit
open Ls (el Row)
open Ow (Has ints)
open Rd (Flags)
open Bo (eb HasB)
open Rm (Room)
open Wl (wld c9 WO bad allIn OB)
open Ss (RowsAt ln rw_ tot)
set_option linter.unusedVariables false
set_option linter.unusedSimpArgs false

/-- The answer of MiddleSkew. -/
def MS (n l d r p s : Int) (ks : List Int) (k : Nat) (os : List Int) (m : Nat) (t : Int) (ds : List Int) (es ls : List (List Int)) (fs rs : List Bool) (nF nR : Nat) : Int :=
  if TO n l d r p s ks k os m t ds es ls fs rs nF nR = true then Sr.SO (OB (FK ks fs) k (OP os ds k)) (OB (FK ks fs) k (OP os ds k)).length else -1

/-- The offs in the middle of a turn by either way. -/
theorem ob_mo {ks os ds : List Int} {fs : List Bool} {k : Nat} (h : os.length = k) : OB (FK ks fs) k (MO os ds) = OB (FK ks fs) k (OP os ds k) := by
  unfold OB
  refine List.map_congr_left (fun x hx => ?_)
  obtain ⟨j, rfl, hj, _⟩ := Wl.up_mem hx
  rw [Int.toNat_natCast, op_el os ds hj, mo_el os ds (by omega)]

set_option maxHeartbeats 8000000 in
set_option maxRecDepth 100000 in
theorem i_MiddleSkew (n l d r p s t : Int) (b off k cK : Nat) (aO : Option Addr) (m cO : Nat) (aD aE aL aF aR : Option Addr) (nD cD nE cE nL cL nF cF nR cR : Nat) (ks os ds : List Int) (es ls : List (List Int)) (fs rs : List Bool) (w : World) (hz : ks.length = k) (hc : ∀ j, j < k → w.cell? ⟨b, off + j, none⟩ = some (.int .i64 (el ks j))) (hb : b < w.heap.size) (rO : Row w w.heap.size aO m os) (rD : Row w w.heap.size aD nD ds) (rE : RowsAt w w.heap.size aE nE es) (rL : RowsAt w w.heap.size aL nL ls) (rF : Flags w w.heap.size aF nF fs) (rR : Flags w w.heap.size aR nR rs) (hk : k ≤ 1048576) (hm : m ≤ 1048576) (hnF : nF ≤ 1048576) (hnR : nR ≤ 1048576) (hnD : nD ≤ 1048576) (hnE : nE ≤ 1048576) (hnL : nL ≤ 1048576) (htE : tot es nE ≤ 1048576) (htL : tot ls nL ≤ 1048576) :
    Calls Try.prog 17 #[wld n l d r p s (.slice (some ⟨b, off, none⟩) k cK) (.slice aO m cO) t, trn (.slice aD nD cD) (.slice aE nE cE) (.slice aL nL cL) (.slice aF nF cF) (.slice aR nR cR)] w fun e w' => e = .returned (.int .i64 (MS n l d r p s ks k os m t ds es ls fs rs nF nR)) ∧ Below w.heap.size w w' := by
  cases h0 : TO n l d r p s ks k os m t ds es ls fs rs nF nR with
  | false =>
    have E : MS n l d r p s ks k os m t ds es ls fs rs nF nR = -1 := by unfold MS; rw [h0]; rfl
    rw [E]
    clear E
    have R0 := (Room.new w [.int .i64 n, .int .i64 l, .int .i64 d, .int .i64 r, .int .i64 p, .int .i64 s, .slice (some ⟨b, off, none⟩) k cK, .slice aO m cO, .int .i64 t] 31).alloc (.cells #[.slice aD nD cD, .slice aE nE cE, .slice aL nL cL, .slice aF nF cF, .slice aR nR cR] 37)
    have RT : Room ((w.alloc (.cells #[.int .i64 n, .int .i64 l, .int .i64 d, .int .i64 r, .int .i64 p, .int .i64 s, .slice (some ⟨b, off, none⟩) k cK, .slice aO m cO, .int .i64 t] 31)).alloc (.cells #[.slice aD nD cD, .slice aE nE cE, .slice aL nL cL, .slice aF nF cF, .slice aR nR cR] 37)) (w.heap.size + 1) [.slice aD nD cD, .slice aE nE cE, .slice aL nL cL, .slice aF nF cF, .slice aR nR cR] := Room.at _ [.slice aD nD cD, .slice aE nE cE, .slice aL nL cL, .slice aF nF cF, .slice aR nR cR] 37 _ (by simp)
    have BB := ((Below.refl w.heap.size w).alloc (Nat.le_refl _) (.cells #[.int .i64 n, .int .i64 l, .int .i64 d, .int .i64 r, .int .i64 p, .int .i64 s, .slice (some ⟨b, off, none⟩) k cK, .slice aO m cO, .int .i64 t] 31)).alloc (by simp) (.cells #[.slice aD nD cD, .slice aE nE cE, .slice aL nL cL, .slice aF nF cF, .slice aR nR cR] 37)
    go_enter Try.func17, Try.ntmps17
    go_wp2_with fail
    refine (i_TurnOk n l d r p s t b off k cK _ m cO _ _ _ _ _ nD cD nE cE nL cL nF cF nR cR ks os ds es ls fs rs _ hz (fun j hj => by rw [BB.cell (p := ⟨b, off + j, none⟩) hb]; exact hc j hj) (Nat.lt_of_lt_of_le hb BB.size) ((rO.later BB (Nat.le_refl _)).more BB.size) ((rD.later BB (Nat.le_refl _)).more BB.size) ((rE.later BB (Nat.le_refl _)).more BB.size) ((rL.later BB (Nat.le_refl _)).more BB.size) ((rF.later BB (Nat.le_refl _)).more BB.size) ((rR.later BB (Nat.le_refl _)).more BB.size) hk hm hnD hnE hnL htE htL hnF hnR).mono ?_
    rintro e w2 ⟨rfl, b2⟩
    rw [h0]
    go_wp2
    go_ret
    exact ⟨rfl, BB.trans (b2.mono BB.size)⟩
  | true =>
    have E : MS n l d r p s ks k os m t ds es ls fs rs nF nR = Sr.SO (OB (FK ks fs) k (OP os ds k)) (OB (FK ks fs) k (OP os ds k)).length := by unfold MS; rw [if_pos h0]
    rw [E]
    clear E
    have H0 : Hid (TO n l d r p s ks k os m t ds es ls fs rs nF nR = true) := h0
    have R0 := (Room.new w [.int .i64 n, .int .i64 l, .int .i64 d, .int .i64 r, .int .i64 p, .int .i64 s, .slice (some ⟨b, off, none⟩) k cK, .slice aO m cO, .int .i64 t] 31).alloc (.cells #[.slice aD nD cD, .slice aE nE cE, .slice aL nL cL, .slice aF nF cF, .slice aR nR cR] 37)
    have RT : Room ((w.alloc (.cells #[.int .i64 n, .int .i64 l, .int .i64 d, .int .i64 r, .int .i64 p, .int .i64 s, .slice (some ⟨b, off, none⟩) k cK, .slice aO m cO, .int .i64 t] 31)).alloc (.cells #[.slice aD nD cD, .slice aE nE cE, .slice aL nL cL, .slice aF nF cF, .slice aR nR cR] 37)) (w.heap.size + 1) [.slice aD nD cD, .slice aE nE cE, .slice aL nL cL, .slice aF nF cF, .slice aR nR cR] := Room.at _ [.slice aD nD cD, .slice aE nE cE, .slice aL nL cL, .slice aF nF cF, .slice aR nR cR] 37 _ (by simp)
    have BB := ((Below.refl w.heap.size w).alloc (Nat.le_refl _) (.cells #[.int .i64 n, .int .i64 l, .int .i64 d, .int .i64 r, .int .i64 p, .int .i64 s, .slice (some ⟨b, off, none⟩) k cK, .slice aO m cO, .int .i64 t] 31)).alloc (by simp) (.cells #[.slice aD nD cD, .slice aE nE cE, .slice aL nL cL, .slice aF nF cF, .slice aR nR cR] 37)
    go_enter Try.func17, Try.ntmps17
    go_wp2_with fail
    refine (i_TurnOk n l d r p s t b off k cK _ m cO _ _ _ _ _ nD cD nE cE nL cL nF cF nR cR ks os ds es ls fs rs _ hz (fun j hj => by rw [BB.cell (p := ⟨b, off + j, none⟩) hb]; exact hc j hj) (Nat.lt_of_lt_of_le hb BB.size) ((rO.later BB (Nat.le_refl _)).more BB.size) ((rD.later BB (Nat.le_refl _)).more BB.size) ((rE.later BB (Nat.le_refl _)).more BB.size) ((rL.later BB (Nat.le_refl _)).more BB.size) ((rF.later BB (Nat.le_refl _)).more BB.size) ((rR.later BB (Nat.le_refl _)).more BB.size) hk hm hnD hnE hnL htE htL hnF hnR).mono ?_
    rintro e w2 ⟨rfl, b2⟩
    rw [h0]
    obtain ⟨hW, eF, eR, h1, h2, h3⟩ := to_facts h0
    obtain ⟨en, em, k0, hO⟩ := wo_more hW
    obtain ⟨⟨d0, d1⟩, ⟨e0, e1⟩, k16⟩ := wo_bounds hW
    have ⟨zD, hD⟩ := r1_facts h1
    obtain rfl : k = nF := eF.symm
    obtain rfl : k = nR := eR.symm
    obtain rfl : k = m := em.symm
    obtain rfl : (k : Int) = n := en.symm
    obtain rfl : k = nD := by rw [← rD.1]; exact zD.symm
    rcases id rO with ⟨zO, rO2 | ⟨bo, oo, rfl, hBo, hco⟩⟩
    · omega
    have HO : Hid (∀ j, j < k → -1000000000000000 ≤ el os j ∧ el os j ≤ 1000000000000000) := hO
    have HD : Hid (∀ j, j < k → -1000000 ≤ el ds j ∧ el ds j ≤ 1000000) := fun j hj => by have := hD j hj; omega
    clear hO hD hW h1 h2 h3
    have hL : (Wl.up (FK ks fs) k).length ≤ 1048576 := by have := Wl.up_len (FK ks fs) k; omega
    replace R0 := R0.below b2
    replace RT := RT.below b2
    replace BB := BB.trans (b2.mono BB.size)
    clear b2 h0
    have c0 := R0.cell 0 rfl
    have c1 := R0.cell 1 rfl
    have c2 := R0.cell 2 rfl
    have c3 := R0.cell 3 rfl
    have c4 := R0.cell 4 rfl
    have c5 := R0.cell 5 rfl
    have c6 := R0.cell 6 rfl
    have c7 := R0.cell 7 rfl
    have c8 := R0.cell 8 rfl
    have y0 := RT.cell 0 rfl
    have y1 := RT.cell 1 rfl
    have y2 := RT.cell 2 rfl
    have y3 := RT.cell 3 rfl
    have y4 := RT.cell 4 rfl
    go_wp2_with fail
    refine (middleWorld (k : Int) l d r p s t b off k cK bo oo cO _ _ cD cF _ _ _ ks os ds fs _ hz (fun j hj => by rw [BB.cell (p := ⟨b, off + j, none⟩) hb]; exact hc j hj) (Nat.lt_of_lt_of_le hb BB.size) zO (fun j hj => by rw [BB.cell (p := ⟨bo, oo + j, none⟩) hBo]; exact hco j hj) (Nat.lt_of_lt_of_le hBo BB.size) ((rD.later BB (Nat.le_refl _)).more BB.size) ((rF.later BB (Nat.le_refl _)).more BB.size) hk HO.out HD.out).mono ?_
    rintro e w3 ⟨⟨gK, cK2, gO, cO2, rfl, oK, oO, hKO⟩, b3⟩
    replace BB := BB.trans (b3.mono BB.size)
    clear c0 c1 c2 c3 c4 c5 c6 c7 c8
    clear y0 y1 y2 y3 y4
    clear R0 RT b3
    go_wp2_with fail
    refine (Wl.bareOffs (k : Int) l d r p s t _ _ k cK2 k cO2 (FK ks fs) (MO os ds) _ oK.has.row oO.has.row hk (Nat.le_refl _)).mono ?_
    rintro e w4 ⟨⟨g, ⟨c, rfl⟩, ho⟩, b4⟩
    rw [ob_mo zO] at ho ⊢
    have hZ : (OB (FK ks fs) k (OP os ds k)).length ≤ 1048576 := by rw [Wl.ob_len]; exact hL
    replace BB := BB.trans (b4.mono BB.size)
    clear b4 oK oO
    obtain ⟨Z, EZ⟩ : ∃ Z, Hid (OB (FK ks fs) k (OP os ds k) = Z) := ⟨_, rfl⟩
    rw [EZ.out] at ho hZ ⊢
    go_wp2_with fail
    refine (Sr.i_SpreadOf _ Z.length c Z _ ho.row hZ).mono ?_
    rintro e w5 ⟨rfl, b5⟩
    go_wp2
    go_ret
    exact ⟨by first | (rw [EZ.out]; done) | (rw [EZ.out]; rfl), BB.trans (b5.mono BB.size)⟩

set_option maxHeartbeats 8000000 in
set_option maxRecDepth 100000 in
theorem s_MiddleSkew (n l d r p s t : Int) (b off k cK : Nat) (aO : Option Addr) (m cO : Nat) (aD aE aL aF aR : Option Addr) (nD cD nE cE nL cL nF cF nR cR : Nat) (ks os ds : List Int) (es ls : List (List Int)) (fs rs : List Bool) (w : World) (hz : ks.length = k) (hc : ∀ j, j < k → w.cell? ⟨b, off + j, none⟩ = some (.int .i64 (el ks j))) (hb : b < w.heap.size) (rO : Row w w.heap.size aO m os) (rD : Row w w.heap.size aD nD ds) (rE : RowsAt w w.heap.size aE nE es) (rL : RowsAt w w.heap.size aL nL ls) (rF : Flags w w.heap.size aF nF fs) (rR : Flags w w.heap.size aR nR rs) (hk : k ≤ 1048576) (hm : m ≤ 1048576) (hnF : nF ≤ 1048576) (hnR : nR ≤ 1048576) :
    Calls Try.prog 48 #[wld n l d r p s (.slice (some ⟨b, off, none⟩) k cK) (.slice aO m cO) t, trn (.slice aD nD cD) (.slice aE nE cE) (.slice aL nL cL) (.slice aF nF cF) (.slice aR nR cR)] w fun e w' => e = .returned (.int .i64 (MS n l d r p s ks k os m t ds es ls fs rs nF nR)) ∧ Below w.heap.size w w' := by
  cases h0 : TO n l d r p s ks k os m t ds es ls fs rs nF nR with
  | false =>
    have E : MS n l d r p s ks k os m t ds es ls fs rs nF nR = -1 := by unfold MS; rw [h0]; rfl
    rw [E]
    clear E
    have R0 := (Room.new w [.int .i64 n, .int .i64 l, .int .i64 d, .int .i64 r, .int .i64 p, .int .i64 s, .slice (some ⟨b, off, none⟩) k cK, .slice aO m cO, .int .i64 t] 31).alloc (.cells #[.slice aD nD cD, .slice aE nE cE, .slice aL nL cL, .slice aF nF cF, .slice aR nR cR] 37)
    have RT : Room ((w.alloc (.cells #[.int .i64 n, .int .i64 l, .int .i64 d, .int .i64 r, .int .i64 p, .int .i64 s, .slice (some ⟨b, off, none⟩) k cK, .slice aO m cO, .int .i64 t] 31)).alloc (.cells #[.slice aD nD cD, .slice aE nE cE, .slice aL nL cL, .slice aF nF cF, .slice aR nR cR] 37)) (w.heap.size + 1) [.slice aD nD cD, .slice aE nE cE, .slice aL nL cL, .slice aF nF cF, .slice aR nR cR] := Room.at _ [.slice aD nD cD, .slice aE nE cE, .slice aL nL cL, .slice aF nF cF, .slice aR nR cR] 37 _ (by simp)
    have BB := ((Below.refl w.heap.size w).alloc (Nat.le_refl _) (.cells #[.int .i64 n, .int .i64 l, .int .i64 d, .int .i64 r, .int .i64 p, .int .i64 s, .slice (some ⟨b, off, none⟩) k cK, .slice aO m cO, .int .i64 t] 31)).alloc (by simp) (.cells #[.slice aD nD cD, .slice aE nE cE, .slice aL nL cL, .slice aF nF cF, .slice aR nR cR] 37)
    go_enter Try.func48, Try.ntmps48
    go_wp2_with fail
    refine (s_TurnOk n l d r p s t b off k cK _ m cO _ _ _ _ _ nD cD nE cE nL cL nF cF nR cR ks os ds es ls fs rs _ hz (fun j hj => by rw [BB.cell (p := ⟨b, off + j, none⟩) hb]; exact hc j hj) (Nat.lt_of_lt_of_le hb BB.size) ((rO.later BB (Nat.le_refl _)).more BB.size) ((rD.later BB (Nat.le_refl _)).more BB.size) ((rE.later BB (Nat.le_refl _)).more BB.size) ((rL.later BB (Nat.le_refl _)).more BB.size) ((rF.later BB (Nat.le_refl _)).more BB.size) ((rR.later BB (Nat.le_refl _)).more BB.size) hk hm hnF hnR).mono ?_
    rintro e w2 ⟨rfl, b2⟩
    rw [h0]
    go_wp2
    go_ret
    exact ⟨rfl, BB.trans (b2.mono BB.size)⟩
  | true =>
    have E : MS n l d r p s ks k os m t ds es ls fs rs nF nR = Sr.SO (OB (FK ks fs) k (OP os ds k)) (OB (FK ks fs) k (OP os ds k)).length := by unfold MS; rw [if_pos h0]
    rw [E]
    clear E
    have H0 : Hid (TO n l d r p s ks k os m t ds es ls fs rs nF nR = true) := h0
    have R0 := (Room.new w [.int .i64 n, .int .i64 l, .int .i64 d, .int .i64 r, .int .i64 p, .int .i64 s, .slice (some ⟨b, off, none⟩) k cK, .slice aO m cO, .int .i64 t] 31).alloc (.cells #[.slice aD nD cD, .slice aE nE cE, .slice aL nL cL, .slice aF nF cF, .slice aR nR cR] 37)
    have RT : Room ((w.alloc (.cells #[.int .i64 n, .int .i64 l, .int .i64 d, .int .i64 r, .int .i64 p, .int .i64 s, .slice (some ⟨b, off, none⟩) k cK, .slice aO m cO, .int .i64 t] 31)).alloc (.cells #[.slice aD nD cD, .slice aE nE cE, .slice aL nL cL, .slice aF nF cF, .slice aR nR cR] 37)) (w.heap.size + 1) [.slice aD nD cD, .slice aE nE cE, .slice aL nL cL, .slice aF nF cF, .slice aR nR cR] := Room.at _ [.slice aD nD cD, .slice aE nE cE, .slice aL nL cL, .slice aF nF cF, .slice aR nR cR] 37 _ (by simp)
    have BB := ((Below.refl w.heap.size w).alloc (Nat.le_refl _) (.cells #[.int .i64 n, .int .i64 l, .int .i64 d, .int .i64 r, .int .i64 p, .int .i64 s, .slice (some ⟨b, off, none⟩) k cK, .slice aO m cO, .int .i64 t] 31)).alloc (by simp) (.cells #[.slice aD nD cD, .slice aE nE cE, .slice aL nL cL, .slice aF nF cF, .slice aR nR cR] 37)
    go_enter Try.func48, Try.ntmps48
    go_wp2_with fail
    refine (s_TurnOk n l d r p s t b off k cK _ m cO _ _ _ _ _ nD cD nE cE nL cL nF cF nR cR ks os ds es ls fs rs _ hz (fun j hj => by rw [BB.cell (p := ⟨b, off + j, none⟩) hb]; exact hc j hj) (Nat.lt_of_lt_of_le hb BB.size) ((rO.later BB (Nat.le_refl _)).more BB.size) ((rD.later BB (Nat.le_refl _)).more BB.size) ((rE.later BB (Nat.le_refl _)).more BB.size) ((rL.later BB (Nat.le_refl _)).more BB.size) ((rF.later BB (Nat.le_refl _)).more BB.size) ((rR.later BB (Nat.le_refl _)).more BB.size) hk hm hnF hnR).mono ?_
    rintro e w2 ⟨rfl, b2⟩
    rw [h0]
    obtain ⟨hW, eF, eR, h1, h2, h3⟩ := to_facts h0
    obtain ⟨en, em, k0, hO⟩ := wo_more hW
    obtain ⟨⟨d0, d1⟩, ⟨e0, e1⟩, k16⟩ := wo_bounds hW
    have ⟨zD, hD⟩ := r1_facts h1
    obtain rfl : k = nF := eF.symm
    obtain rfl : k = nR := eR.symm
    obtain rfl : k = m := em.symm
    obtain rfl : (k : Int) = n := en.symm
    obtain rfl : k = nD := by rw [← rD.1]; exact zD.symm
    rcases id rO with ⟨zO, rO2 | ⟨bo, oo, rfl, hBo, hco⟩⟩
    · omega
    have HO : Hid (∀ j, j < k → -1000000000000000 ≤ el os j ∧ el os j ≤ 1000000000000000) := hO
    have HD : Hid (∀ j, j < k → -1000000 ≤ el ds j ∧ el ds j ≤ 1000000) := fun j hj => by have := hD j hj; omega
    clear hO hD hW h1 h2 h3
    have hL : (Wl.up (FK ks fs) k).length ≤ 1048576 := by have := Wl.up_len (FK ks fs) k; omega
    replace R0 := R0.below b2
    replace RT := RT.below b2
    replace BB := BB.trans (b2.mono BB.size)
    clear b2 h0
    have c0 := R0.cell 0 rfl
    have c1 := R0.cell 1 rfl
    have c2 := R0.cell 2 rfl
    have c3 := R0.cell 3 rfl
    have c4 := R0.cell 4 rfl
    have c5 := R0.cell 5 rfl
    have c6 := R0.cell 6 rfl
    have c7 := R0.cell 7 rfl
    have c8 := R0.cell 8 rfl
    have y0 := RT.cell 0 rfl
    have y1 := RT.cell 1 rfl
    have y2 := RT.cell 2 rfl
    have y3 := RT.cell 3 rfl
    have y4 := RT.cell 4 rfl
    go_wp2_with fail
    refine (l6Fallen (k : Int) l d r p s t b off k cK _ _ _ _ _ _ cF ks fs _ hz (fun j hj => by rw [BB.cell (p := ⟨b, off + j, none⟩) hb]; exact hc j hj) (Nat.lt_of_lt_of_le hb BB.size) ((rF.later BB (Nat.le_refl _)).more BB.size) hk).mono ?_
    rintro e w3 ⟨⟨gK, cK2, rfl, oK⟩, b3⟩
    clear c0 c1 c2 c3 c4 c5 c6 c7 c8
    clear y0 y1 y2 y3 y4
    replace R0 := R0.below b3
    replace RT := RT.below b3
    replace BB := BB.trans (b3.mono BB.size)
    clear b3
    go_wp2_with fail
    refine (Wl.l5Up _ k cK2 (FK ks fs) _ oK.has.row hk).mono ?_
    rintro e w4 ⟨⟨gU, cU, rfl, oU⟩, b4⟩
    replace R0 := R0.below b4
    replace RT := RT.below b4
    replace BB := BB.trans (b4.mono BB.size)
    clear b4 oK
    have c0 := R0.cell 0 rfl
    have c1 := R0.cell 1 rfl
    have c2 := R0.cell 2 rfl
    have c3 := R0.cell 3 rfl
    have c4 := R0.cell 4 rfl
    have c5 := R0.cell 5 rfl
    have c6 := R0.cell 6 rfl
    have c7 := R0.cell 7 rfl
    have c8 := R0.cell 8 rfl
    have y0 := RT.cell 0 rfl
    have y1 := RT.cell 1 rfl
    have y2 := RT.cell 2 rfl
    have y3 := RT.cell 3 rfl
    have y4 := RT.cell 4 rfl
    go_wp2_with fail
    rcases id rD with ⟨zD2, rD2 | ⟨bd, od, rfl, hBd, hcd⟩⟩
    · omega
    refine (l6Offs (k : Int) l d r p s t _ bo oo k cO bd od cD _ _ _ _ os ds _ (fun j hj => by rw [BB.cell (p := ⟨bo, oo + j, none⟩) hBo]; exact hco j hj) (Nat.lt_of_lt_of_le hBo BB.size) (fun j hj => by rw [BB.cell (p := ⟨bd, od + j, none⟩) hBd]; exact hcd j hj) (Nat.lt_of_lt_of_le hBd BB.size) hk HO HD).mono ?_
    rintro e w5 ⟨⟨gP, cP, rfl, oP⟩, b5⟩
    clear c0 c1 c2 c3 c4 c5 c6 c7 c8
    clear y0 y1 y2 y3 y4
    replace oU := oU.later b5 oU.lt
    replace BB := BB.trans (b5.mono BB.size)
    clear R0 RT b5
    have uU := oU.lt
    have uP := oP.lt
    obtain ⟨i0, hi0, hz0, hz1, hz2⟩ := info_parts Ls.info
    have HA : Hid (∀ j, j < (Wl.up (FK ks fs) k).length → ∃ i : Nat, el (Wl.up (FK ks fs) k) j = i ∧ i < k ∧ el (OB (FK ks fs) k (OP os ds k)) j = el (OP os ds k) i) := fun j hj => Wl.ob_at hj
    have HL : Hid ((OB (FK ks fs) k (OP os ds k)).length = (Wl.up (FK ks fs) k).length) := Wl.ob_len _ _ _
    obtain ⟨O, EO⟩ : ∃ O, Hid (OB (FK ks fs) k (OP os ds k) = O) := ⟨_, rfl⟩
    rw [EO.out] at HA HL
    generalize Wl.up (FK ks fs) k = U at hL HA HL oU ⊢
    obtain ⟨P, EP⟩ : ∃ P, Hid (OP os ds k = P) := ⟨_, rfl⟩
    rw [EP.out] at HA oP
    generalize hLL : U.length = L at hL HA HL oU ⊢
    have HU : Hid (Ow.Own w5 _ gU L cU U) := oU
    have HP : Hid (Ow.Own w5 _ gP k cP P) := oP
    clear oU oP
    go_wp2_with fail
    go_loopw [7, 8] (fun v q wr => ∃ (j g c : Nat), j ≤ L ∧ q = .int .i64 (j : Int) ∧ v = .slice (some ⟨g, 0, none⟩) j c ∧ Hid (Ow.Own wr w5.heap.size g j c (O.take j)) ∧ Below w5.heap.size w5 wr) (fun _ q _ => L - (intOf q).toNat)
    case atStart => exact ⟨0, _, _, Nat.zero_le _, rfl, rfl, Ow.own_made w5 _ _ rfl (Nat.le_refl _), (Below.refl _ _).alloc (Nat.le_refl _) _⟩
    case round =>
      obtain ⟨j, g, c, hj, rfl, rfl, HO2, hb2⟩ := hrel
      have hsz := hb2.size
      have hgB := HO2.out.data.2.1
      by_cases hlt : j < L
      · have hi : (j : Int) < L := by omega
        obtain ⟨i, e1, e2, e3⟩ := HA.out j hlt
        have hcU := (HU.out.cell j hlt).1
        rw [e1, ← hb2.cell (p := ⟨gU, j, none⟩) uU] at hcU
        have hi2 : (i : Int) < k := by omega
        have hcP := (HP.out.cell i e2).1
        rw [← hb2.cell (p := ⟨gP, i, none⟩) uP] at hcP
        have E : Hid (O.take (j + 1) = O.take j ++ [el P i]) := by unfold Hid; rw [Ow.take_el O j (by have := HL.out; omega), e3]
        clear e1 e3
        go_wp2_with (at_builtin; refine wpList_append_own _ rfl (.tmp 27) (.tmp 35) 29 rfl w5.heap.size 2 i0 (.int .i64 0) 1 8 Try.underlying29 hi0 hz0 hz1 hz2 rfl (by decide) _ _ _ rfl (World.ownsRow.alloc (w := wr) HO2.out _) ⟨wr.heap.size, 0, none⟩ 1 1 (ints [el P i]) rfl rfl (Ow.one_new wr (el P i) _ _ rfl) (Ow.one _) (by unfold maxLen; omega) (by omega) (by simp; omega) ?_; intro v2 w6 hx2 hg2 hn2)
        obtain ⟨g2, c2, rfl, ho2⟩ := Ow.more hx2 (Ow.no_nil hn2 rfl)
        have hb3 : Below w5.heap.size w5 w6 := (hb2.alloc hsz _).grown hg2 (by simp; omega) (by intro x hx; cases hx; exact hgB)
        clear hx2 hg2 hn2 HO2
        go_wp2_with fail
        go_roundw
        case rel => exact ⟨j + 1, g2, c2, by omega, by go_num, rfl, by rw [E.out]; exact ho2, hb3⟩
        case measure => simp [intOf]; omega
      · have hi : ¬ (j : Int) < L := by omega
        have e : j = L := by omega
        subst e
        have HF : Hid (Has wr w5.heap.size g 0 j O) := by
          have q := HO2.out.has
          rw [List.take_of_length_le (by have := HL.out; omega)] at q
          exact q
        have HLL : Hid (O.length = j) := HL.out
        go_wp2_with fail
        refine (Sr.s_SpreadOf _ j c O _ HF.out.row (by omega)).mono ?_
        rintro e w7 ⟨rfl, b7⟩
        go_wp2
        go_ret
        exact ⟨by first | (rw [EO.out, HLL.out]; done) | (rw [EO.out, HLL.out]; rfl), BB.trans ((hb2.trans (b7.mono hsz)).mono BB.size)⟩

end Go.Proofs.Ytloicicgcdfgnaa.Tu

namespace Go.Proofs.Ytloicicgcdfgnaa.Lw
open Go.ChangeShapes Go.WideShapes Go.ChangeAt Go.RowKit
open Ls (el Row)
open Bo (eb HasB)
open Wl (bad WO OB OL SK NI)
open Cf (CR GM SM AM)
open Tu (trn FK FR R1 RS TO GO GL GS CB CV MM TK TF RB RK RO RU MS OP MO)
open Hu (mnK mxK tmK)
open Ss (RowsAt ln rw_ tot)
open Sr (SO)
set_option linter.unusedVariables false
set_option linter.unusedSimpArgs false

theorem so_at {zs : List Int} (h0 : 0 < zs.length) (h : ∀ x ∈ zs, -1000000000000000000 ≤ x ∧ x ≤ 1000000000000000000) :
    ∃ x y, x ∈ zs ∧ y ∈ zs ∧ SO zs zs.length = x - y ∧ ∀ z ∈ zs, y ≤ z ∧ z ≤ x := by
  obtain ⟨⟨i, hi, ei⟩, ⟨j, hj, ej⟩⟩ := Tr.mm_in (zs := zs) (n := zs.length) h0
  have mi := el_mem hi
  have mj := el_mem hj
  have hT : Hu.HT zs zs.length = true := by rw [Hu.ht_n h0]; exact tm_all (fun x hx => by have := h x hx; unfold Ad.Tm; omega)
  have bi := h _ mi
  have bj := h _ mj
  rw [ei] at mi bi
  rw [ej] at mj bj
  have hS : Ad.ST (mxK zs zs.length) (mnK zs zs.length) = true := by
    unfold Ad.ST Ad.Tm
    exact decide_eq_true (by omega)
  refine ⟨_, _, mj, mi, ?_, fun z hz => mn_mem hz⟩
  rw [Sr.so_yes h0 hT hS]
  unfold Ad.SV Ad.Tm
  rw [if_pos (by omega)]

theorem ob_mem {ks os : List Int} {k : Nat} {x : Int} (h : x ∈ OB ks k os) : ∃ j, j < k ∧ el ks j = 0 ∧ x = el os j := by
  unfold OB at h
  obtain ⟨y, hy, rfl⟩ := List.mem_map.1 h
  obtain ⟨j, rfl, h1, h2⟩ := Wl.up_mem hy
  exact ⟨j, h1, h2, by rw [Int.toNat_natCast]⟩
theorem up_has {ks : List Int} {j : Nat} (h0 : el ks j = 0) : ∀ {k}, j < k → (j : Int) ∈ Wl.up ks k
  | 0, h => by omega
  | k + 1, h => by
    rw [Wl.up]
    by_cases e : j = k
    · subst e; rw [if_pos h0]; simp
    · have q := up_has h0 (show j < k by omega)
      split
      · exact List.mem_append_left _ q
      · exact q
theorem ob_has {ks os : List Int} {k j : Nat} (hj : j < k) (h0 : el ks j = 0) : el os j ∈ OB ks k os := by
  unfold OB
  exact List.mem_map.2 ⟨(j : Int), up_has h0 hj, by rw [Int.toNat_natCast]⟩
theorem ob_pos {ks os : List Int} {k : Nat} (h : bad ks k < k) : 0 < (OB ks k os).length := by
  rw [Wl.ob_len]
  have := Wl.up_len ks k
  omega
/-- How far those that are up are apart. -/
theorem ob_so {ks os : List Int} {k : Nat} (hb : bad ks k < k) (h : ∀ j, j < k → -1000000000000000000 ≤ el os j ∧ el os j ≤ 1000000000000000000) :
    ∃ i j, (i < k ∧ el ks i = 0) ∧ (j < k ∧ el ks j = 0) ∧ SO (OB ks k os) (OB ks k os).length = el os i - el os j ∧ ∀ z, z < k → el ks z = 0 → el os j ≤ el os z ∧ el os z ≤ el os i := by
  obtain ⟨x, y, hx, hy, e, H⟩ := so_at (ob_pos (os := os) hb) (fun x hx => by obtain ⟨j, h1, _, rfl⟩ := ob_mem hx; exact h j h1)
  obtain ⟨i, i1, i2, rfl⟩ := ob_mem hx
  obtain ⟨j, j1, j2, rfl⟩ := ob_mem hy
  exact ⟨i, j, ⟨i1, i2⟩, ⟨j1, j2⟩, e, fun z z1 z2 => H _ (ob_has z1 z2)⟩
theorem bad_mono {a b : List Int} : ∀ k, (∀ j, j < k → el a j = 0 → el b j = 0) → bad b k ≤ bad a k
  | 0, _ => Nat.le_refl _
  | k + 1, h => by
    have q := bad_mono k (fun j hj => h j (by omega))
    rw [bad, bad]
    by_cases e : el a k = 0
    · rw [if_pos e, if_pos (h k (by omega) e)]; omega
    · rw [if_neg e]; split <;> omega

section
variable {far f d r s t : Int} {k : Nat} {ks os ds : List Int} {es ls : List (List Int)} {fs rs : List Bool}

theorem tk_at (h : TO (k : Int) f d r 1000000 s ks k os k t ds es ls fs rs k k = true) (hz : ks.length = k) {j : Nat} (hj : j < k) :
    el (TK (k : Int) f d r 1000000 s ks k os k t ds es ls fs rs k k) j = if CB (k : Int) f d r 1000000 s ks k os k t ds es ls fs rs k k j = true then 0 else el (FK ks fs) j := by
  unfold TK
  rw [Tu.up_el _ _ _ _ _ (by rw [Tu.fk_len']; omega)]
  simp [hj]
theorem tf_at (hz : os.length = k) {j : Nat} (hj : j < k) :
    el (TF (k : Int) f d r 1000000 s ks k os k t ds es ls fs rs k k) j = if CB (k : Int) f d r 1000000 s ks k os k t ds es ls fs rs k k j = true then MM os ds j + CV (k : Int) f d r 1000000 s ks k os k t ds es ls fs rs k k j else MM os ds j := by
  unfold TF
  rw [Tu.up_el _ _ _ _ _ (by rw [Tu.mo_len]; omega), Tu.mo_el os ds (by omega)]
  unfold MM
  simp [hj]
theorem tk_up (h : TO (k : Int) f d r 1000000 s ks k os k t ds es ls fs rs k k = true) (hz : ks.length = k) {j : Nat} (hj : j < k) :
    el (TK (k : Int) f d r 1000000 s ks k os k t ds es ls fs rs k k) j = 0 ↔ CB (k : Int) f d r 1000000 s ks k os k t ds es ls fs rs k k j = true := by
  rw [tk_at h hz hj]
  have e := Tu.cb_is h hj
  by_cases c : CB (k : Int) f d r 1000000 s ks k os k t ds es ls fs rs k k j = true
  · simp [c]
  · rw [if_neg c]
    constructor
    · intro h0
      rw [h0] at e
      simpa using e
    · intro h0
      exact (c h0).elim

theorem RW.mid (hW : RW far f d r s k ks os) (hR : RT d r f k ks ds es ls fs rs) : ∀ j, j < k → -(far + d) ≤ MM os ds j ∧ MM os ds j ≤ far + d := by
  intro j hj
  have a := hW.lo j hj
  have b := hR.d1 _ (el_mem (by rw [hR.dl]; exact hj))
  unfold MM
  omega
/-- Behind a right turn the world is right again, and its offs lie near. -/
theorem RW.turned (hW : RW far f d r s k ks os) (hR : RT d r f k ks ds es ls fs rs) (h : TO (k : Int) f d r 1000000 s ks k os k t ds es ls fs rs k k = true) :
    RW (far + 22) f d r s k (TK (k : Int) f d r 1000000 s ks k os k t ds es ls fs rs k k) (TF (k : Int) f d r 1000000 s ks k os k t ds es ls fs rs k k) := by
  have hm := hW.mid hR
  have q1 := hW.d1
  have q2 := hW.r1
  have q3 := hW.d0
  have q4 := hW.r0
  refine ⟨hW.f0, hW.f1, hW.k0, hW.k1, hW.d0, hW.d1, hW.r0, hW.r1, hW.s0, hW.s1, by rw [Tu.tk_len]; exact hW.kz, by rw [Tu.tf_len]; exact hW.oz, fun j hj => ?_, fun j hj => ?_, ?_⟩
  · rw [tk_at h hW.kz hj, fk_at ks fs j (by rw [hW.kz]; exact hj)]
    have := hW.ok j hj
    split
    · omega
    · split <;> omega
  · rw [tf_at hW.oz hj]
    have a := hm j hj
    by_cases c : CB (k : Int) f d r 1000000 s ks k os k t ds es ls fs rs k k j = true
    · rw [if_pos c]
      have := Tu.valid_in h hj c (fun i hi _ => hm i hi)
      omega
    · rw [if_neg c]
      omega
  · have a := bad_mono (a := FK ks fs) (b := TK (k : Int) f d r 1000000 s ks k os k t ds es ls fs rs k k) k (fun j hj h0 => by
      rw [tk_at h hW.kz hj]
      split
      · rfl
      · exact h0)
    have b := Tu.to_bad h
    omega
theorem RW.to (hW : RW far f d r s k ks os) (hR : RT d r f k ks ds es ls fs rs) (hf : far ≤ 1000000) (t0 : 0 ≤ t) (t1 : t < 1000000) : TO (k : Int) f d r 1000000 s ks k os k t ds es ls fs rs k k = true :=
  hR.to (hW.wo (by omega) t t0 (by omega)) hW.d0 (by have := hW.d1; omega) hW.r0 (by have := hW.r1; omega)
theorem RW.rb (hW : RW far f d r s k ks os) (hR : RT d r f k ks ds es ls fs rs) (hf : far ≤ 1000000) (t0 : 0 ≤ t) (t1 : t < 1000000) : RB (k : Int) f d r 1000000 s ks k os k t ds es ls fs rs k k = true := by
  have h := hW.to hR hf t0 t1
  unfold RB
  rw [h, (hW.turned hR h).wo (by omega) (t + 1) (by omega) (by omega)]
  rfl
theorem RW.low (hW : RW far f d r s k ks os) : Wl.bad ks k < k := by
  have := hW.bad
  have := hW.k0
  have := hW.f0
  omega

/-- How far those that are up in the middle are apart. -/
theorem RW.ms (hW : RW far f d r s k ks os) (hR : RT d r f k ks ds es ls fs rs) (hf : far ≤ 1000000) (h : TO (k : Int) f d r 1000000 s ks k os k t ds es ls fs rs k k = true) :
    ∃ i j, (i < k ∧ el (FK ks fs) i = 0) ∧ (j < k ∧ el (FK ks fs) j = 0) ∧ MS (k : Int) f d r 1000000 s ks k os k t ds es ls fs rs k k = MM os ds i - MM os ds j ∧ ∀ z, z < k → el (FK ks fs) z = 0 → MM os ds j ≤ MM os ds z ∧ MM os ds z ≤ MM os ds i := by
  have hm := hW.mid hR
  have q3 := hW.d1
  have hb : Wl.bad (FK ks fs) k < k := by
    have := Tu.to_bad h
    have := hW.k0
    have := hW.f0
    omega
  obtain ⟨i, j, hi, hj, e, H⟩ := ob_so (ks := FK ks fs) (os := OP os ds k) hb (fun j hj => by rw [Tu.op_el os ds hj]; have := hm j hj; unfold MM at this; omega)
  refine ⟨i, j, hi, hj, ?_, fun z z1 z2 => ?_⟩
  · unfold MS
    rw [if_pos h, e, Tu.op_el os ds hi.1, Tu.op_el os ds hj.1]
    rfl
  · have := H z z1 z2
    rw [Tu.op_el os ds hi.1, Tu.op_el os ds hj.1, Tu.op_el os ds z1] at this
    exact this
/-- How far those that are up are apart. -/
theorem RW.sk (hW : RW far f d r s k ks os) (hf : far ≤ 1000000000) (t0 : 0 ≤ t) (t1 : t ≤ 1000000) :
    ∃ i j, (i < k ∧ el ks i = 0) ∧ (j < k ∧ el ks j = 0) ∧ SK (k : Int) f d r 1000000 s ks k os k t = el os i - el os j ∧ ∀ z, z < k → el ks z = 0 → el os j ≤ el os z ∧ el os z ≤ el os i := by
  obtain ⟨i, j, hi, hj, e, H⟩ := ob_so (os := os) hW.low (fun j hj => by have := hW.lo j hj; omega)
  have hw := hW.wo (by omega) t t0 t1
  refine ⟨i, j, hi, hj, ?_, H⟩
  unfold SK
  rw [if_pos hw, Wl.ol_b hw, e]
/-- Behind a right turn they are apart by at most half of what they were in its middle, twice Err and 1. -/
theorem RW.half (hW : RW far f d r s k ks os) (hR : RT d r f k ks ds es ls fs rs) (hf : far ≤ 1000000) (t0 : 0 ≤ t) (t1 : t < 1000000) :
    0 ≤ MS (k : Int) f d r 1000000 s ks k os k t ds es ls fs rs k k ∧ MS (k : Int) f d r 1000000 s ks k os k t ds es ls fs rs k k ≤ 2 * far + 22 ∧
    0 ≤ SK (k : Int) f d r 1000000 s (TK (k : Int) f d r 1000000 s ks k os k t ds es ls fs rs k k) k (TF (k : Int) f d r 1000000 s ks k os k t ds es ls fs rs k k) k (t + 1) ∧
    SK (k : Int) f d r 1000000 s (TK (k : Int) f d r 1000000 s ks k os k t ds es ls fs rs k k) k (TF (k : Int) f d r 1000000 s ks k os k t ds es ls fs rs k k) k (t + 1) ≤ MS (k : Int) f d r 1000000 s ks k os k t ds es ls fs rs k k / 2 + 2 * r + 1 := by
  have h := hW.to hR hf t0 t1
  have hm := hW.mid hR
  obtain ⟨i, j, hi, hj, e, H⟩ := hW.ms hR hf h
  obtain ⟨i', j', hi', hj', e', H'⟩ := (hW.turned hR h).sk (t := t + 1) (by omega) (by omega) (by omega)
  have a := H j hj.1 hj.2
  have b := H' j' hj'.1 hj'.2
  have ci := (tk_up h hW.kz hi'.1).1 hi'.2
  have cj := (tk_up h hW.kz hj'.1).1 hj'.2
  have q := Tu.half_in h hi'.1 hj'.1 ci cj H
  have m1 := hm i hi.1
  have m2 := hm j hj.1
  have q3 := hW.d1
  refine ⟨by omega, by omega, by omega, ?_⟩
  rw [e', e, tf_at hW.oz hi'.1, tf_at hW.oz hj'.1, if_pos ci, if_pos cj]
  omega
theorem RW.cr (hW : RW far f d r s k ks os) : CR (k : Int) f d r s = 0 := (mesh_ok hW.k0 hW.k1 hW.f0 hW.f1 hW.d0 hW.d1 hW.r0 hW.r1 hW.s0 hW.s1).1
theorem RW.gm (hW : RW far f d r s k ks os) : GM (k : Int) f d r s = 2 * d + 4 * r + 2 := by unfold GM; rw [if_pos hW.cr]
theorem RW.sm (hW : RW far f d r s k ks os) : SM (k : Int) f d r s = 4 * d + 4 * r + 2 := by unfold SM; rw [if_pos hW.cr]
theorem RW.am (hW : RW far f d r s k ks os) : AM (k : Int) f d r s = 4 * d + 5 * r + 2 := by unfold AM; rw [if_pos hW.cr]
/-- Those that are up are near. -/
def Near (d r : Int) (k : Nat) (ks os : List Int) : Prop := ∀ i j, i < k → el ks i = 0 → j < k → el ks j = 0 → el os i - el os j ≤ 2 * d + 4 * r + 2
theorem RW.ni (hW : RW far f d r s k ks os) (hf : far ≤ 1000000000) (t0 : 0 ≤ t) (t1 : t ≤ 1000000) (hN : Near d r k ks os) : NI (k : Int) f d r 1000000 s ks k os k t = true := by
  obtain ⟨i, j, hi, hj, e, _⟩ := hW.sk hf t0 t1
  have := hN i j hi.1 hi.2 hj.1 hj.2
  unfold NI
  rw [if_pos (hW.wo (by omega) t t0 t1), hW.gm, e]
  exact decide_eq_true this
/-- Once near, they stay near; the corrections are small. -/
theorem RW.near (hW : RW far f d r s k ks os) (hR : RT d r f k ks ds es ls fs rs) (hf : far ≤ 1000000) (t0 : 0 ≤ t) (t1 : t < 1000000) (hN : Near d r k ks os) :
    MS (k : Int) f d r 1000000 s ks k os k t ds es ls fs rs k k ≤ 4 * d + 4 * r + 2 ∧
    (∀ i, i < k → el (FK ks fs) i = 0 → -(4 * d + 5 * r + 2) ≤ CV (k : Int) f d r 1000000 s ks k os k t ds es ls fs rs k k i ∧ CV (k : Int) f d r 1000000 s ks k os k t ds es ls fs rs k k i ≤ 4 * d + 5 * r + 2) ∧
    Near d r k (TK (k : Int) f d r 1000000 s ks k os k t ds es ls fs rs k k) (TF (k : Int) f d r 1000000 s ks k os k t ds es ls fs rs k k) := by
  have h := hW.to hR hf t0 t1
  have up0 : ∀ j, j < k → el (FK ks fs) j = 0 → el ks j = 0 := fun j hj h0 => by
    rw [fk_at ks fs j (by rw [hW.kz]; exact hj)] at h0
    split at h0
    · omega
    · exact h0
  have hmm : ∀ i j, i < k → el (FK ks fs) i = 0 → j < k → el (FK ks fs) j = 0 → MM os ds i - MM os ds j ≤ 4 * d + 4 * r + 2 := fun i j hi h1 hj h2 => by
    have a := hN i j hi (up0 i hi h1) hj (up0 j hj h2)
    have b := hR.d1 _ (el_mem (by rw [hR.dl]; exact hi))
    have c := hR.d1 _ (el_mem (by rw [hR.dl]; exact hj))
    unfold MM
    omega
  obtain ⟨i, j, hi, hj, e, H⟩ := hW.ms hR hf h
  have hS : MS (k : Int) f d r 1000000 s ks k os k t ds es ls fs rs k k ≤ 4 * d + 4 * r + 2 := by
    have := hmm i j hi.1 hi.2 hj.1 hj.2
    omega
  refine ⟨hS, fun z hz h0 => ?_, fun i' j' hi' e1 hj' e2 => ?_⟩
  · have c : CB (k : Int) f d r 1000000 s ks k os k t ds es ls fs rs k k z = true := by rw [Tu.cb_is h hz, h0]; rfl
    refine Tu.corr_in h hz c (fun y hy h1 => ?_)
    have g := Tu.guess_err h hz hy h1
    have a := hmm y z hy h1 hz h0
    have b := hmm z y hz h0 hy h1
    omega
  · have ci := (tk_up h hW.kz hi').1 e1
    have cj := (tk_up h hW.kz hj').1 e2
    have q := Tu.half_in h hi' hj' ci cj H
    rw [tf_at hW.oz hi', tf_at hW.oz hj', if_pos ci, if_pos cj]
    omega
end

end Go.Proofs.Ytloicicgcdfgnaa.Lw

namespace Go.Proofs.Ytloicicgcdfgnaa.Lw
open Go.ChangeShapes Go.WideShapes Go.ChangeAt Go.RowKit
open Ls (el Row)
open Ow (Has ints)
open Rd (Flags)
open Bo (eb HasB)
open Wl (WO OB OL SK NI wld c9)
open Tu (trn FK TO CB CV TK TF RB RK RO RU MS GO)
open Ss (RowsAt ln rw_ tot)
open Di (St)
set_option linter.unusedVariables false
set_option linter.unusedSimpArgs false

/-- A world in memory, at X, beside the dice at p. -/
structure Nw (w0 : World) (B p : Nat) (a : Option Addr) (len cap X : Nat) (k : Nat) (f d r s t : Int) (gK cK gO cO : Nat) (ks os : List Int) (w : World) : Prop where
  st : St w0 B p a len cap w
  R : Rm.Room w X [.int .i64 (k : Int), .int .i64 f, .int .i64 d, .int .i64 r, .int .i64 1000000, .int .i64 s, .slice (some ⟨gK, 0, none⟩) k cK, .slice (some ⟨gO, 0, none⟩) k cO, .int .i64 t]
  K : Has w 0 gK 0 k ks
  O : Has w 0 gO 0 k os
  x : (w0.heap.size ≤ X ∧ B ≤ X) ∧ X ≠ p ∧ gK ≠ p ∧ gO ≠ p ∧ X ≠ gK ∧ X ≠ gO
/-- A turn in memory, at Y. -/
structure Nt (Y k gD cD gE cE gL cL gF gR : Nat) (ds : List Int) (es ls : List (List Int)) (fs rs : List Bool) (w : World) : Prop where
  R : Rm.Room w Y [.slice (some ⟨gD, 0, none⟩) k cD, .slice (some ⟨gE, 0, none⟩) k cE, .slice (some ⟨gL, 0, none⟩) k cL, .slice (some ⟨gF, 0, none⟩) k k, .slice (some ⟨gR, 0, none⟩) k k]
  D : Row w w.heap.size (some ⟨gD, 0, none⟩) k ds
  E : RowsAt w w.heap.size (some ⟨gE, 0, none⟩) k es
  L : RowsAt w w.heap.size (some ⟨gL, 0, none⟩) k ls
  F : Flags w w.heap.size (some ⟨gF, 0, none⟩) k fs
  G : Flags w w.heap.size (some ⟨gR, 0, none⟩) k rs

section
variable {w0 w w' : World} {B p : Nat} {a : Option Addr} {len cap X Y k gK cK gO cO gD cD gE cE gL cL gF gR : Nat} {f d r s t far : Int} {ks os ds : List Int} {es ls : List (List Int)} {fs rs : List Bool}
theorem Nw.lt (h : Nw w0 B p a len cap X k f d r s t gK cK gO cO ks os w) : X < w.heap.size := h.R.lt (by simp)
theorem Nw.below (h : Nw w0 B p a len cap X k f d r s t gK cK gO cO ks os w) (b : Below w.heap.size w w') : Nw w0 B p a len cap X k f d r s t gK cK gO cO ks os w' :=
  ⟨h.st.below b, h.R.below b, h.K.later b h.K.2.2.1, h.O.later b h.O.2.2.1, h.x⟩
theorem Nw.step (h : Nw w0 B p a len cap X k f d r s t gK cK gO cO ks os w) (st : St w0 B p a len cap w') (q : Dr.Step p w w') : Nw w0 B p a len cap X k f d r s t gK cK gO cO ks os w' :=
  ⟨st, rm_step h.R q h.x.2.1 (by simp), has_step h.K q h.x.2.2.1, has_step h.O q h.x.2.2.2.1, h.x⟩
theorem Nw.room {g : Nat} {vs : List Value} (h : Nw w0 B p a len cap X k f d r s t gK cK gO cO ks os w) : Below w0.heap.size w0 w → True := fun _ => trivial
theorem Nt.below (h : Nt Y k gD cD gE cE gL cL gF gR ds es ls fs rs w) (b : Below w.heap.size w w') : Nt Y k gD cD gE cE gL cL gF gR ds es ls fs rs w' :=
  ⟨h.R.below b, (h.D.later b (Nat.le_refl _)).more b.size, (h.E.later b (Nat.le_refl _)).more b.size, (h.L.later b (Nat.le_refl _)).more b.size, (h.F.later b (Nat.le_refl _)).more b.size, (h.G.later b (Nat.le_refl _)).more b.size⟩
/-- The world at X is put to another one. -/
theorem Nw.over (h : Nw w0 B p a len cap X k f d r s t gK cK gO cO ks os w) {gK' cK' gO' cO' : Nat} {ks' os' : List Int} (hK : Has w 0 gK' 0 k ks') (hO : Has w 0 gO' 0 k os') (h1 : gK' ≠ p) (h2 : gO' ≠ p) (h3 : X ≠ gK') (h4 : X ≠ gO') :
    Nw w0 B p a len cap X k f d r s (t + 1) gK' cK' gO' cO' ks' os' (World.setCell (World.setCell (World.setCell (World.setCell (World.setCell (World.setCell (World.setCell (World.setCell (World.setCell w ⟨X, 0, none⟩ (.int .i64 (k : Int))) ⟨X, 1, none⟩ (.int .i64 f)) ⟨X, 2, none⟩ (.int .i64 d)) ⟨X, 3, none⟩ (.int .i64 r)) ⟨X, 4, none⟩ (.int .i64 1000000)) ⟨X, 5, none⟩ (.int .i64 s)) ⟨X, 6, none⟩ (.slice (some ⟨gK', 0, none⟩) k cK')) ⟨X, 7, none⟩ (.slice (some ⟨gO', 0, none⟩) k cO')) ⟨X, 8, none⟩ (.int .i64 (t + 1))) :=
  ⟨st_over9 h.st h.x.1.1 h.x.2.1 h.x.1.2 _ _ _ _ _ _ _ _ _, Rm.over9 h.R _ _ _ _ _ _ _ _ _, has_over9 hK h3 _ _ _ _ _ _ _ _ _, has_over9 hO h4 _ _ _ _ _ _ _ _ _, ⟨h.x.1, h.x.2.1, h1, h2, h3, h4⟩⟩
theorem Nt.falls (h : Nt Y k gD cD gE cE gL cL gF gR ds es ls fs rs w) {q : Nat} (hq : q < k) : w.cell? ⟨gF, q, none⟩ = some (.bool (eb fs q)) := by
  obtain ⟨_, h2 | ⟨b, off, e, hB, hc⟩⟩ := h.F
  · omega
  · cases e
    have := hc q hq
    rwa [Nat.zero_add] at this
theorem Nt.rises (h : Nt Y k gD cD gE cE gL cL gF gR ds es ls fs rs w) {q : Nat} (hq : q < k) : w.cell? ⟨gR, q, none⟩ = some (.bool (eb rs q)) := by
  obtain ⟨_, h2 | ⟨b, off, e, hB, hc⟩⟩ := h.G
  · omega
  · cases e
    have := hc q hq
    rwa [Nat.zero_add] at this
theorem Nw.kind (h : Nw w0 B p a len cap X k f d r s t gK cK gO cO ks os w) {q : Nat} (hq : q < k) : w.cell? ⟨gK, q, none⟩ = some (.int .i64 (el ks q)) := by
  have := h.K.2.2.2.1 q hq
  rwa [Nat.zero_add] at this
/-- What a node does in a turn, by its kind. -/
theorem RT.kinds (h : RT d r f k ks ds es ls fs rs) {q : Nat} (hz : ks.length = k) (hq : q < k) : el (FK ks fs) q = (if eb fs q = true then 1 else el ks q) ∧ (eb fs q = true → el ks q = 0) ∧ (eb rs q = true → el ks q = 1) :=
  ⟨fk_at ks fs q (by omega), fun e => (h.f.1 q e).2, fun e => (h.f.2.1 q e).2⟩
theorem RT.tE (h : RT d r f k ks ds es ls fs rs) (hk : k ≤ 8) : tot es k ≤ 1048576 ∧ tot ls k ≤ 1048576 :=
  ⟨Nat.le_trans (tot_small (q := 8) k (fun i hi => by have := (h.er.2 i hi).1; unfold ln; omega)) (by omega), Nat.le_trans (tot_small (q := 8) k (fun i hi => by have := (h.lr.2 i hi).1; unfold ln; omega)) (by omega)⟩
theorem RW.k8 (h : RW far f d r s k ks os) : k ≤ 8 := by have := h.k1; have := h.f1; omega
theorem RW.pos (h : RW far f d r s k ks os) : 0 < k := by have := h.k0; have := h.f0; omega
theorem RT.hD (h : RT d r f k ks ds es ls fs rs) (hd : d ≤ 1000000) : ∀ j, j < k → -1000000 ≤ el ds j ∧ el ds j ≤ 1000000 := fun j hj => by
  have := h.d1 _ (el_mem (by rw [h.dl]; exact hj)); omega

theorem i_mid (nw : Nw w0 B p a len cap X k f d r s t gK cK gO cO ks os w) (nt : Nt Y k gD cD gE cE gL cL gF gR ds es ls fs rs w) (hW : RW far f d r s k ks os) (hR : RT d r f k ks ds es ls fs rs) :
    Calls Try.prog 17 #[wld (k : Int) f d r 1000000 s (.slice (some ⟨gK, 0, none⟩) k cK) (.slice (some ⟨gO, 0, none⟩) k cO) t, trn (.slice (some ⟨gD, 0, none⟩) k cD) (.slice (some ⟨gE, 0, none⟩) k cE) (.slice (some ⟨gL, 0, none⟩) k cL) (.slice (some ⟨gF, 0, none⟩) k k) (.slice (some ⟨gR, 0, none⟩) k k)] w fun e w' => e = .returned (.int .i64 (MS (k : Int) f d r 1000000 s ks k os k t ds es ls fs rs k k)) ∧ Below w.heap.size w w' := by
  have hk : k ≤ 1048576 := by have := hW.k8; omega
  exact Tu.i_MiddleSkew (k : Int) f d r 1000000 s t gK 0 k cK (some ⟨gO, 0, none⟩) k cO (some ⟨gD, 0, none⟩) (some ⟨gE, 0, none⟩) (some ⟨gL, 0, none⟩) (some ⟨gF, 0, none⟩) (some ⟨gR, 0, none⟩) k cD k cE k cL k k k k ks os ds es ls fs rs w nw.K.1 nw.K.2.2.2.1 nw.K.2.2.1 nw.O.row nt.D nt.E nt.L nt.F nt.G hk hk hk hk hk hk hk (hR.tE hW.k8).1 (hR.tE hW.k8).2

theorem s_mid (nw : Nw w0 B p a len cap X k f d r s t gK cK gO cO ks os w) (nt : Nt Y k gD cD gE cE gL cL gF gR ds es ls fs rs w) (hW : RW far f d r s k ks os) (hR : RT d r f k ks ds es ls fs rs) :
    Calls Try.prog 48 #[wld (k : Int) f d r 1000000 s (.slice (some ⟨gK, 0, none⟩) k cK) (.slice (some ⟨gO, 0, none⟩) k cO) t, trn (.slice (some ⟨gD, 0, none⟩) k cD) (.slice (some ⟨gE, 0, none⟩) k cE) (.slice (some ⟨gL, 0, none⟩) k cL) (.slice (some ⟨gF, 0, none⟩) k k) (.slice (some ⟨gR, 0, none⟩) k k)] w fun e w' => e = .returned (.int .i64 (MS (k : Int) f d r 1000000 s ks k os k t ds es ls fs rs k k)) ∧ Below w.heap.size w w' := by
  have hk : k ≤ 1048576 := by have := hW.k8; omega
  exact Tu.s_MiddleSkew (k : Int) f d r 1000000 s t gK 0 k cK (some ⟨gO, 0, none⟩) k cO (some ⟨gD, 0, none⟩) (some ⟨gE, 0, none⟩) (some ⟨gL, 0, none⟩) (some ⟨gF, 0, none⟩) (some ⟨gR, 0, none⟩) k cD k cE k cL k k k k ks os ds es ls fs rs w nw.K.1 nw.K.2.2.2.1 nw.K.2.2.1 nw.O.row nt.D nt.E nt.L nt.F nt.G hk hk hk hk

theorem i_cor (nw : Nw w0 B p a len cap X k f d r s t gK cK gO cO ks os w) (nt : Nt Y k gD cD gE cE gL cL gF gR ds es ls fs rs w) (hW : RW far f d r s k ks os) (hR : RT d r f k ks ds es ls fs rs) (j : Nat) :
    Calls Try.prog 19 #[wld (k : Int) f d r 1000000 s (.slice (some ⟨gK, 0, none⟩) k cK) (.slice (some ⟨gO, 0, none⟩) k cO) t, trn (.slice (some ⟨gD, 0, none⟩) k cD) (.slice (some ⟨gE, 0, none⟩) k cE) (.slice (some ⟨gL, 0, none⟩) k cL) (.slice (some ⟨gF, 0, none⟩) k k) (.slice (some ⟨gR, 0, none⟩) k k), .int .i64 (j : Int)] w fun e w' => e = .returned (.tuple #[.int .i64 (CV (k : Int) f d r 1000000 s ks k os k t ds es ls fs rs k k j), .bool (CB (k : Int) f d r 1000000 s ks k os k t ds es ls fs rs k k j)]) ∧ Below w.heap.size w w' := by
  have hk : k ≤ 1048576 := by have := hW.k8; omega
  exact Tu.i_CorrectionOf (k : Int) f d r 1000000 s t gK 0 k cK (some ⟨gO, 0, none⟩) k cO (some ⟨gD, 0, none⟩) (some ⟨gE, 0, none⟩) (some ⟨gL, 0, none⟩) (some ⟨gF, 0, none⟩) (some ⟨gR, 0, none⟩) k cD k cE k cL k k k k ks os ds es ls fs rs w nw.K.1 nw.K.2.2.2.1 nw.K.2.2.1 nw.O.row nt.D nt.E nt.L nt.F nt.G hk hk hk hk hk hk hk (hR.tE hW.k8).1 (hR.tE hW.k8).2 (j : Int)

theorem i_trn (nw : Nw w0 B p a len cap X k f d r s t gK cK gO cO ks os w) (nt : Nt Y k gD cD gE cE gL cL gF gR ds es ls fs rs w) (hW : RW far f d r s k ks os) (hR : RT d r f k ks ds es ls fs rs) (hf : far ≤ 1000000) (t0 : 0 ≤ t) (t1 : t < 1000000) :
    Calls Try.prog 21 #[wld (k : Int) f d r 1000000 s (.slice (some ⟨gK, 0, none⟩) k cK) (.slice (some ⟨gO, 0, none⟩) k cO) t, trn (.slice (some ⟨gD, 0, none⟩) k cD) (.slice (some ⟨gE, 0, none⟩) k cE) (.slice (some ⟨gL, 0, none⟩) k cL) (.slice (some ⟨gF, 0, none⟩) k k) (.slice (some ⟨gR, 0, none⟩) k k)] w fun e w' => (∃ gK' cK' gO' cO', e = .returned (.tuple #[wld (k : Int) f d r 1000000 s (.slice (some ⟨gK', 0, none⟩) k cK') (.slice (some ⟨gO', 0, none⟩) k cO') (t + 1), .bool true]) ∧ Has w' w.heap.size gK' 0 k (TK (k : Int) f d r 1000000 s ks k os k t ds es ls fs rs k k) ∧ Has w' w.heap.size gO' 0 k (TF (k : Int) f d r 1000000 s ks k os k t ds es ls fs rs k k) ∧ gK' ≠ gO') ∧ Below w.heap.size w w' := by
  have hk : k ≤ 1048576 := by have := hW.k8; omega
  have hb := hW.rb hR hf t0 t1
  have e1 : RU (k : Int) f d r 1000000 s ks k os k t ds es ls fs rs k k = t + 1 := by unfold RU; rw [if_pos hb]
  have e2 : RK (k : Int) f d r 1000000 s ks k os k t ds es ls fs rs k k = TK (k : Int) f d r 1000000 s ks k os k t ds es ls fs rs k k := by unfold RK; rw [if_pos hb]
  have e3 : RO (k : Int) f d r 1000000 s ks k os k t ds es ls fs rs k k = TF (k : Int) f d r 1000000 s ks k os k t ds es ls fs rs k k := by unfold RO; rw [if_pos hb]
  have key := Tu.it_c f d r 1000000 s t gK 0 k cK gO 0 cO (some ⟨gD, 0, none⟩) (some ⟨gE, 0, none⟩) (some ⟨gL, 0, none⟩) (some ⟨gF, 0, none⟩) (some ⟨gR, 0, none⟩) cD cE cL k k ks os ds es ls fs rs w nw.K.1 nw.K.2.2.2.1 nw.K.2.2.1 nw.O.1 nw.O.2.2.2.1 nw.O.2.2.1 nt.D nt.E nt.L nt.F nt.G hk (hR.tE hW.k8).1 (hR.tE hW.k8).2 (hW.wo (by omega) t t0 (by omega)) (hW.to hR hf t0 t1) (fun j hj => by have := hW.lo j hj; omega) (hR.hD (by have := hW.d1; omega)) ⟨t0, by omega⟩
  rw [hb, e1, e2, e3] at key
  refine key.mono ?_
  rintro e w2 ⟨⟨gK', cK', gO', cO', rfl, oK, oO, hne⟩, b⟩
  exact ⟨⟨gK', cK', gO', cO', rfl, oK.has, oO.has, hne⟩, b⟩

theorem s_trn (nw : Nw w0 B p a len cap X k f d r s t gK cK gO cO ks os w) (nt : Nt Y k gD cD gE cE gL cL gF gR ds es ls fs rs w) (hW : RW far f d r s k ks os) (hR : RT d r f k ks ds es ls fs rs) (hf : far ≤ 1000000) (t0 : 0 ≤ t) (t1 : t < 1000000) :
    Calls Try.prog 23 #[wld (k : Int) f d r 1000000 s (.slice (some ⟨gK, 0, none⟩) k cK) (.slice (some ⟨gO, 0, none⟩) k cO) t, trn (.slice (some ⟨gD, 0, none⟩) k cD) (.slice (some ⟨gE, 0, none⟩) k cE) (.slice (some ⟨gL, 0, none⟩) k cL) (.slice (some ⟨gF, 0, none⟩) k k) (.slice (some ⟨gR, 0, none⟩) k k)] w fun e w' => (∃ gK' cK' gO' cO', e = .returned (.tuple #[wld (k : Int) f d r 1000000 s (.slice (some ⟨gK', 0, none⟩) k cK') (.slice (some ⟨gO', 0, none⟩) k cO') (t + 1), .bool true]) ∧ Has w' w.heap.size gK' 0 k (TK (k : Int) f d r 1000000 s ks k os k t ds es ls fs rs k k) ∧ Has w' w.heap.size gO' 0 k (TF (k : Int) f d r 1000000 s ks k os k t ds es ls fs rs k k) ∧ gK' ≠ gO') ∧ Below w.heap.size w w' := by
  have hk : k ≤ 1048576 := by have := hW.k8; omega
  have hb := hW.rb hR hf t0 t1
  have e1 : RU (k : Int) f d r 1000000 s ks k os k t ds es ls fs rs k k = t + 1 := by unfold RU; rw [if_pos hb]
  have e2 : RK (k : Int) f d r 1000000 s ks k os k t ds es ls fs rs k k = TK (k : Int) f d r 1000000 s ks k os k t ds es ls fs rs k k := by unfold RK; rw [if_pos hb]
  have e3 : RO (k : Int) f d r 1000000 s ks k os k t ds es ls fs rs k k = TF (k : Int) f d r 1000000 s ks k os k t ds es ls fs rs k k := by unfold RO; rw [if_pos hb]
  have key := Tu.st_c f d r 1000000 s t gK 0 k cK gO 0 cO (some ⟨gD, 0, none⟩) (some ⟨gE, 0, none⟩) (some ⟨gL, 0, none⟩) (some ⟨gF, 0, none⟩) (some ⟨gR, 0, none⟩) cD cE cL k k ks os ds es ls fs rs w nw.K.1 nw.K.2.2.2.1 nw.K.2.2.1 nw.O.1 nw.O.2.2.2.1 nw.O.2.2.1 nt.D nt.E nt.L nt.F nt.G hk (hR.tE hW.k8).1 (hR.tE hW.k8).2 (hW.wo (by omega) t t0 (by omega)) (hW.to hR hf t0 t1) (fun j hj => by have := hW.lo j hj; omega) (hR.hD (by have := hW.d1; omega)) ⟨t0, by omega⟩
  rw [hb, e1, e2, e3] at key
  refine key.mono ?_
  rintro e w2 ⟨⟨gK', cK', gO', cO', rfl, oK, oO, hne⟩, b⟩
  exact ⟨⟨gK', cK', gO', cO', rfl, oK.has, oO.has, hne⟩, b⟩

end

end Go.Proofs.Ytloicicgcdfgnaa.Lw

namespace Go.Proofs.Ytloicicgcdfgnaa.Lw
open Go.ChangeShapes Go.WideShapes Go.ChangeAt Go.RowKit
open Ow (Has)
set_option linter.unusedVariables false
/-- A world in memory, at X. -/
structure Nv (X : Nat) (k : Nat) (f d r s t : Int) (gK cK gO cO : Nat) (ks os : List Int) (w : World) : Prop where
  R : Rm.Room w X [.int .i64 (k : Int), .int .i64 f, .int .i64 d, .int .i64 r, .int .i64 1000000, .int .i64 s, .slice (some ⟨gK, 0, none⟩) k cK, .slice (some ⟨gO, 0, none⟩) k cO, .int .i64 t]
  K : Has w 0 gK 0 k ks
  O : Has w 0 gO 0 k os
theorem Nv.below {X k : Nat} {f d r s t : Int} {gK cK gO cO : Nat} {ks os : List Int} {w w' : World} (h : Nv X k f d r s t gK cK gO cO ks os w) (b : Below w.heap.size w w') : Nv X k f d r s t gK cK gO cO ks os w' :=
  ⟨h.R.below b, h.K.later b h.K.2.2.1, h.O.later b h.O.2.2.1⟩
/-- A world stored into a new block. -/
theorem Nv.make {B k : Nat} {f d r s t : Int} {gK cK gO cO : Nat} {ks os : List Int} {w : World} (hK : Has w B gK 0 k ks) (hO : Has w B gO 0 k os) (T : TypeId) :
    Nv w.heap.size k f d r s t gK cK gO cO ks os (w.alloc (.cells #[.int .i64 (k : Int), .int .i64 f, .int .i64 d, .int .i64 r, .int .i64 1000000, .int .i64 s, .slice (some ⟨gK, 0, none⟩) k cK, .slice (some ⟨gO, 0, none⟩) k cO, .int .i64 t] T)) :=
  have b : Below w.heap.size w (w.alloc (.cells #[.int .i64 (k : Int), .int .i64 f, .int .i64 d, .int .i64 r, .int .i64 1000000, .int .i64 s, .slice (some ⟨gK, 0, none⟩) k cK, .slice (some ⟨gO, 0, none⟩) k cO, .int .i64 t] T)) := (Below.refl _ w).alloc (Nat.le_refl _) _
  ⟨Rm.Room.new w _ T, (has_mono hK (Nat.zero_le _)).later b hK.2.2.1, (has_mono hO (Nat.zero_le _)).later b hO.2.2.1⟩

end Go.Proofs.Ytloicicgcdfgnaa.Lw

namespace Go.Proofs.Ytloicicgcdfgnaa.Wl
open Go.ChangeShapes Go.WideShapes Go.ChangeAt Go.RowKit
open Ls (el Row)
set_option linter.unusedVariables false
set_option linter.unusedSimpArgs false

set_option maxHeartbeats 8000000 in
set_option maxRecDepth 100000 in
theorem likeWorld (n l d r p s t : Int) (aK aO aK' aO' : Option Addr) (k cK m cO cK' cO' : Nat) (ks os : List Int) (w : World) (h1 : Row w w.heap.size aK k ks) (h2 : Row w w.heap.size aK' k ks) (h3 : Row w w.heap.size aO m os) (h4 : Row w w.heap.size aO' m os) (hk : k ≤ 1048576) (hm : m ≤ 1048576) :
    Calls Try.prog 25 #[wld n l d r p s (.slice aK k cK) (.slice aO m cO) t, wld n l d r p s (.slice aK' k cK') (.slice aO' m cO') t] w fun e w' => e = .returned (.bool true) ∧ Below w.heap.size w w' := by
  have BB := ((Below.refl w.heap.size w).alloc (Nat.le_refl _) (.cells #[.int .i64 n, .int .i64 l, .int .i64 d, .int .i64 r, .int .i64 p, .int .i64 s, .slice aK k cK, .slice aO m cO, .int .i64 t] 31)).alloc (by simp) (.cells #[.int .i64 n, .int .i64 l, .int .i64 d, .int .i64 r, .int .i64 p, .int .i64 s, .slice aK' k cK', .slice aO' m cO', .int .i64 t] 31)
  have R1 := (Rm.Room.new w [.int .i64 n, .int .i64 l, .int .i64 d, .int .i64 r, .int .i64 p, .int .i64 s, .slice aK k cK, .slice aO m cO, .int .i64 t] 31).alloc (.cells #[.int .i64 n, .int .i64 l, .int .i64 d, .int .i64 r, .int .i64 p, .int .i64 s, .slice aK' k cK', .slice aO' m cO', .int .i64 t] 31)
  have R2 : Rm.Room ((w.alloc (.cells #[.int .i64 n, .int .i64 l, .int .i64 d, .int .i64 r, .int .i64 p, .int .i64 s, .slice aK k cK, .slice aO m cO, .int .i64 t] 31)).alloc (.cells #[.int .i64 n, .int .i64 l, .int .i64 d, .int .i64 r, .int .i64 p, .int .i64 s, .slice aK' k cK', .slice aO' m cO', .int .i64 t] 31)) (w.heap.size + 1) [.int .i64 n, .int .i64 l, .int .i64 d, .int .i64 r, .int .i64 p, .int .i64 s, .slice aK' k cK', .slice aO' m cO', .int .i64 t] := Rm.Room.at _ [.int .i64 n, .int .i64 l, .int .i64 d, .int .i64 r, .int .i64 p, .int .i64 s, .slice aK' k cK', .slice aO' m cO', .int .i64 t] 31 _ (by simp)
  go_enter Try.func25, Try.ntmps25
  go_wp2_with fail
  refine (Ls.likeInts _ _ _ _ _ ks _ ((h1.later BB (Nat.le_refl _)).more BB.size) ((h2.later BB (Nat.le_refl _)).more BB.size) hk).mono ?_
  rintro e w1 ⟨rfl, b1⟩
  replace R1 := R1.below b1
  replace R2 := R2.below b1
  replace BB := BB.trans (b1.mono BB.size)
  clear b1
  have c1 := R1.cell 7 rfl
  have c2 := R2.cell 7 rfl
  go_wp2_with fail
  refine (Ls.likeInts _ _ _ _ _ os _ ((h3.later BB (Nat.le_refl _)).more BB.size) ((h4.later BB (Nat.le_refl _)).more BB.size) hm).mono ?_
  rintro e w2 ⟨rfl, b2⟩
  go_wp2
  go_ret
  exact ⟨rfl, BB.trans (b2.mono BB.size)⟩

end Go.Proofs.Ytloicicgcdfgnaa.Wl
