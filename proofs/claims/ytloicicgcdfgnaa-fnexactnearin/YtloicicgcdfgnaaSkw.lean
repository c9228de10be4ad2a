/-
  SkewOf of impl and of spec by one answer; each writes nothing that was there ahead of it.
-/
import Derived.Test.YtloicicgcdfgnaaOffs
import Derived.Test.YtloicicgcdfgnaaHullSp
namespace Go.Proofs.Ytloicicgcdfgnaa.Wl
open Go.ChangeShapes Go.WideShapes Go.ChangeAt Go.RowKit
open Ls (el Row)
open Rm (Room)
open Ow (Has Own ints)
open Cf (cfg CP)
set_option linter.unusedVariables false
set_option linter.unusedSimpArgs false

/-- The answer of SkewOf. -/
def SK (n l d r p s : Int) (ks : List Int) (k : Nat) (os : List Int) (m : Nat) (t : Int) : Int := if WO n l d r p s ks k os m t = true then Sr.SO (OL n l d r p s ks k os m t) (OL n l d r p s ks k os m t).length else -1

set_option maxHeartbeats 2000000 in
theorem i_SkewOf (n l d r p s t : Int) (a b : Option Addr) (k ka m mb : Nat) (ks os : List Int) (w : World) (hr : Row w w.heap.size a k ks) (hs : Row w w.heap.size b m os) (hk : k ≤ 1048576) (hm : m ≤ 1048576) :
    Calls Try.prog 46 #[wld n l d r p s (.slice a k ka) (.slice b m mb) t] w fun e w' => e = .returned (.int .i64 (SK n l d r p s ks k os m t)) ∧ Below w.heap.size w w' := by
  have hL := smallO n l d r p s ks k os m t hk
  have B1 := (Below.refl w.heap.size w).alloc (Nat.le_refl _) (.cells #[.int .i64 n, .int .i64 l, .int .i64 d, .int .i64 r, .int .i64 p, .int .i64 s, .slice a k ka, .slice b m mb, .int .i64 t] 31)
  have R1 := Room.new w (c9 n l d r p s (.slice a k ka) (.slice b m mb) t) 31
  cases hq : WO n l d r p s ks k os m t with
  | false =>
    have E : SK n l d r p s ks k os m t = -1 := by unfold SK; rw [hq]; rfl
    rw [E]
    clear E
    go_enter Try.func46, Try.ntmps46
    go_wp2_with fail
    refine (i_WorldOk n l d r p s t a b k ka m mb ks os _ ((hr.later B1 (Nat.le_refl _)).more B1.size) ((hs.later B1 (Nat.le_refl _)).more B1.size) hk hm).mono ?_
    rintro e w2 ⟨rfl, bb⟩
    rw [hq]
    have b2 := B1.trans (bb.mono B1.size)
    go_wp2
    go_ret
    exact ⟨rfl, b2⟩
  | true =>
    have E : SK n l d r p s ks k os m t = Sr.SO (OL n l d r p s ks k os m t) (OL n l d r p s ks k os m t).length := by unfold SK; rw [if_pos hq]
    rw [E]
    clear E
    have key := fun w hr hs => i_OffsOf n l d r p s t a b k ka m mb ks os w hr hs hk hm
    generalize OL n l d r p s ks k os m t = O at key hL ⊢
    go_enter Try.func46, Try.ntmps46
    go_wp2_with fail
    refine (i_WorldOk n l d r p s t a b k ka m mb ks os _ ((hr.later B1 (Nat.le_refl _)).more B1.size) ((hs.later B1 (Nat.le_refl _)).more B1.size) hk hm).mono ?_
    rintro e w2 ⟨rfl, bb⟩
    rw [hq]
    have b2 := B1.trans (bb.mono B1.size)
    have z2 := b2.size
    have R2 := R1.below bb
    have c0 := R2.cell 0 rfl
    have c1 := R2.cell 1 rfl
    have c2 := R2.cell 2 rfl
    have c3 := R2.cell 3 rfl
    have c4 := R2.cell 4 rfl
    have c5 := R2.cell 5 rfl
    have c6 := R2.cell 6 rfl
    have c7 := R2.cell 7 rfl
    have c8 := R2.cell 8 rfl
    go_wp2_with fail
    refine (key _ ((hr.later b2 (Nat.le_refl _)).more b2.size) ((hs.later b2 (Nat.le_refl _)).more b2.size)).mono ?_
    rintro e w3 ⟨⟨g, ⟨c, rfl⟩, ho⟩, b3⟩
    have b3' := b2.trans (b3.mono z2)
    clear key b3
    go_wp2_with fail
    refine (Sr.i_SpreadOf _ O.length c O _ ho.row hL).mono ?_
    rintro e w4 ⟨rfl, b4⟩
    go_wp2
    go_ret
    exact ⟨rfl, b3'.trans (b4.mono b3'.size)⟩

set_option maxHeartbeats 2000000 in
theorem s_SkewOf (n l d r p s t : Int) (a b : Option Addr) (k ka m mb : Nat) (ks os : List Int) (w : World) (hr : Row w w.heap.size a k ks) (hs : Row w w.heap.size b m os) (hk : k ≤ 1048576) (hm : m ≤ 1048576) :
    Calls Try.prog 45 #[wld n l d r p s (.slice a k ka) (.slice b m mb) t] w fun e w' => e = .returned (.int .i64 (SK n l d r p s ks k os m t)) ∧ Below w.heap.size w w' := by
  have hL := smallO n l d r p s ks k os m t hk
  have B1 := (Below.refl w.heap.size w).alloc (Nat.le_refl _) (.cells #[.int .i64 n, .int .i64 l, .int .i64 d, .int .i64 r, .int .i64 p, .int .i64 s, .slice a k ka, .slice b m mb, .int .i64 t] 31)
  have R1 := Room.new w (c9 n l d r p s (.slice a k ka) (.slice b m mb) t) 31
  cases hq : WO n l d r p s ks k os m t with
  | false =>
    have E : SK n l d r p s ks k os m t = -1 := by unfold SK; rw [hq]; rfl
    rw [E]
    clear E
    go_enter Try.func45, Try.ntmps45
    go_wp2_with fail
    refine (s_WorldOk n l d r p s t a b k ka m mb ks os _ ((hr.later B1 (Nat.le_refl _)).more B1.size) ((hs.later B1 (Nat.le_refl _)).more B1.size) hk hm).mono ?_
    rintro e w2 ⟨rfl, bb⟩
    rw [hq]
    have b2 := B1.trans (bb.mono B1.size)
    go_wp2
    go_ret
    exact ⟨rfl, b2⟩
  | true =>
    have E : SK n l d r p s ks k os m t = Sr.SO (OL n l d r p s ks k os m t) (OL n l d r p s ks k os m t).length := by unfold SK; rw [if_pos hq]
    rw [E]
    clear E
    have key := fun w hr hs => s_OffsOf n l d r p s t a b k ka m mb ks os w hr hs hk hm
    generalize OL n l d r p s ks k os m t = O at key hL ⊢
    go_enter Try.func45, Try.ntmps45
    go_wp2_with fail
    refine (s_WorldOk n l d r p s t a b k ka m mb ks os _ ((hr.later B1 (Nat.le_refl _)).more B1.size) ((hs.later B1 (Nat.le_refl _)).more B1.size) hk hm).mono ?_
    rintro e w2 ⟨rfl, bb⟩
    rw [hq]
    have b2 := B1.trans (bb.mono B1.size)
    have z2 := b2.size
    have R2 := R1.below bb
    have c0 := R2.cell 0 rfl
    have c1 := R2.cell 1 rfl
    have c2 := R2.cell 2 rfl
    have c3 := R2.cell 3 rfl
    have c4 := R2.cell 4 rfl
    have c5 := R2.cell 5 rfl
    have c6 := R2.cell 6 rfl
    have c7 := R2.cell 7 rfl
    have c8 := R2.cell 8 rfl
    go_wp2_with fail
    refine (key _ ((hr.later b2 (Nat.le_refl _)).more b2.size) ((hs.later b2 (Nat.le_refl _)).more b2.size)).mono ?_
    rintro e w3 ⟨⟨g, ⟨c, rfl⟩, ho⟩, b3⟩
    have b3' := b2.trans (b3.mono z2)
    clear key b3
    go_wp2_with fail
    refine (Sr.s_SpreadOf _ O.length c O _ ho.row hL).mono ?_
    rintro e w4 ⟨rfl, b4⟩
    go_wp2
    go_ret
    exact ⟨rfl, b3'.trans (b4.mono b3'.size)⟩

end Go.Proofs.Ytloicicgcdfgnaa.Wl
