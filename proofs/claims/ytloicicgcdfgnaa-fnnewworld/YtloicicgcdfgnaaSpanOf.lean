/-
  SpanOf of impl and of spec by one answer; each writes nothing that was there ahead of it.
-/
import Derived.Test.YtloicicgcdfgnaaOffs
import Derived.Test.YtloicicgcdfgnaaHullSp
import Derived.Test.YtloicicgcdfgnaaPut
namespace Go.Proofs.Ytloicicgcdfgnaa.Wl
open Go.ChangeShapes Go.WideShapes Go.ChangeAt Go.RowKit
open Ls (el Row)
open Rm (Room)
open Ow (Has Own ints)
open Cf (cfg CP)
open Sp (span pk)
open Hu (HT mnK mxK)
set_option linter.unusedVariables false
set_option linter.unusedSimpArgs false

/-- What a Hull answers. -/
def lo (O : List Int) : Int := pk (HT O O.length) (mnK O O.length)
def hi (O : List Int) : Int := pk (HT O O.length) (mxK O O.length)

set_option maxHeartbeats 4000000 in
theorem i_SpanOf (n l d r p s t : Int) (a b : Option Addr) (k ka m mb : Nat) (ks os : List Int) (w : World) (hr : Row w w.heap.size a k ks) (hs : Row w w.heap.size b m os) (hk : k ≤ 1048576) (hm : m ≤ 1048576) :
    Calls Try.prog 31 #[wld n l d r p s (.slice a k ka) (.slice b m mb) t] w fun e w' => e = .returned (.tuple #[span (lo (OL n l d r p s ks k os m t)) (hi (OL n l d r p s ks k os m t)), .bool (HT (OL n l d r p s ks k os m t) (OL n l d r p s ks k os m t).length)]) ∧ Below w.heap.size w w' := by
  have hL := smallO n l d r p s ks k os m t hk
  have B1 := ((Below.refl w.heap.size w).alloc (Nat.le_refl _) (.cells #[.int .i64 n, .int .i64 l, .int .i64 d, .int .i64 r, .int .i64 p, .int .i64 s, .slice a k ka, .slice b m mb, .int .i64 t] 31)).alloc (by simp) (.cells #[.int .i64 0, .int .i64 0] 55)
  have R1 : Room ((w.alloc (.cells #[.int .i64 n, .int .i64 l, .int .i64 d, .int .i64 r, .int .i64 p, .int .i64 s, .slice a k ka, .slice b m mb, .int .i64 t] 31)).alloc (.cells #[.int .i64 0, .int .i64 0] 55)) (w.heap.size + 1) [.int .i64 0, .int .i64 0] := Room.at _ [.int .i64 0, .int .i64 0] 55 _ (by simp)
  have key := i_OffsOf n l d r p s t a b k ka m mb ks os _ ((hr.later B1 (Nat.le_refl _)).more B1.size) ((hs.later B1 (Nat.le_refl _)).more B1.size) hk hm
  unfold lo hi
  generalize OL n l d r p s ks k os m t = O at hL key ⊢
  go_enter Try.func31, Try.ntmps31
  go_wp2_with fail
  refine key.mono ?_
  rintro e w2 ⟨⟨g, ⟨c, rfl⟩, hg⟩, b2⟩
  have B2 := B1.trans (b2.mono B1.size)
  have R2 := R1.below b2
  clear key B1 R1 b2
  go_wp2_with fail
  refine (Hu.i_Hull _ O.length c O _ hg.row hL).mono ?_
  rintro e w3 ⟨rfl, b3⟩
  have B3 := B2.trans (b3.mono B2.size)
  have R3 := R2.below b3
  have c0 := R3.cell 0 rfl
  have c1 := R3.cell 1 rfl
  have f0 := R3.froz 0 rfl
  have f1 := R3.froz 1 rfl
  have R4 := Rm.over2 R3 (.int .i64 (pk (HT O O.length) (mnK O O.length))) (.int .i64 (pk (HT O O.length) (mxK O O.length)))
  have B4 := (B3.setCell (p := ⟨w.heap.size + 1, 0, none⟩) (by simp) (.int .i64 (pk (HT O O.length) (mnK O O.length)))).setCell (p := ⟨w.heap.size + 1, 1, none⟩) (by simp) (.int .i64 (pk (HT O O.length) (mxK O O.length)))
  go_wp2
  refine bodyPost_ret (v := .tuple #[span (pk (HT O O.length) (mnK O O.length)) (pk (HT O O.length) (mxK O O.length)), .bool (HT O O.length)]) (by simp [results, Try.results31, go_sem, Sp.set_a c0, Sp.set_b c1]) rfl ⟨rfl, B4⟩

set_option maxHeartbeats 4000000 in
theorem s_SpanOf (n l d r p s t : Int) (a b : Option Addr) (k ka m mb : Nat) (ks os : List Int) (w : World) (hr : Row w w.heap.size a k ks) (hs : Row w w.heap.size b m os) (hk : k ≤ 1048576) (hm : m ≤ 1048576) :
    Calls Try.prog 43 #[wld n l d r p s (.slice a k ka) (.slice b m mb) t] w fun e w' => e = .returned (.tuple #[span (lo (OL n l d r p s ks k os m t)) (hi (OL n l d r p s ks k os m t)), .bool (HT (OL n l d r p s ks k os m t) (OL n l d r p s ks k os m t).length)]) ∧ Below w.heap.size w w' := by
  have hL := smallO n l d r p s ks k os m t hk
  have B1 := ((Below.refl w.heap.size w).alloc (Nat.le_refl _) (.cells #[.int .i64 n, .int .i64 l, .int .i64 d, .int .i64 r, .int .i64 p, .int .i64 s, .slice a k ka, .slice b m mb, .int .i64 t] 31)).alloc (by simp) (.cells #[.int .i64 0, .int .i64 0] 55)
  have R1 : Room ((w.alloc (.cells #[.int .i64 n, .int .i64 l, .int .i64 d, .int .i64 r, .int .i64 p, .int .i64 s, .slice a k ka, .slice b m mb, .int .i64 t] 31)).alloc (.cells #[.int .i64 0, .int .i64 0] 55)) (w.heap.size + 1) [.int .i64 0, .int .i64 0] := Room.at _ [.int .i64 0, .int .i64 0] 55 _ (by simp)
  have key := s_OffsOf n l d r p s t a b k ka m mb ks os _ ((hr.later B1 (Nat.le_refl _)).more B1.size) ((hs.later B1 (Nat.le_refl _)).more B1.size) hk hm
  unfold lo hi
  generalize OL n l d r p s ks k os m t = O at hL key ⊢
  go_enter Try.func43, Try.ntmps43
  go_wp2_with fail
  refine key.mono ?_
  rintro e w2 ⟨⟨g, ⟨c, rfl⟩, hg⟩, b2⟩
  have B2 := B1.trans (b2.mono B1.size)
  have R2 := R1.below b2
  clear key B1 R1 b2
  go_wp2_with fail
  refine (Hu.s_Hull _ O.length c O _ hg.row hL).mono ?_
  rintro e w3 ⟨rfl, b3⟩
  have B3 := B2.trans (b3.mono B2.size)
  have R3 := R2.below b3
  have c0 := R3.cell 0 rfl
  have c1 := R3.cell 1 rfl
  have f0 := R3.froz 0 rfl
  have f1 := R3.froz 1 rfl
  have R4 := Rm.over2 R3 (.int .i64 (pk (HT O O.length) (mnK O O.length))) (.int .i64 (pk (HT O O.length) (mxK O O.length)))
  have B4 := (B3.setCell (p := ⟨w.heap.size + 1, 0, none⟩) (by simp) (.int .i64 (pk (HT O O.length) (mnK O O.length)))).setCell (p := ⟨w.heap.size + 1, 1, none⟩) (by simp) (.int .i64 (pk (HT O O.length) (mxK O O.length)))
  go_wp2
  refine bodyPost_ret (v := .tuple #[span (pk (HT O O.length) (mnK O O.length)) (pk (HT O O.length) (mxK O O.length)), .bool (HT O O.length)]) (by simp [results, Try.results43, go_sem, Sp.set_a c0, Sp.set_b c1]) rfl ⟨rfl, B4⟩

end Go.Proofs.Ytloicicgcdfgnaa.Wl
