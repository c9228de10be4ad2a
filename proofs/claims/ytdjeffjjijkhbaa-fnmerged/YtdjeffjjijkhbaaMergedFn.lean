/-
  Seals merged either way are the same.
-/
import Derived.Test.YtdjeffjjijkhbaaRows
import Derived.WalkKit
import Derived.ProofKit
import Derived.OpenShut
import Derived.ShutString
import Derived.ChangeOld
import Derived.Below
import Derived.Test.YtdjeffjjijkhbaaIm
import Derived.Test.YtdjeffjjijkhbaaDm
import Derived.Test.YtdjeffjjijkhbaaMq
import Derived.Test.YtdjeffjjijkhbaaLks
import Derived.RegionTactic
import Derived.Test.YtdjeffjjijkhbaaTk
namespace Go.Proofs.Ytdjeffjjijkhbaa.fnMerged
open Go.ChangeShapes Go.WideShapes Go.ChangeAt Go.RowKit
open Go.ChangeMaps (open_string shut_string)
set_option linter.unusedVariables false
set_option linter.unusedSimpArgs false

theorem own : ownKnob Try.prog.godebug = none := by kernel_rfl
theorem laidOut : laidOutB Try.prog = true := by kernel_rfl

/-- WHAT THE WALK IS TOLD OF A SLICE OF INTEGERS THAT CAME IN: it is nil; or it leads to a row of 'cap' cells, the numbers 'zs' (the first 'len' are its elements, the rest its spare room), each fitting its kind. -/
def IsRow (k : IntKind) (w : World) (a : Option Addr) (len cap : Nat) (zs : List Int) : Prop :=
  (a = none ∧ len = 0 ∧ cap = 0 ∧ zs = []) ∨
  ∃ x, a = some x ∧ len ≤ cap ∧ cap ≤ maxLen ∧ zs.length = cap ∧ (∀ i, i < zs.length → w.cell? (x.add i) = some (.int k (zs.getD i 0))) ∧ ∀ n ∈ zs, (Lit.int k n).wf = true

open Ls (Row)
open Ow (Own)
open Sb (S3 es Row3)
open Og (OwnS)
open Mg (RT MG CF PO BR)
/-- Keys, two lists, the merged one. -/
structure Lw (w w' : World) (gk nk ck : Nat) (zs : List Int) (ga na ca : Nat) (A : List S3) (gb nb cb : Nat) (C : List S3) (gm nm cm : Nat) (L : List S3) : Prop where
  K : Own w' w.heap.size gk nk ck zs
  A : OwnS w' w.heap.size ga na ca A
  C : OwnS w' w.heap.size gb nb cb C
  M : OwnS w' w.heap.size gm nm cm L
  BB : Below w.heap.size w w'
theorem Lw.below {w w1 w2 : World} {gk nk ck : Nat} {zs : List Int} {ga na ca : Nat} {A : List S3} {gb nb cb : Nat} {C : List S3} {gm nm cm : Nat} {L : List S3} (h : Lw w w1 gk nk ck zs ga na ca A gb nb cb C gm nm cm L) (b : Below w1.heap.size w1 w2) : Lw w w2 gk nk ck zs ga na ca A gb nb cb C gm nm cm L :=
  ⟨h.K.later b h.K.lt, Og.own_below h.A b, Og.own_below h.C b, Og.own_below h.M b, h.BB.trans (b.mono h.BB.size)⟩

theorem code_of {w : World} {a : Option Addr} {len cap : Nat} {zs : List Int} (h : IsRow .u8 w a len cap zs) (hl : len ≤ 4096) : Dr.Code w w.heap.size a len := by
  refine ⟨hl, ?_⟩
  rcases h with ⟨_, h, _, _⟩ | ⟨x, rfl, h1, h2, h3, h4, h5⟩
  · exact .inl h
  · by_cases h0 : len = 0
    · exact .inl h0
    · obtain ⟨b, off, spot⟩ := x
      have hc := h4 0 (by omega)
      have hs : spot = none := by simpa [Addr.add] using World.cell?_spot hc
      subst hs
      have hb := World.block_lt_of_cell? _ _ hc
      refine .inr ⟨b, off, rfl, by simpa [Addr.add] using hb, fun k hk => ⟨zs.getD k 0, ?_, ?_⟩⟩
      · have hk4 := h4 k (by omega)
        by_cases hk0 : k = 0
        · subst hk0; simpa [Addr.add] using hk4
        · simpa [Addr.add, hk0] using hk4
      · have e : zs.getD k 0 = zs[k]'(by omega) := by simp [List.getD, show k < zs.length by omega]
        refine bounds_u8 (h5 _ ?_)
        rw [e]
        exact List.getElem_mem _

theorem small (a : Option Addr) (len cap : Nat) (h : len ≤ 4096) (w : World) : Calls Try.prog 9 #[.slice a len cap] w fun e w' => e = .returned (.bool false) ∧ w' = w := by
  have h' : ¬ (4096 : Int) < len := by omega
  go_enter Try.func9, Try.ntmps9
  go_wp2
  go_ret
  exact ⟨rfl, rfl⟩

theorem great (a : Option Addr) (len cap : Nat) (h : ¬ len ≤ 4096) (w : World) : Calls Try.prog 9 #[.slice a len cap] w fun e w' => e = .returned (.bool true) ∧ w' = w := by
  have h' : (4096 : Int) < len := by omega
  go_enter Try.func9, Try.ntmps9
  go_wp2
  go_ret
  exact ⟨rfl, rfl⟩

/-! The walk. -/
set_option maxHeartbeats 20000000 in
set_option maxRecDepth 100000 in
theorem walk (a0 : Option Addr) (len0 cap0 : Nat) (z0 : List Int) (w : World) (w0 : IsRow .u8 w a0 len0 cap0 z0) :
    Calls Try.prog 3 #[.slice a0 len0 cap0] w fun e w' => e = .returned (.bool true) ∧ Below w.heap.size w w' := by
  by_cases hl : len0 ≤ 4096
  · have code := code_of w0 hl
    clear w0
    go_enter Try.func3, Try.ntmps3
    go_wp2_with fail
    refine (small a0 len0 cap0 hl _).mono ?_
    rintro e w ⟨rfl, rfl⟩
    go_wp2_with fail
    refine (Dm.drawMerged w.heap.size a0 len0 cap0 w (Nat.le_refl _) code).mono ?_
    rintro e w1 ⟨⟨gk, nk, ck, ga, na, ca, gb, nb, cb, rfl, ⟨n1, n2, n3⟩, zs, A, C, hk, oa, oc⟩, b1⟩
    have s1 := b1.size
    have lA : A.length = na := Og.OwnS.len oa
    have lC : C.length = nb := Og.OwnS.len oc
    have hnk : nk ≤ 1048576 := by omega
    have hT := Mg.rt_tells zs nk
    go_wp2_with fail
    refine (Mi.i_MergedSeals _ nk ck zs _ na ca A _ nb cb C _ hk.row hnk (Og.OwnS.row oa) (by omega) (Og.OwnS.row oc) (by omega)).mono ?_
    rintro e w2 ⟨⟨gm, cm, rfl, om⟩, b2⟩
    have hmle : (MG (RT zs nk) (A ++ C)).length ≤ 16 := by have := Mg.MG_len (RT zs nk) (A ++ C); simp [lA, lC] at this; omega
    obtain ⟨L, hL⟩ : ∃ L, MG (RT zs nk) (A ++ C) = L := ⟨_, rfl⟩
    have HL : Hid (MG (RT zs nk) (A ++ C) = L) := hL
    rw [hL] at om hmle
    rw [hL]
    obtain ⟨nm, hnm⟩ : ∃ nm, L.length = nm := ⟨_, rfl⟩
    rw [hnm] at om hmle
    rw [hnm]
    have LW : Lw w w2 gk nk ck zs ga na ca A gb nb cb C gm nm cm L := ⟨hk.later b2 hk.lt, Og.own_below oa b2, Og.own_below oc b2, Og.own_low om s1, b1.trans (b2.mono s1)⟩
    clear hk oa oc om b1 b2
    go_wp2_with fail
    refine (Mg.s_MergedSeals _ nk ck zs _ na ca A _ nb cb C _ LW.K.row hnk (Og.OwnS.row LW.A) (by omega) (Og.OwnS.row LW.C) (by omega)).mono ?_
    rintro e y1 ⟨⟨g1, c1, rfl, o1⟩, b1⟩
    have q1 : MG (RT zs nk) (A ++ C) = L := HL.out
    rw [q1, hnm] at o1
    rw [q1, hnm]
    replace LW := LW.below b1
    clear b1 q1
    go_wp2_with fail
    refine (Mg.likeSeals _ _ nm cm c1 L _ (Og.OwnS.row LW.M) (Og.OwnS.row o1) (by omega)).mono ?_
    rintro e z1 ⟨rfl, d1⟩
    replace LW := LW.below d1
    clear d1 o1
    go_wp2_with fail
    refine (Mi.i_MergedSeals _ nk ck zs _ nb cb C _ na ca A _ LW.K.row hnk (Og.OwnS.row LW.C) (by omega) (Og.OwnS.row LW.A) (by omega)).mono ?_
    rintro e y2 ⟨⟨g2, c2, rfl, o2⟩, b2⟩
    have q2 : MG (RT zs nk) (C ++ A) = L := (Mg.MG_comm hT A C).trans HL.out
    rw [q2, hnm] at o2
    rw [q2, hnm]
    replace LW := LW.below b2
    clear b2 q2
    go_wp2_with fail
    refine (Mg.likeSeals _ _ nm cm c2 L _ (Og.OwnS.row LW.M) (Og.OwnS.row o2) (by omega)).mono ?_
    rintro e z2 ⟨rfl, d2⟩
    replace LW := LW.below d2
    clear d2 o2
    go_wp2_with fail
    refine (Mi.i_MergedSeals _ nk ck zs _ nm cm L _ na ca A _ LW.K.row hnk (Og.OwnS.row LW.M) (by omega) (Og.OwnS.row LW.A) (by omega)).mono ?_
    rintro e y3 ⟨⟨g3, c3, rfl, o3⟩, b3⟩
    have q3 : MG (RT zs nk) (L ++ A) = L := by rw [← HL.out]; exact Mg.MG_again hT A C
    rw [q3, hnm] at o3
    rw [q3, hnm]
    replace LW := LW.below b3
    clear b3 q3
    go_wp2_with fail
    refine (Mg.likeSeals _ _ nm cm c3 L _ (Og.OwnS.row LW.M) (Og.OwnS.row o3) (by omega)).mono ?_
    rintro e z3 ⟨rfl, d3⟩
    replace LW := LW.below d3
    clear d3 o3
    have UP : Hid (Mg.Up L) := by have := Mg.MG_up hT (A ++ C); rw [HL.out] at this; exact this
    have RI : Hid (∀ i, i < nm → RT zs nk (es L i) = true) := fun i hi => by have := Mg.MG_right hT (ss := A ++ C) (i := i) (by rw [HL.out]; omega); rw [HL.out] at this; exact this
    go_wp2_with fail
    go_loopw [7] (fun q wr => ∃ i : Nat, i ≤ nm ∧ q = .int .i64 (i : Int) ∧ Lw w wr gk nk ck zs ga na ca A gb nb cb C gm nm cm L) (fun q _ => nm - (intOf q).toNat)
    case atStart => exact ⟨0, Nat.zero_le _, rfl, LW⟩
    case round =>
      clear LW
      obtain ⟨i, hi, rfl, LW⟩ := hrel
      by_cases hlt : i < nm
      · have hi2 : (i : Int) < nm := by omega
        by_cases h0 : i = 0
        · have g0 : decide (0 < i) = false := decide_eq_false (by omega)
          clear h0
          go_wp2_with fail
          replace LW := LW.below (Below.refl _ _).drew
          refine wp_region_noPanic ?_
          refine wp_region_held_drew (S := (fun w' => (w'.cell? ⟨gm, i * 3, none⟩ = some (.int .i64 (es L i).1) ∧ w'.cell? ⟨gm, i * 3 + 1, none⟩ = some (.int .i64 (es L i).2.1) ∧ w'.cell? ⟨gm, i * 3 + 2, none⟩ = some (.int .i64 (es L i).2.2)) ∧ Lw w w' gk nk ck zs ga na ca A gb nb cb C gm nm cm L)) (by kernel_rfl) ⟨Og.OwnS.cells LW.M i hlt, LW⟩ (fun hHeld => ?_)
          refine Tk.W 0 (some 51) (.move (.tmp 3)) 24 none ?_
          refine Tk.W 1 (some 52) (.move (.tmp 6)) 25 none ?_
          refine Tk.W 2 (some 53) (.move (.tmp 7)) 3 none ?_
          refine Tk.W 3 (some 54) (.indexAddr 25 (.tmp 52) (.tmp 53)) 0 none ?_
          refine Tk.W 4 (some 55) (.load 32 (.tmp 54)) 32 none ?_
          refine Tk.R 5 (some 56) (.call ⟨.value (.func 14), #[.tmp 51, .tmp 55], #[24, 32]⟩) 4 none (fun K hK => ?_)
          go_simp
          refine (Sl.s_SealRight _ nk ck zs (es L i).1 (es L i).2.1 (es L i).2.2 _ hHeld.2.K.row hnk).mono ?_
          rintro e wk ⟨rfl, bp6⟩
          have LW2 := hHeld.2.below bp6
          clear bp6
          have hR : Sl.SR zs nk (es L i).1 (es L i).2.1 (es L i).2.2 = true := RI.out i hlt
          rw [hR]
          clear hR
          try dsimp only
          refine hK.out _ _ ⟨Og.OwnS.cells LW2.M i hlt, LW2⟩ ?_; clear hK K hHeld; intro hHeld; try simp only [Act.put, List.setIfInBounds_toArray, List.set_cons_zero, List.set_cons_succ]
          refine Tk.W 6 (some 57) (.unOp .not 4 (.tmp 56)) 4 none ?_
          refine Tk.W 7 (some 58) (.move (.tmp 57)) 4 none ?_
          refine Tk.W 8 (some 59) (.move (.tmp 7)) 3 (some (7, false)) ?_
          refine Tk.W 9 (some 60) (.binOp .gtr 3 (.tmp 59) (.const (.int .i64 0)) 3) 4 (some (7, false)) ?_
          refine Tk.W 10 (some 61) (.move (.tmp 60)) 4 (some (7, false)) ?_
          refine Tk.N 11 (some 62) (.move (.tmp 6)) 25 (some (10, true)) ?_
          refine Tk.N 12 (some 63) (.move (.tmp 7)) 3 (some (10, true)) ?_
          refine Tk.N 13 (some 64) (.indexAddr 25 (.tmp 62) (.tmp 63)) 0 (some (10, true)) ?_
          refine Tk.N 14 (some 65) (.fieldAddr 32 (.tmp 64) 0) 0 (some (10, true)) ?_
          refine Tk.N 15 (some 66) (.load 2 (.tmp 65)) 2 (some (10, true)) ?_
          refine Tk.N 16 (some 67) (.move (.tmp 6)) 25 (some (10, true)) ?_
          refine Tk.N 17 (some 68) (.move (.tmp 7)) 3 (some (10, true)) ?_
          refine Tk.N 18 (some 69) (.binOp .sub 3 (.tmp 68) (.const (.int .i64 1)) 3) 3 (some (10, true)) ?_
          refine Tk.N 19 (some 70) (.indexAddr 25 (.tmp 67) (.tmp 69)) 0 (some (10, true)) ?_
          refine Tk.N 20 (some 71) (.fieldAddr 32 (.tmp 70) 0) 0 (some (10, true)) ?_
          refine Tk.N 21 (some 72) (.load 2 (.tmp 71)) 2 (some (10, true)) ?_
          refine Tk.N 22 (some 73) (.binOp .lss 2 (.tmp 66) (.tmp 72) 2) 4 (some (10, true)) ?_
          refine Tk.N 23 (some 74) (.move (.tmp 73)) 4 (some (10, true)) ?_
          refine Tk.N 24 (some 75) (.move (.tmp 6)) 25 (some (23, false)) ?_
          refine Tk.N 25 (some 76) (.move (.tmp 7)) 3 (some (23, false)) ?_
          refine Tk.N 26 (some 77) (.indexAddr 25 (.tmp 75) (.tmp 76)) 0 (some (23, false)) ?_
          refine Tk.N 27 (some 78) (.fieldAddr 32 (.tmp 77) 0) 0 (some (23, false)) ?_
          refine Tk.N 28 (some 79) (.load 2 (.tmp 78)) 2 (some (23, false)) ?_
          refine Tk.N 29 (some 80) (.move (.tmp 6)) 25 (some (23, false)) ?_
          refine Tk.N 30 (some 81) (.move (.tmp 7)) 3 (some (23, false)) ?_
          refine Tk.N 31 (some 82) (.binOp .sub 3 (.tmp 81) (.const (.int .i64 1)) 3) 3 (some (23, false)) ?_
          refine Tk.N 32 (some 83) (.indexAddr 25 (.tmp 80) (.tmp 82)) 0 (some (23, false)) ?_
          refine Tk.N 33 (some 84) (.fieldAddr 32 (.tmp 83) 0) 0 (some (23, false)) ?_
          refine Tk.N 34 (some 85) (.load 2 (.tmp 84)) 2 (some (23, false)) ?_
          refine Tk.N 35 (some 86) (.binOp .eql 2 (.tmp 79) (.tmp 85) 2) 4 (some (23, false)) ?_
          refine Tk.N 36 (some 87) (.move (.tmp 86)) 4 (some (23, false)) ?_
          refine Tk.N 37 (some 88) (.move (.tmp 6)) 25 (some (36, true)) ?_
          refine Tk.N 38 (some 89) (.move (.tmp 7)) 3 (some (36, true)) ?_
          refine Tk.N 39 (some 90) (.indexAddr 25 (.tmp 88) (.tmp 89)) 0 (some (36, true)) ?_
          refine Tk.N 40 (some 91) (.fieldAddr 32 (.tmp 90) 1) 0 (some (36, true)) ?_
          refine Tk.N 41 (some 92) (.load 2 (.tmp 91)) 2 (some (36, true)) ?_
          refine Tk.N 42 (some 93) (.move (.tmp 6)) 25 (some (36, true)) ?_
          refine Tk.N 43 (some 94) (.move (.tmp 7)) 3 (some (36, true)) ?_
          refine Tk.N 44 (some 95) (.binOp .sub 3 (.tmp 94) (.const (.int .i64 1)) 3) 3 (some (36, true)) ?_
          refine Tk.N 45 (some 96) (.indexAddr 25 (.tmp 93) (.tmp 95)) 0 (some (36, true)) ?_
          refine Tk.N 46 (some 97) (.fieldAddr 32 (.tmp 96) 1) 0 (some (36, true)) ?_
          refine Tk.N 47 (some 98) (.load 2 (.tmp 97)) 2 (some (36, true)) ?_
          refine Tk.N 48 (some 99) (.binOp .leq 2 (.tmp 92) (.tmp 98) 2) 4 (some (36, true)) ?_
          refine Tk.N 49 (some 100) (.pick (.tmp 87) (.tmp 99) (.const (.bool false))) 4 (some (23, false)) ?_
          refine Tk.N 50 (some 101) (.pick (.tmp 74) (.const (.bool true)) (.tmp 100)) 4 (some (10, true)) ?_
          refine Tk.W 51 (some 102) (.pick (.tmp 61) (.tmp 101) (.const (.bool false))) 4 (some (7, false)) ?_
          refine Tk.W 52 (some 103) (.pick (.tmp 58) (.const (.bool true)) (.tmp 102)) 4 none ?_
          refine wpAnyH_done (by kernel_rfl) ?_ _
          refine NoPanic.normal ?_
          have LW3 := hHeld.2
          clear hHeld LW
          go_wp2
          go_roundw
          case rel => exact ⟨i + 1, by omega, by go_num, LW3⟩
          case measure => simp [intOf]; omega
        · obtain ⟨j, rfl⟩ : ∃ j, i = j + 1 := ⟨i - 1, by omega⟩
          have hjt : j < nm := by omega
          have AHj := Mg.up_es UP.out (i := j) (j := j + 1) (by omega) (by omega)
          obtain ⟨i, hij⟩ : ∃ i, i = j + 1 := ⟨_, rfl⟩
          rw [← hij] at AHj hi hlt hi2 ⊢
          have g0 : decide (0 < i) = true := decide_eq_true (by omega)
          have hw : IntKind.i64.wrap ((i : Int) - 1) = (j : Int) := by rw [IntKind.wrap_i64]; omega
          clear h0 hij
          have g1 : decide ((es L i).1 < (es L j).1) = false := decide_eq_false (by unfold Mg.AH at AHj; omega)
          by_cases h1 : (es L i).1 = (es L j).1
          · have g2 : ((es L i).1 == (es L j).1) = true := by simp [h1]
            have g3 : decide ((es L i).2.1 ≤ (es L j).2.1) = false := decide_eq_false (by unfold Mg.AH at AHj; omega)
            clear h1 AHj
            go_wp2_with fail
            replace LW := LW.below (Below.refl _ _).drew
            refine wp_region_noPanic ?_
            refine wp_region_held_drew (S := (fun w' => (w'.cell? ⟨gm, i * 3, none⟩ = some (.int .i64 (es L i).1) ∧ w'.cell? ⟨gm, i * 3 + 1, none⟩ = some (.int .i64 (es L i).2.1) ∧ w'.cell? ⟨gm, i * 3 + 2, none⟩ = some (.int .i64 (es L i).2.2)) ∧ (w'.cell? ⟨gm, j * 3, none⟩ = some (.int .i64 (es L j).1) ∧ w'.cell? ⟨gm, j * 3 + 1, none⟩ = some (.int .i64 (es L j).2.1) ∧ w'.cell? ⟨gm, j * 3 + 2, none⟩ = some (.int .i64 (es L j).2.2)) ∧ Lw w w' gk nk ck zs ga na ca A gb nb cb C gm nm cm L)) (by kernel_rfl) ⟨Og.OwnS.cells LW.M i hlt, Og.OwnS.cells LW.M j hjt, LW⟩ (fun hHeld => ?_)
            refine Tk.W 0 (some 51) (.move (.tmp 3)) 24 none ?_
            refine Tk.W 1 (some 52) (.move (.tmp 6)) 25 none ?_
            refine Tk.W 2 (some 53) (.move (.tmp 7)) 3 none ?_
            refine Tk.W 3 (some 54) (.indexAddr 25 (.tmp 52) (.tmp 53)) 0 none ?_
            refine Tk.W 4 (some 55) (.load 32 (.tmp 54)) 32 none ?_
            refine Tk.R 5 (some 56) (.call ⟨.value (.func 14), #[.tmp 51, .tmp 55], #[24, 32]⟩) 4 none (fun K hK => ?_)
            go_simp
            refine (Sl.s_SealRight _ nk ck zs (es L i).1 (es L i).2.1 (es L i).2.2 _ hHeld.2.2.K.row hnk).mono ?_
            rintro e wk ⟨rfl, br6⟩
            have LW2 := hHeld.2.2.below br6
            clear br6
            have hR : Sl.SR zs nk (es L i).1 (es L i).2.1 (es L i).2.2 = true := RI.out i hlt
            rw [hR]
            clear hR
            try dsimp only
            refine hK.out _ _ ⟨Og.OwnS.cells LW2.M i hlt, Og.OwnS.cells LW2.M j hjt, LW2⟩ ?_; clear hK K hHeld; intro hHeld; try simp only [Act.put, List.setIfInBounds_toArray, List.set_cons_zero, List.set_cons_succ]
            refine Tk.W 6 (some 57) (.unOp .not 4 (.tmp 56)) 4 none ?_
            refine Tk.W 7 (some 58) (.move (.tmp 57)) 4 none ?_
            refine Tk.W 8 (some 59) (.move (.tmp 7)) 3 (some (7, false)) ?_
            refine Tk.W 9 (some 60) (.binOp .gtr 3 (.tmp 59) (.const (.int .i64 0)) 3) 4 (some (7, false)) ?_
            refine Tk.W 10 (some 61) (.move (.tmp 60)) 4 (some (7, false)) ?_
            refine Tk.W 11 (some 62) (.move (.tmp 6)) 25 (some (10, true)) ?_
            refine Tk.W 12 (some 63) (.move (.tmp 7)) 3 (some (10, true)) ?_
            refine Tk.W 13 (some 64) (.indexAddr 25 (.tmp 62) (.tmp 63)) 0 (some (10, true)) ?_
            refine Tk.W 14 (some 65) (.fieldAddr 32 (.tmp 64) 0) 0 (some (10, true)) ?_
            refine Tk.W 15 (some 66) (.load 2 (.tmp 65)) 2 (some (10, true)) ?_
            refine Tk.W 16 (some 67) (.move (.tmp 6)) 25 (some (10, true)) ?_
            refine Tk.W 17 (some 68) (.move (.tmp 7)) 3 (some (10, true)) ?_
            refine Tk.W 18 (some 69) (.binOp .sub 3 (.tmp 68) (.const (.int .i64 1)) 3) 3 (some (10, true)) ?_
            refine Tk.W 19 (some 70) (.indexAddr 25 (.tmp 67) (.tmp 69)) 0 (some (10, true)) ?_
            refine Tk.W 20 (some 71) (.fieldAddr 32 (.tmp 70) 0) 0 (some (10, true)) ?_
            refine Tk.W 21 (some 72) (.load 2 (.tmp 71)) 2 (some (10, true)) ?_
            refine Tk.W 22 (some 73) (.binOp .lss 2 (.tmp 66) (.tmp 72) 2) 4 (some (10, true)) ?_
            refine Tk.W 23 (some 74) (.move (.tmp 73)) 4 (some (10, true)) ?_
            refine Tk.W 24 (some 75) (.move (.tmp 6)) 25 (some (23, false)) ?_
            refine Tk.W 25 (some 76) (.move (.tmp 7)) 3 (some (23, false)) ?_
            refine Tk.W 26 (some 77) (.indexAddr 25 (.tmp 75) (.tmp 76)) 0 (some (23, false)) ?_
            refine Tk.W 27 (some 78) (.fieldAddr 32 (.tmp 77) 0) 0 (some (23, false)) ?_
            refine Tk.W 28 (some 79) (.load 2 (.tmp 78)) 2 (some (23, false)) ?_
            refine Tk.W 29 (some 80) (.move (.tmp 6)) 25 (some (23, false)) ?_
            refine Tk.W 30 (some 81) (.move (.tmp 7)) 3 (some (23, false)) ?_
            refine Tk.W 31 (some 82) (.binOp .sub 3 (.tmp 81) (.const (.int .i64 1)) 3) 3 (some (23, false)) ?_
            refine Tk.W 32 (some 83) (.indexAddr 25 (.tmp 80) (.tmp 82)) 0 (some (23, false)) ?_
            refine Tk.W 33 (some 84) (.fieldAddr 32 (.tmp 83) 0) 0 (some (23, false)) ?_
            refine Tk.W 34 (some 85) (.load 2 (.tmp 84)) 2 (some (23, false)) ?_
            refine Tk.W 35 (some 86) (.binOp .eql 2 (.tmp 79) (.tmp 85) 2) 4 (some (23, false)) ?_
            refine Tk.W 36 (some 87) (.move (.tmp 86)) 4 (some (23, false)) ?_
            refine Tk.W 37 (some 88) (.move (.tmp 6)) 25 (some (36, true)) ?_
            refine Tk.W 38 (some 89) (.move (.tmp 7)) 3 (some (36, true)) ?_
            refine Tk.W 39 (some 90) (.indexAddr 25 (.tmp 88) (.tmp 89)) 0 (some (36, true)) ?_
            refine Tk.W 40 (some 91) (.fieldAddr 32 (.tmp 90) 1) 0 (some (36, true)) ?_
            refine Tk.W 41 (some 92) (.load 2 (.tmp 91)) 2 (some (36, true)) ?_
            refine Tk.W 42 (some 93) (.move (.tmp 6)) 25 (some (36, true)) ?_
            refine Tk.W 43 (some 94) (.move (.tmp 7)) 3 (some (36, true)) ?_
            refine Tk.W 44 (some 95) (.binOp .sub 3 (.tmp 94) (.const (.int .i64 1)) 3) 3 (some (36, true)) ?_
            refine Tk.W 45 (some 96) (.indexAddr 25 (.tmp 93) (.tmp 95)) 0 (some (36, true)) ?_
            refine Tk.W 46 (some 97) (.fieldAddr 32 (.tmp 96) 1) 0 (some (36, true)) ?_
            refine Tk.W 47 (some 98) (.load 2 (.tmp 97)) 2 (some (36, true)) ?_
            refine Tk.W 48 (some 99) (.binOp .leq 2 (.tmp 92) (.tmp 98) 2) 4 (some (36, true)) ?_
            refine Tk.W 49 (some 100) (.pick (.tmp 87) (.tmp 99) (.const (.bool false))) 4 (some (23, false)) ?_
            refine Tk.W 50 (some 101) (.pick (.tmp 74) (.const (.bool true)) (.tmp 100)) 4 (some (10, true)) ?_
            refine Tk.W 51 (some 102) (.pick (.tmp 61) (.tmp 101) (.const (.bool false))) 4 (some (7, false)) ?_
            refine Tk.W 52 (some 103) (.pick (.tmp 58) (.const (.bool true)) (.tmp 102)) 4 none ?_
            refine wpAnyH_done (by kernel_rfl) ?_ _
            refine NoPanic.normal ?_
            have LW3 := hHeld.2.2
            clear hHeld LW
            go_wp2
            go_roundw
            case rel => exact ⟨i + 1, by omega, by go_num, LW3⟩
            case measure => simp [intOf]; omega
          · have g2 : ((es L i).1 == (es L j).1) = false := by simp [h1]
            clear h1 AHj
            go_wp2_with fail
            replace LW := LW.below (Below.refl _ _).drew
            refine wp_region_noPanic ?_
            refine wp_region_held_drew (S := (fun w' => (w'.cell? ⟨gm, i * 3, none⟩ = some (.int .i64 (es L i).1) ∧ w'.cell? ⟨gm, i * 3 + 1, none⟩ = some (.int .i64 (es L i).2.1) ∧ w'.cell? ⟨gm, i * 3 + 2, none⟩ = some (.int .i64 (es L i).2.2)) ∧ (w'.cell? ⟨gm, j * 3, none⟩ = some (.int .i64 (es L j).1) ∧ w'.cell? ⟨gm, j * 3 + 1, none⟩ = some (.int .i64 (es L j).2.1) ∧ w'.cell? ⟨gm, j * 3 + 2, none⟩ = some (.int .i64 (es L j).2.2)) ∧ Lw w w' gk nk ck zs ga na ca A gb nb cb C gm nm cm L)) (by kernel_rfl) ⟨Og.OwnS.cells LW.M i hlt, Og.OwnS.cells LW.M j hjt, LW⟩ (fun hHeld => ?_)
            refine Tk.W 0 (some 51) (.move (.tmp 3)) 24 none ?_
            refine Tk.W 1 (some 52) (.move (.tmp 6)) 25 none ?_
            refine Tk.W 2 (some 53) (.move (.tmp 7)) 3 none ?_
            refine Tk.W 3 (some 54) (.indexAddr 25 (.tmp 52) (.tmp 53)) 0 none ?_
            refine Tk.W 4 (some 55) (.load 32 (.tmp 54)) 32 none ?_
            refine Tk.R 5 (some 56) (.call ⟨.value (.func 14), #[.tmp 51, .tmp 55], #[24, 32]⟩) 4 none (fun K hK => ?_)
            go_simp
            refine (Sl.s_SealRight _ nk ck zs (es L i).1 (es L i).2.1 (es L i).2.2 _ hHeld.2.2.K.row hnk).mono ?_
            rintro e wk ⟨rfl, bs6⟩
            have LW2 := hHeld.2.2.below bs6
            clear bs6
            have hR : Sl.SR zs nk (es L i).1 (es L i).2.1 (es L i).2.2 = true := RI.out i hlt
            rw [hR]
            clear hR
            try dsimp only
            refine hK.out _ _ ⟨Og.OwnS.cells LW2.M i hlt, Og.OwnS.cells LW2.M j hjt, LW2⟩ ?_; clear hK K hHeld; intro hHeld; try simp only [Act.put, List.setIfInBounds_toArray, List.set_cons_zero, List.set_cons_succ]
            refine Tk.W 6 (some 57) (.unOp .not 4 (.tmp 56)) 4 none ?_
            refine Tk.W 7 (some 58) (.move (.tmp 57)) 4 none ?_
            refine Tk.W 8 (some 59) (.move (.tmp 7)) 3 (some (7, false)) ?_
            refine Tk.W 9 (some 60) (.binOp .gtr 3 (.tmp 59) (.const (.int .i64 0)) 3) 4 (some (7, false)) ?_
            refine Tk.W 10 (some 61) (.move (.tmp 60)) 4 (some (7, false)) ?_
            refine Tk.W 11 (some 62) (.move (.tmp 6)) 25 (some (10, true)) ?_
            refine Tk.W 12 (some 63) (.move (.tmp 7)) 3 (some (10, true)) ?_
            refine Tk.W 13 (some 64) (.indexAddr 25 (.tmp 62) (.tmp 63)) 0 (some (10, true)) ?_
            refine Tk.W 14 (some 65) (.fieldAddr 32 (.tmp 64) 0) 0 (some (10, true)) ?_
            refine Tk.W 15 (some 66) (.load 2 (.tmp 65)) 2 (some (10, true)) ?_
            refine Tk.W 16 (some 67) (.move (.tmp 6)) 25 (some (10, true)) ?_
            refine Tk.W 17 (some 68) (.move (.tmp 7)) 3 (some (10, true)) ?_
            refine Tk.W 18 (some 69) (.binOp .sub 3 (.tmp 68) (.const (.int .i64 1)) 3) 3 (some (10, true)) ?_
            refine Tk.W 19 (some 70) (.indexAddr 25 (.tmp 67) (.tmp 69)) 0 (some (10, true)) ?_
            refine Tk.W 20 (some 71) (.fieldAddr 32 (.tmp 70) 0) 0 (some (10, true)) ?_
            refine Tk.W 21 (some 72) (.load 2 (.tmp 71)) 2 (some (10, true)) ?_
            refine Tk.W 22 (some 73) (.binOp .lss 2 (.tmp 66) (.tmp 72) 2) 4 (some (10, true)) ?_
            refine Tk.W 23 (some 74) (.move (.tmp 73)) 4 (some (10, true)) ?_
            refine Tk.W 24 (some 75) (.move (.tmp 6)) 25 (some (23, false)) ?_
            refine Tk.W 25 (some 76) (.move (.tmp 7)) 3 (some (23, false)) ?_
            refine Tk.W 26 (some 77) (.indexAddr 25 (.tmp 75) (.tmp 76)) 0 (some (23, false)) ?_
            refine Tk.W 27 (some 78) (.fieldAddr 32 (.tmp 77) 0) 0 (some (23, false)) ?_
            refine Tk.W 28 (some 79) (.load 2 (.tmp 78)) 2 (some (23, false)) ?_
            refine Tk.W 29 (some 80) (.move (.tmp 6)) 25 (some (23, false)) ?_
            refine Tk.W 30 (some 81) (.move (.tmp 7)) 3 (some (23, false)) ?_
            refine Tk.W 31 (some 82) (.binOp .sub 3 (.tmp 81) (.const (.int .i64 1)) 3) 3 (some (23, false)) ?_
            refine Tk.W 32 (some 83) (.indexAddr 25 (.tmp 80) (.tmp 82)) 0 (some (23, false)) ?_
            refine Tk.W 33 (some 84) (.fieldAddr 32 (.tmp 83) 0) 0 (some (23, false)) ?_
            refine Tk.W 34 (some 85) (.load 2 (.tmp 84)) 2 (some (23, false)) ?_
            refine Tk.W 35 (some 86) (.binOp .eql 2 (.tmp 79) (.tmp 85) 2) 4 (some (23, false)) ?_
            refine Tk.W 36 (some 87) (.move (.tmp 86)) 4 (some (23, false)) ?_
            refine Tk.N 37 (some 88) (.move (.tmp 6)) 25 (some (36, true)) ?_
            refine Tk.N 38 (some 89) (.move (.tmp 7)) 3 (some (36, true)) ?_
            refine Tk.N 39 (some 90) (.indexAddr 25 (.tmp 88) (.tmp 89)) 0 (some (36, true)) ?_
            refine Tk.N 40 (some 91) (.fieldAddr 32 (.tmp 90) 1) 0 (some (36, true)) ?_
            refine Tk.N 41 (some 92) (.load 2 (.tmp 91)) 2 (some (36, true)) ?_
            refine Tk.N 42 (some 93) (.move (.tmp 6)) 25 (some (36, true)) ?_
            refine Tk.N 43 (some 94) (.move (.tmp 7)) 3 (some (36, true)) ?_
            refine Tk.N 44 (some 95) (.binOp .sub 3 (.tmp 94) (.const (.int .i64 1)) 3) 3 (some (36, true)) ?_
            refine Tk.N 45 (some 96) (.indexAddr 25 (.tmp 93) (.tmp 95)) 0 (some (36, true)) ?_
            refine Tk.N 46 (some 97) (.fieldAddr 32 (.tmp 96) 1) 0 (some (36, true)) ?_
            refine Tk.N 47 (some 98) (.load 2 (.tmp 97)) 2 (some (36, true)) ?_
            refine Tk.N 48 (some 99) (.binOp .leq 2 (.tmp 92) (.tmp 98) 2) 4 (some (36, true)) ?_
            refine Tk.W 49 (some 100) (.pick (.tmp 87) (.tmp 99) (.const (.bool false))) 4 (some (23, false)) ?_
            refine Tk.W 50 (some 101) (.pick (.tmp 74) (.const (.bool true)) (.tmp 100)) 4 (some (10, true)) ?_
            refine Tk.W 51 (some 102) (.pick (.tmp 61) (.tmp 101) (.const (.bool false))) 4 (some (7, false)) ?_
            refine Tk.W 52 (some 103) (.pick (.tmp 58) (.const (.bool true)) (.tmp 102)) 4 none ?_
            refine wpAnyH_done (by kernel_rfl) ?_ _
            refine NoPanic.normal ?_
            have LW3 := hHeld.2.2
            clear hHeld LW
            go_wp2
            go_roundw
            case rel => exact ⟨i + 1, by omega, by go_num, LW3⟩
            case measure => simp [intOf]; omega
      · have hi2 : ¬ (i : Int) < nm := by omega
        go_wp2
        go_ret
        exact ⟨rfl, LW.BB⟩
  · go_enter Try.func3, Try.ntmps3
    go_wp2_with fail
    refine (great a0 len0 cap0 hl _).mono ?_
    rintro e w ⟨rfl, rfl⟩
    go_wp2
    go_ret
    exact ⟨rfl, Below.refl _ _⟩

/-! The row. -/
set_option maxRecDepth 100000 in
theorem lifted (os : Os) (started : os.Started) (H : Type) (enc : TypeId × Value → H) :
    ReturnsInHanded {} Try.checked os 3 .any (Rows.fnMergedSpec.pre6 enc Try.prog Try.f3 Rows.fnMergedRow.domain false) (Rows.fnMergedSpec.post enc Try.prog Try.f3 false true false false) := by
  refine returnsInHanded_of_change (C := Try.checked) own started (by kernel_rfl) Try.func3
    (ChangeSpec.witness6 (enc := enc) (C := Try.checked) false ⟨#[], #[.slice none 0 0], []⟩ 8 (by kernel_rfl) (by kernel_rfl) (by kernel_rfl) (by kernel_rfl)) ?_
  intro W base args ds gs before hval0 hW hcnd _
  have hval : ∀ (j : Nat) t v, Try.f3.params[j]? = some t → args[j]? = some v → Value.okWide Try.prog W .any base t v := hval0
  have hW' := hW
  obtain ⟨p, q, hA0, hV, rfl, hfz, hnd⟩ := hW
  have hA : DataW.TrodAll enc Try.prog W 0 (fun _ => true) true Try.f3.params.toList args.toList ds p := hA0
  rw [Try.params3] at hA hval
  obtain ⟨v0, vs0, d0, ds0, p0, q0, hargs, rfl, rfl, h0, r0⟩ := trodAll_cons hA
  obtain ⟨rfl, rfl, rfl⟩ := trodAll_nil r0
  obtain rfl : args = #[v0] := by cases args; simp_all
  obtain ⟨rfl, rfl⟩ := trodVars_none hV
  obtain ⟨a0, len0, cap0, rfl⟩ := okWide_slice Try.underlying22 (hval 0 22 v0 rfl rfl)
  have k0 := h0
  have lt0 : ∀ x ∈ p0, x.block < W.heap.size := by obtain ⟨m, hm⟩ := k0; exact DataW.trod_lt m _ _ _ hm
  obtain ⟨z0, w0⟩ : ∃ zs, IsRow .u8 W a0 len0 cap0 zs := by
    obtain ⟨fuel, hf⟩ := h0
    rcases open_ints Try.underlying22 Try.underlying5 (by kernel_rfl) hf with ⟨hcs, _⟩ | ⟨x, l, c, zs, hcs, _, hl, hm, hz, _, hcell, hwz⟩
    · simp [Value.cells] at hcs
      obtain ⟨rfl, rfl, rfl⟩ := hcs
      exact ⟨[], .inl ⟨rfl, rfl, rfl, rfl⟩⟩
    · simp [Value.cells] at hcs
      obtain ⟨rfl, rfl, rfl⟩ := hcs
      exact ⟨zs, .inr ⟨_, rfl, hl, hm, by simpa using hz, hcell, hwz⟩⟩
  clear hA0 hval0
  refine (walk a0 len0 cap0 z0 W w0).mono fun e W' ⟨he, bel⟩ => ?_
  subst he
  exact ⟨_, rfl, _, _, _, [], _, [], hW', trodAll_mk1 (shut_bool Try.underlying4 _), (trodAll_cons_mk (Below.trod laidOut (by kernel_rfl) (of_decide_eq_true (by kernel_rfl)) k0 bel lt0) trodAll_mk0), rfl, bel.frame _, fun h => by cases h⟩

theorem over : Rows.fnMergedRow.holds Try.pinned (OpenSpec.ofChange Rows.fnMergedSpec) :=
  OpenClaim.holds_of_wide 3 Try.f3 rfl rfl rfl rfl rfl rfl rfl ⟨rfl, rfl, rfl, rfl, rfl⟩ rfl rfl rfl rfl rfl (by kernel_rfl) Try.func3 (by kernel_rfl)
    (of_decide_eq_true (by kernel_rfl)) (by unfold Func.isWrapper; first | (rw [if_pos (by decide +kernel)]; kernel_rfl) | (rw [if_neg (by decide +kernel)]; exact ⟨rfl, rfl⟩))
    (fun os started H enc _ => lifted os started H enc)

end Go.Proofs.Ytdjeffjjijkhbaa.fnMerged

namespace Go.Proofs.Ytdjeffjjijkhbaa
/-- The given statement. -/
theorem fnMerged_holds : Rows.FnMergedSaid := fnMerged.over
#print axioms fnMerged_holds
end Go.Proofs.Ytdjeffjjijkhbaa
