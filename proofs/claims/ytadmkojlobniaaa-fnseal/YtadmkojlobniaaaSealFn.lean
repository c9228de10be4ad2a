/-
  FnSeal: a seal is right for its round, its node and these keys alone: the law returns true at every code, and writes nothing that was there ahead of it.
-/
import Derived.Test.YtadmkojlobniaaaRows
import Derived.WalkKit
import Derived.ProofKit
import Derived.OpenShut
import Derived.ShutString
import Derived.ChangeOld
import Derived.Below
import Derived.Test.YtadmkojlobniaaaFs
import Derived.Test.YtadmkojlobniaaaTk
namespace Go.Proofs.Ytadmkojlobniaaa.fnSeal
open Go.ChangeShapes Go.WideShapes Go.ChangeAt Go.RowKit
open Go.ChangeMaps (open_string shut_string)
set_option linter.unusedVariables false
set_option linter.unusedSimpArgs false

theorem own : ownKnob Try.prog.godebug = none := by kernel_rfl
theorem laidOut : laidOutB Try.prog = true := by kernel_rfl

/-- WHAT THE WALK IS TOLD OF A SLICE OF INTEGERS THAT CAME IN: it is nil; or it leads to a row of 'cap' cells, the numbers 'zs' (the first 'len' are its elements, the rest its spare room), each fitting its kind. -/
def IsRow (k : IntKind) (w : World) (a : Option Addr) (len cap : Nat) (zs : List Int) : Prop :=
  (a = none ∧ len = 0 ∧ cap = 0 ∧ zs = []) ∨
  ∃ x, a = some x ∧ len ≤ cap ∧ cap ≤ maxLen ∧ zs.length = cap ∧ (∀ i, i < zs.length → w.cell? (x.add i) = some (.int k (zs.getD i 0))) ∧ ∀ n ∈ zs, (Lit.int k n).wf = true

open Ct (Fz seal_last seal_is seal_other own_below own_stp own_lt)
open Rm (Room)
open Sl (KO SO SR TT sl)

theorem code_of {w : World} {a : Option Addr} {len cap : Nat} {zs : List Int} (h : IsRow .u8 w a len cap zs) (hl : len ≤ 4096) : Dr.Code w w.heap.size a len := by
  refine ⟨hl, ?_⟩
  rcases h with ⟨_, h, _, _⟩ | ⟨x, rfl, h1, h2, h3, h4, h5⟩
  · exact .inl h
  · by_cases h0 : len = 0
    · exact .inl h0
    · obtain ⟨b, off, spot⟩ := x
      have hc := h4 0 (by omega)
      have hs : spot = none := by simpa [Addr.add] using World.cell?_spot hc
      subst hs
      have hb := World.block_lt_of_cell? _ _ hc
      refine .inr ⟨b, off, rfl, by simpa [Addr.add] using hb, fun k hk => ⟨zs.getD k 0, ?_, ?_⟩⟩
      · have hk4 := h4 k (by omega)
        by_cases hk0 : k = 0
        · subst hk0; simpa [Addr.add] using hk4
        · simpa [Addr.add, hk0] using hk4
      · have e : zs.getD k 0 = zs[k]'(by omega) := by simp [List.getD, show k < zs.length by omega]
        refine bounds_u8 (h5 _ ?_)
        rw [e]
        exact List.getElem_mem _

theorem small (a : Option Addr) (len cap : Nat) (h : len ≤ 4096) (w : World) : Calls Try.prog 7 #[.slice a len cap] w fun e w' => e = .returned (.bool false) ∧ w' = w := by
  have h' : ¬ (4096 : Int) < len := by omega
  go_enter Try.func7, Try.ntmps7
  go_wp2
  go_ret
  exact ⟨rfl, rfl⟩

theorem great (a : Option Addr) (len cap : Nat) (h : ¬ len ≤ 4096) (w : World) : Calls Try.prog 7 #[.slice a len cap] w fun e w' => e = .returned (.bool true) ∧ w' = w := by
  have h' : (4096 : Int) < len := by omega
  go_enter Try.func7, Try.ntmps7
  go_wp2
  go_ret
  exact ⟨rfl, rfl⟩

/-! The walk. -/
set_option maxHeartbeats 20000000 in
set_option maxRecDepth 100000 in
theorem walk (a0 : Option Addr) (len0 cap0 : Nat) (z0 : List Int) (w : World) (w0 : IsRow .u8 w a0 len0 cap0 z0) :
    Calls Try.prog 3 #[.slice a0 len0 cap0] w fun e w' => e = .returned (.bool true) ∧ Below w.heap.size w w' := by
  by_cases hl : len0 ≤ 4096
  · have code := code_of w0 hl
    clear w0
    go_enter Try.func3, Try.ntmps3
    go_wp2_with fail
    refine (small a0 len0 cap0 hl _).mono ?_
    rintro e w ⟨rfl, rfl⟩
    go_wp2_with fail
    refine (Di.roll w.heap.size a0 len0 cap0 13 w (Nat.le_refl _) code).mono ?_
    rintro e w1 ⟨rfl, st1⟩
    have z1 := st1.lt
    go_wp2_with fail
    refine (Ct.court w w.heap.size w.heap.size a0 len0 cap0 w1 st1).mono ?_
    rintro e w2 ⟨⟨N, f, p_, a_, l, m, gK, kK, gL, kL, aP, cP, rfl, zs, os, bs, MM, rk, ko, hN6, _, _⟩, st2, s2⟩
    have z2 := s2.size
    have hN1 := rk.1.1
    have HKO : Hid (KO zs N = true) := ko
    clear ko rk s2 st1
    obtain ⟨X, hX⟩ : ∃ X, X = w2.heap.size := ⟨_, rfl⟩
    have NK : Fz w a0 len0 cap0 X [.int .i64 N, .int .i64 f, .int .i64 p_, .int .i64 a_, .int .i64 l, .int .i64 m, .slice (some ⟨gK, 0, none⟩) N kK, .slice (some ⟨gL, 0, none⟩) N kL, .slice aP N cP, .slice none 0 0, .int .i64 0, .slice none 0 0, .slice none 0 0] w1.heap.size gK kK N zs (w2.alloc (.cells #[.int .i64 N, .int .i64 f, .int .i64 p_, .int .i64 a_, .int .i64 l, .int .i64 m, .slice (some ⟨gK, 0, none⟩) N kK, .slice (some ⟨gL, 0, none⟩) N kL, .slice aP N cP, .slice none 0 0, .int .i64 0, .slice none 0 0, .slice none 0 0] 36)) := ⟨st2.obj _, Room.at w2 [.int .i64 N, .int .i64 f, .int .i64 p_, .int .i64 a_, .int .i64 l, .int .i64 m, .slice (some ⟨gK, 0, none⟩) N kK, .slice (some ⟨gL, 0, none⟩) N kL, .slice aP N cP, .slice none 0 0, .int .i64 0, .slice none 0 0, .slice none 0 0] 36 X hX, own_below MM.K ((Below.refl _ _).alloc (Nat.le_refl _) _), by omega⟩
    clear MM st2
    have HX : Hid (X = w2.heap.size) := hX
    have zX := NK.C.lt (by simp)
    clear hX
    have c6 := NK.C.cell 6 rfl
    rw [HX.out] at c6
    go_wp2_with fail
    clear c6
    rw [← HX.out]
    generalize w2.alloc (.cells #[.int .i64 N, .int .i64 f, .int .i64 p_, .int .i64 a_, .int .i64 l, .int .i64 m, .slice (some ⟨gK, 0, none⟩) N kK, .slice (some ⟨gL, 0, none⟩) N kL, .slice aP N cP, .slice none 0 0, .int .i64 0, .slice none 0 0, .slice none 0 0] 36) = w3 at NK zX ⊢
    clear HX
    replace NK := NK.below (Below.refl _ _).drew
    go_cut [6, 7] from 25 (fun p6 p7 wc => ∃ (X6 j : Nat) (r : Int), p6 = .pointer (some ⟨X6, 0, none⟩) ∧ p7 = .bool true ∧ Hid (Fz w a0 len0 cap0 X [.int .i64 N, .int .i64 f, .int .i64 p_, .int .i64 a_, .int .i64 l, .int .i64 m, .slice (some ⟨gK, 0, none⟩) N kK, .slice (some ⟨gL, 0, none⟩) N kL, .slice aP N cP, .slice none 0 0, .int .i64 0, .slice none 0 0, .slice none 0 0] w1.heap.size gK kK N zs wc ∧ Room wc X6 [.int .i64 r, .int .i64 j, .int .i64 (TT zs N r j)] ∧ SO zs N r j = true ∧ 1 ≤ r ∧ r ≤ 900 ∧ w.heap.size < X6))
    case first =>
      refine wp_region_noPanic ?_
      refine wp_region_held_drew (S := (fun w' => w'.cell? ⟨X, 6, none⟩ = some (.slice (some ⟨gK, 0, none⟩) N kK))) (by kernel_rfl) (NK.C.cell 6 rfl) (fun hHeld => ?_)
      generalize w3.drew = wd at hHeld NK ⊢
      refine Tk.W 0 (some 26) (.fieldAddr 36 (.tmp 4) 1) 0 none ?_
      refine Tk.W 1 (some 27) (.load 29 (.tmp 26)) 29 none ?_
      refine Tk.W 2 (some 28) (.move (.tmp 3)) 24 none ?_
      refine Tk.W 5 (some 31) (.move (.tmp 3)) 24 none ?_
      refine Tk.W 6 (some 32) (.move (.tmp 5)) 2 none ?_
      refine wpAnyH_ready (rs := [3, 12]) (by kernel_rfl) (by simp) ?_
      refine (AllReadyH.cons (o := ⟨some 29, .call ⟨.value (.func 11), #[.tmp 28, .const (.int .i64 900)], #[24, 2]⟩, 2, _, _, none⟩) rfl (fun K hK => ?_) (AllReadyH.cons (o := ⟨some 6, .alloc 39, 0, _, _, none⟩) rfl (fun K hK => ?_) AllReadyH.nil))
      · go_simp
        refine (Di.below' w w.heap.size w.heap.size a0 len0 cap0 900 (by omega) (by omega) _ NK.st).mono ?_
        rintro e v3 ⟨⟨x, rfl, x0, x1⟩, sx, px⟩
        replace NK := NK.step sx px
        clear sx px
        have hw : IntKind.i64.wrap (1 + x) = 1 + x := by rw [IntKind.wrap_i64]; omega
        try dsimp only
        refine hK.out _ _ (NK.C.cell 6 rfl) ?_; clear hK K hHeld; intro hHeld; try simp only [Act.put, List.setIfInBounds_toArray, List.set_cons_zero, List.set_cons_succ]
        refine Tk.W 4 (some 30) (.binOp .add 2 (.const (.int .i64 1)) (.tmp 29) 2) 2 none ?_
        refine wpAnyH_ready (rs := [7, 12]) (by kernel_rfl) (by simp) ?_
        refine (AllReadyH.cons (o := ⟨some 33, .call ⟨.value (.func 11), #[.tmp 31, .tmp 32], #[24, 2]⟩, 2, _, _, none⟩) rfl (fun K hK => ?_) (AllReadyH.cons (o := ⟨some 6, .alloc 39, 0, _, _, none⟩) rfl (fun K hK => ?_) AllReadyH.nil))
        · go_simp
          refine (Di.below' w w.heap.size w.heap.size a0 len0 cap0 N (by omega) (by omega) _ NK.st).mono ?_
          rintro e v7 ⟨⟨y, rfl, y0, y1⟩, sx, px⟩
          replace NK := NK.step sx px
          clear sx px
          try dsimp only
          refine hK.out _ _ (NK.C.cell 6 rfl) ?_; clear hK K hHeld; intro hHeld; try simp only [Act.put, List.setIfInBounds_toArray, List.set_cons_zero, List.set_cons_succ]
          refine wpAnyH_ready (rs := [8, 12]) (by kernel_rfl) (by simp) ?_
          refine (AllReadyH.cons (o := ⟨some 34, .call ⟨.value (.func 10), #[.tmp 27, .tmp 30, .tmp 33], #[29, 2, 2]⟩, 40, _, _, none⟩) rfl (fun K hK => ?_) (AllReadyH.cons (o := ⟨some 6, .alloc 39, 0, _, _, none⟩) rfl (fun K hK => ?_) AllReadyH.nil))
          · obtain ⟨j, rfl⟩ := Int.eq_ofNat_of_zero_le y0
            have hso : SO zs N (1 + x) j = true := Sl.so_yes HKO.out (by omega) (by omega)
            have HSO : Hid (SO zs N (1 + x) j = true) := hso
            clear hso
            obtain ⟨t, ht⟩ : ∃ t, TT zs N (1 + x) j = t := ⟨_, rfl⟩
            have HSA : Hid (Sl.SA zs N (1 + x) j = .returned (.tuple #[sl (1 + x) j t, .bool true])) := by rw [← ht]; exact Sl.sa_eq1 HSO.out
            have HT : Hid (TT zs N (1 + x) j = t) := ht
            clear ht
            go_simp
            refine (Sl.i_SealOf _ N kK zs (1 + x) j _ NK.K.row (by omega)).mono ?_
            rintro e v8 ⟨rfl, b8⟩
            rw [HSA.out]
            replace NK := NK.below b8
            clear b8
            try dsimp only
            refine hK.out _ _ (NK.C.cell 6 rfl) ?_; clear hK K hHeld; intro hHeld; try simp only [Act.put, List.setIfInBounds_toArray, List.set_cons_zero, List.set_cons_succ]
            refine Tk.W 9 (some 25) (.move (.tmp 34)) 40 none ?_
            refine Tk.W 10 (some 35) (.extract (.tmp 25) 0) 39 none ?_
            refine Tk.W 11 (some 36) (.extract (.tmp 25) 1) 4 none ?_
            refine Tk.R 12 (some 6) (.alloc 39) 0 none (fun K hK => ?_)
            go_simp
            have b12 := (Below.refl v8.heap.size v8).alloc (Nat.le_refl _) (.cells #[.int .i64 0, .int .i64 0, .int .i64 0] 39)
            have R6 := Room.new v8 [.int .i64 0, .int .i64 0, .int .i64 0] 39
            have lX6 : gK < v8.heap.size ∧ X < v8.heap.size ∧ w.heap.size < v8.heap.size := ⟨NK.lt, NK.C.lt (by simp), by have := NK.st.lt; omega⟩
            replace NK := NK.below b12
            obtain ⟨X6, hX6⟩ : ∃ X6, X6 = v8.heap.size := ⟨_, rfl⟩
            rw [← hX6] at R6 lX6 ⊢
            generalize v8.alloc (.cells #[.int .i64 0, .int .i64 0, .int .i64 0] 39) = v12 at NK R6 ⊢
            clear hX6 b12
            try dsimp only
            refine hK.out _ _ (NK.C.cell 6 rfl) ?_; clear hK K hHeld; intro hHeld; try simp only [Act.put, List.setIfInBounds_toArray, List.set_cons_zero, List.set_cons_succ]
            refine Tk.R 13 none (.store 39 (.tmp 6) (.tmp 35)) 0 none (fun K hK => ?_)
            have d0 := R6.cell 0 rfl
            have d1 := R6.cell 1 rfl
            have d2 := R6.cell 2 rfl
            have f0 := R6.froz 0 rfl
            have f1 := R6.froz 1 rfl
            have f2 := R6.froz 2 rfl
            go_simp
            clear d0 d1 d2 f0 f1 f2
            have N2 : Fz w a0 len0 cap0 X [.int .i64 N, .int .i64 f, .int .i64 p_, .int .i64 a_, .int .i64 l, .int .i64 m, .slice (some ⟨gK, 0, none⟩) N kK, .slice (some ⟨gL, 0, none⟩) N kL, .slice aP N cP, .slice none 0 0, .int .i64 0, .slice none 0 0, .slice none 0 0] w1.heap.size gK kK N zs (((v12.setCell ⟨X6, 0, none⟩ (.int .i64 (1 + x))).setCell ⟨X6, 1, none⟩ (.int .i64 j)).setCell ⟨X6, 2, none⟩ (.int .i64 (t))) := ((NK.put (by omega) (by omega) (by omega) 0 _).put (by omega) (by omega) (by omega) 1 _).put (by omega) (by omega) (by omega) 2 _
            have Q6 : Room (((v12.setCell ⟨X6, 0, none⟩ (.int .i64 (1 + x))).setCell ⟨X6, 1, none⟩ (.int .i64 j)).setCell ⟨X6, 2, none⟩ (.int .i64 (t))) X6 [.int .i64 (1 + x), .int .i64 j, .int .i64 (t)] := Sl.over3 R6 _ _ _
            generalize (((v12.setCell ⟨X6, 0, none⟩ (.int .i64 (1 + x))).setCell ⟨X6, 1, none⟩ (.int .i64 j)).setCell ⟨X6, 2, none⟩ (.int .i64 (t))) = v13 at N2 Q6 ⊢
            clear NK R6
            try dsimp only
            refine hK.out _ _ (N2.C.cell 6 rfl) ?_; clear hK K hHeld; intro hHeld; try simp only [Act.put, List.setIfInBounds_toArray, List.set_cons_zero, List.set_cons_succ]
            refine Tk.W 14 (some 7) (.assign (.tmp 36)) 4 none ?_
            refine wpAnyH_done (by kernel_rfl) ?_ _
            refine NoPanic.normal ?_
            clear hHeld
            go_wp2_with fail
            go_meet
            case rel => exact ⟨X6, j, 1 + x, rfl, rfl, N2, (by rw [HT.out]; exact Q6), HSO.out, by omega, by omega, by omega⟩
          · go_simp
            have b12 := (Below.refl v7.heap.size v7).alloc (Nat.le_refl _) (.cells #[.int .i64 0, .int .i64 0, .int .i64 0] 39)
            have R6 := Room.new v7 [.int .i64 0, .int .i64 0, .int .i64 0] 39
            have lX6 : gK < v7.heap.size ∧ X < v7.heap.size ∧ w.heap.size < v7.heap.size := ⟨NK.lt, NK.C.lt (by simp), by have := NK.st.lt; omega⟩
            replace NK := NK.below b12
            obtain ⟨X6, hX6⟩ : ∃ X6, X6 = v7.heap.size := ⟨_, rfl⟩
            rw [← hX6] at R6 lX6 ⊢
            generalize v7.alloc (.cells #[.int .i64 0, .int .i64 0, .int .i64 0] 39) = v12 at NK R6 ⊢
            clear hX6 b12
            try dsimp only
            refine hK.out _ _ (NK.C.cell 6 rfl) ?_; clear hK K hHeld; intro hHeld; try simp only [Act.put, List.setIfInBounds_toArray, List.set_cons_zero, List.set_cons_succ]
            refine Tk.R 8 (some 34) (.call ⟨.value (.func 10), #[.tmp 27, .tmp 30, .tmp 33], #[29, 2, 2]⟩) 40 none (fun K hK => ?_)
            obtain ⟨j, rfl⟩ := Int.eq_ofNat_of_zero_le y0
            have hso : SO zs N (1 + x) j = true := Sl.so_yes HKO.out (by omega) (by omega)
            have HSO : Hid (SO zs N (1 + x) j = true) := hso
            clear hso
            obtain ⟨t, ht⟩ : ∃ t, TT zs N (1 + x) j = t := ⟨_, rfl⟩
            have HSA : Hid (Sl.SA zs N (1 + x) j = .returned (.tuple #[sl (1 + x) j t, .bool true])) := by rw [← ht]; exact Sl.sa_eq1 HSO.out
            have HT : Hid (TT zs N (1 + x) j = t) := ht
            clear ht
            go_simp
            refine (Sl.i_SealOf _ N kK zs (1 + x) j _ NK.K.row (by omega)).mono ?_
            rintro e v8 ⟨rfl, b8⟩
            rw [HSA.out]
            replace R6 := R6.below b8
            replace NK := NK.below b8
            clear b8
            try dsimp only
            refine hK.out _ _ (NK.C.cell 6 rfl) ?_; clear hK K hHeld; intro hHeld; try simp only [Act.put, List.setIfInBounds_toArray, List.set_cons_zero, List.set_cons_succ]
            refine Tk.W 9 (some 25) (.move (.tmp 34)) 40 none ?_
            refine Tk.W 10 (some 35) (.extract (.tmp 25) 0) 39 none ?_
            refine Tk.W 11 (some 36) (.extract (.tmp 25) 1) 4 none ?_
            refine Tk.R 13 none (.store 39 (.tmp 6) (.tmp 35)) 0 none (fun K hK => ?_)
            have d0 := R6.cell 0 rfl
            have d1 := R6.cell 1 rfl
            have d2 := R6.cell 2 rfl
            have f0 := R6.froz 0 rfl
            have f1 := R6.froz 1 rfl
            have f2 := R6.froz 2 rfl
            go_simp
            clear d0 d1 d2 f0 f1 f2
            have N2 : Fz w a0 len0 cap0 X [.int .i64 N, .int .i64 f, .int .i64 p_, .int .i64 a_, .int .i64 l, .int .i64 m, .slice (some ⟨gK, 0, none⟩) N kK, .slice (some ⟨gL, 0, none⟩) N kL, .slice aP N cP, .slice none 0 0, .int .i64 0, .slice none 0 0, .slice none 0 0] w1.heap.size gK kK N zs (((v8.setCell ⟨X6, 0, none⟩ (.int .i64 (1 + x))).setCell ⟨X6, 1, none⟩ (.int .i64 j)).setCell ⟨X6, 2, none⟩ (.int .i64 (t))) := ((NK.put (by omega) (by omega) (by omega) 0 _).put (by omega) (by omega) (by omega) 1 _).put (by omega) (by omega) (by omega) 2 _
            have Q6 : Room (((v8.setCell ⟨X6, 0, none⟩ (.int .i64 (1 + x))).setCell ⟨X6, 1, none⟩ (.int .i64 j)).setCell ⟨X6, 2, none⟩ (.int .i64 (t))) X6 [.int .i64 (1 + x), .int .i64 j, .int .i64 (t)] := Sl.over3 R6 _ _ _
            generalize (((v8.setCell ⟨X6, 0, none⟩ (.int .i64 (1 + x))).setCell ⟨X6, 1, none⟩ (.int .i64 j)).setCell ⟨X6, 2, none⟩ (.int .i64 (t))) = v13 at N2 Q6 ⊢
            clear NK R6
            try dsimp only
            refine hK.out _ _ (N2.C.cell 6 rfl) ?_; clear hK K hHeld; intro hHeld; try simp only [Act.put, List.setIfInBounds_toArray, List.set_cons_zero, List.set_cons_succ]
            refine Tk.W 14 (some 7) (.assign (.tmp 36)) 4 none ?_
            refine wpAnyH_done (by kernel_rfl) ?_ _
            refine NoPanic.normal ?_
            clear hHeld
            go_wp2_with fail
            go_meet
            case rel => exact ⟨X6, j, 1 + x, rfl, rfl, N2, (by rw [HT.out]; exact Q6), HSO.out, by omega, by omega, by omega⟩
        · go_simp
          have b12 := (Below.refl v3.heap.size v3).alloc (Nat.le_refl _) (.cells #[.int .i64 0, .int .i64 0, .int .i64 0] 39)
          have R6 := Room.new v3 [.int .i64 0, .int .i64 0, .int .i64 0] 39
          have lX6 : gK < v3.heap.size ∧ X < v3.heap.size ∧ w.heap.size < v3.heap.size := ⟨NK.lt, NK.C.lt (by simp), by have := NK.st.lt; omega⟩
          replace NK := NK.below b12
          obtain ⟨X6, hX6⟩ : ∃ X6, X6 = v3.heap.size := ⟨_, rfl⟩
          rw [← hX6] at R6 lX6 ⊢
          generalize v3.alloc (.cells #[.int .i64 0, .int .i64 0, .int .i64 0] 39) = v12 at NK R6 ⊢
          clear hX6 b12
          try dsimp only
          refine hK.out _ _ (NK.C.cell 6 rfl) ?_; clear hK K hHeld; intro hHeld; try simp only [Act.put, List.setIfInBounds_toArray, List.set_cons_zero, List.set_cons_succ]
          refine Tk.R 7 (some 33) (.call ⟨.value (.func 11), #[.tmp 31, .tmp 32], #[24, 2]⟩) 2 none (fun K hK => ?_)
          go_simp
          refine (Di.below' w w.heap.size w.heap.size a0 len0 cap0 N (by omega) (by omega) _ NK.st).mono ?_
          rintro e v7 ⟨⟨y, rfl, y0, y1⟩, sx, px⟩
          replace R6 := Dg.room_step R6 px (by omega)
          replace NK := NK.step sx px
          clear sx px
          try dsimp only
          refine hK.out _ _ (NK.C.cell 6 rfl) ?_; clear hK K hHeld; intro hHeld; try simp only [Act.put, List.setIfInBounds_toArray, List.set_cons_zero, List.set_cons_succ]
          refine Tk.R 8 (some 34) (.call ⟨.value (.func 10), #[.tmp 27, .tmp 30, .tmp 33], #[29, 2, 2]⟩) 40 none (fun K hK => ?_)
          obtain ⟨j, rfl⟩ := Int.eq_ofNat_of_zero_le y0
          have hso : SO zs N (1 + x) j = true := Sl.so_yes HKO.out (by omega) (by omega)
          have HSO : Hid (SO zs N (1 + x) j = true) := hso
          clear hso
          obtain ⟨t, ht⟩ : ∃ t, TT zs N (1 + x) j = t := ⟨_, rfl⟩
          have HSA : Hid (Sl.SA zs N (1 + x) j = .returned (.tuple #[sl (1 + x) j t, .bool true])) := by rw [← ht]; exact Sl.sa_eq1 HSO.out
          have HT : Hid (TT zs N (1 + x) j = t) := ht
          clear ht
          go_simp
          refine (Sl.i_SealOf _ N kK zs (1 + x) j _ NK.K.row (by omega)).mono ?_
          rintro e v8 ⟨rfl, b8⟩
          rw [HSA.out]
          replace R6 := R6.below b8
          replace NK := NK.below b8
          clear b8
          try dsimp only
          refine hK.out _ _ (NK.C.cell 6 rfl) ?_; clear hK K hHeld; intro hHeld; try simp only [Act.put, List.setIfInBounds_toArray, List.set_cons_zero, List.set_cons_succ]
          refine Tk.W 9 (some 25) (.move (.tmp 34)) 40 none ?_
          refine Tk.W 10 (some 35) (.extract (.tmp 25) 0) 39 none ?_
          refine Tk.W 11 (some 36) (.extract (.tmp 25) 1) 4 none ?_
          refine Tk.R 13 none (.store 39 (.tmp 6) (.tmp 35)) 0 none (fun K hK => ?_)
          have d0 := R6.cell 0 rfl
          have d1 := R6.cell 1 rfl
          have d2 := R6.cell 2 rfl
          have f0 := R6.froz 0 rfl
          have f1 := R6.froz 1 rfl
          have f2 := R6.froz 2 rfl
          go_simp
          clear d0 d1 d2 f0 f1 f2
          have N2 : Fz w a0 len0 cap0 X [.int .i64 N, .int .i64 f, .int .i64 p_, .int .i64 a_, .int .i64 l, .int .i64 m, .slice (some ⟨gK, 0, none⟩) N kK, .slice (some ⟨gL, 0, none⟩) N kL, .slice aP N cP, .slice none 0 0, .int .i64 0, .slice none 0 0, .slice none 0 0] w1.heap.size gK kK N zs (((v8.setCell ⟨X6, 0, none⟩ (.int .i64 (1 + x))).setCell ⟨X6, 1, none⟩ (.int .i64 j)).setCell ⟨X6, 2, none⟩ (.int .i64 (t))) := ((NK.put (by omega) (by omega) (by omega) 0 _).put (by omega) (by omega) (by omega) 1 _).put (by omega) (by omega) (by omega) 2 _
          have Q6 : Room (((v8.setCell ⟨X6, 0, none⟩ (.int .i64 (1 + x))).setCell ⟨X6, 1, none⟩ (.int .i64 j)).setCell ⟨X6, 2, none⟩ (.int .i64 (t))) X6 [.int .i64 (1 + x), .int .i64 j, .int .i64 (t)] := Sl.over3 R6 _ _ _
          generalize (((v8.setCell ⟨X6, 0, none⟩ (.int .i64 (1 + x))).setCell ⟨X6, 1, none⟩ (.int .i64 j)).setCell ⟨X6, 2, none⟩ (.int .i64 (t))) = v13 at N2 Q6 ⊢
          clear NK R6
          try dsimp only
          refine hK.out _ _ (N2.C.cell 6 rfl) ?_; clear hK K hHeld; intro hHeld; try simp only [Act.put, List.setIfInBounds_toArray, List.set_cons_zero, List.set_cons_succ]
          refine Tk.W 14 (some 7) (.assign (.tmp 36)) 4 none ?_
          refine wpAnyH_done (by kernel_rfl) ?_ _
          refine NoPanic.normal ?_
          clear hHeld
          go_wp2_with fail
          go_meet
          case rel => exact ⟨X6, j, 1 + x, rfl, rfl, N2, (by rw [HT.out]; exact Q6), HSO.out, by omega, by omega, by omega⟩
      · go_simp
        have b12 := (Below.refl wd.heap.size wd).alloc (Nat.le_refl _) (.cells #[.int .i64 0, .int .i64 0, .int .i64 0] 39)
        have R6 := Room.new wd [.int .i64 0, .int .i64 0, .int .i64 0] 39
        have lX6 : gK < wd.heap.size ∧ X < wd.heap.size ∧ w.heap.size < wd.heap.size := ⟨NK.lt, NK.C.lt (by simp), by have := NK.st.lt; omega⟩
        replace NK := NK.below b12
        obtain ⟨X6, hX6⟩ : ∃ X6, X6 = wd.heap.size := ⟨_, rfl⟩
        rw [← hX6] at R6 lX6 ⊢
        generalize wd.alloc (.cells #[.int .i64 0, .int .i64 0, .int .i64 0] 39) = v12 at NK R6 ⊢
        clear hX6 b12
        try dsimp only
        refine hK.out _ _ (NK.C.cell 6 rfl) ?_; clear hK K hHeld; intro hHeld; try simp only [Act.put, List.setIfInBounds_toArray, List.set_cons_zero, List.set_cons_succ]
        refine Tk.R 3 (some 29) (.call ⟨.value (.func 11), #[.tmp 28, .const (.int .i64 900)], #[24, 2]⟩) 2 none (fun K hK => ?_)
        go_simp
        refine (Di.below' w w.heap.size w.heap.size a0 len0 cap0 900 (by omega) (by omega) _ NK.st).mono ?_
        rintro e v3 ⟨⟨x, rfl, x0, x1⟩, sx, px⟩
        replace R6 := Dg.room_step R6 px (by omega)
        replace NK := NK.step sx px
        clear sx px
        have hw : IntKind.i64.wrap (1 + x) = 1 + x := by rw [IntKind.wrap_i64]; omega
        try dsimp only
        refine hK.out _ _ (NK.C.cell 6 rfl) ?_; clear hK K hHeld; intro hHeld; try simp only [Act.put, List.setIfInBounds_toArray, List.set_cons_zero, List.set_cons_succ]
        refine Tk.W 4 (some 30) (.binOp .add 2 (.const (.int .i64 1)) (.tmp 29) 2) 2 none ?_
        refine Tk.R 7 (some 33) (.call ⟨.value (.func 11), #[.tmp 31, .tmp 32], #[24, 2]⟩) 2 none (fun K hK => ?_)
        go_simp
        refine (Di.below' w w.heap.size w.heap.size a0 len0 cap0 N (by omega) (by omega) _ NK.st).mono ?_
        rintro e v7 ⟨⟨y, rfl, y0, y1⟩, sx, px⟩
        replace R6 := Dg.room_step R6 px (by omega)
        replace NK := NK.step sx px
        clear sx px
        try dsimp only
        refine hK.out _ _ (NK.C.cell 6 rfl) ?_; clear hK K hHeld; intro hHeld; try simp only [Act.put, List.setIfInBounds_toArray, List.set_cons_zero, List.set_cons_succ]
        refine Tk.R 8 (some 34) (.call ⟨.value (.func 10), #[.tmp 27, .tmp 30, .tmp 33], #[29, 2, 2]⟩) 40 none (fun K hK => ?_)
        obtain ⟨j, rfl⟩ := Int.eq_ofNat_of_zero_le y0
        have hso : SO zs N (1 + x) j = true := Sl.so_yes HKO.out (by omega) (by omega)
        have HSO : Hid (SO zs N (1 + x) j = true) := hso
        clear hso
        obtain ⟨t, ht⟩ : ∃ t, TT zs N (1 + x) j = t := ⟨_, rfl⟩
        have HSA : Hid (Sl.SA zs N (1 + x) j = .returned (.tuple #[sl (1 + x) j t, .bool true])) := by rw [← ht]; exact Sl.sa_eq1 HSO.out
        have HT : Hid (TT zs N (1 + x) j = t) := ht
        clear ht
        go_simp
        refine (Sl.i_SealOf _ N kK zs (1 + x) j _ NK.K.row (by omega)).mono ?_
        rintro e v8 ⟨rfl, b8⟩
        rw [HSA.out]
        replace R6 := R6.below b8
        replace NK := NK.below b8
        clear b8
        try dsimp only
        refine hK.out _ _ (NK.C.cell 6 rfl) ?_; clear hK K hHeld; intro hHeld; try simp only [Act.put, List.setIfInBounds_toArray, List.set_cons_zero, List.set_cons_succ]
        refine Tk.W 9 (some 25) (.move (.tmp 34)) 40 none ?_
        refine Tk.W 10 (some 35) (.extract (.tmp 25) 0) 39 none ?_
        refine Tk.W 11 (some 36) (.extract (.tmp 25) 1) 4 none ?_
        refine Tk.R 13 none (.store 39 (.tmp 6) (.tmp 35)) 0 none (fun K hK => ?_)
        have d0 := R6.cell 0 rfl
        have d1 := R6.cell 1 rfl
        have d2 := R6.cell 2 rfl
        have f0 := R6.froz 0 rfl
        have f1 := R6.froz 1 rfl
        have f2 := R6.froz 2 rfl
        go_simp
        clear d0 d1 d2 f0 f1 f2
        have N2 : Fz w a0 len0 cap0 X [.int .i64 N, .int .i64 f, .int .i64 p_, .int .i64 a_, .int .i64 l, .int .i64 m, .slice (some ⟨gK, 0, none⟩) N kK, .slice (some ⟨gL, 0, none⟩) N kL, .slice aP N cP, .slice none 0 0, .int .i64 0, .slice none 0 0, .slice none 0 0] w1.heap.size gK kK N zs (((v8.setCell ⟨X6, 0, none⟩ (.int .i64 (1 + x))).setCell ⟨X6, 1, none⟩ (.int .i64 j)).setCell ⟨X6, 2, none⟩ (.int .i64 (t))) := ((NK.put (by omega) (by omega) (by omega) 0 _).put (by omega) (by omega) (by omega) 1 _).put (by omega) (by omega) (by omega) 2 _
        have Q6 : Room (((v8.setCell ⟨X6, 0, none⟩ (.int .i64 (1 + x))).setCell ⟨X6, 1, none⟩ (.int .i64 j)).setCell ⟨X6, 2, none⟩ (.int .i64 (t))) X6 [.int .i64 (1 + x), .int .i64 j, .int .i64 (t)] := Sl.over3 R6 _ _ _
        generalize (((v8.setCell ⟨X6, 0, none⟩ (.int .i64 (1 + x))).setCell ⟨X6, 1, none⟩ (.int .i64 j)).setCell ⟨X6, 2, none⟩ (.int .i64 (t))) = v13 at N2 Q6 ⊢
        clear NK R6
        try dsimp only
        refine hK.out _ _ (N2.C.cell 6 rfl) ?_; clear hK K hHeld; intro hHeld; try simp only [Act.put, List.setIfInBounds_toArray, List.set_cons_zero, List.set_cons_succ]
        refine Tk.W 14 (some 7) (.assign (.tmp 36)) 4 none ?_
        refine wpAnyH_done (by kernel_rfl) ?_ _
        refine NoPanic.normal ?_
        clear hHeld
        go_wp2_with fail
        go_meet
        case rel => exact ⟨X6, j, 1 + x, rfl, rfl, N2, (by rw [HT.out]; exact Q6), HSO.out, by omega, by omega, by omega⟩
    case rest =>
      clear NK
      obtain ⟨X6, j, r, rfl, rfl, HH⟩ := hcut
      obtain ⟨NK, R6, hso, r0, r1, l66⟩ := HH.out
      clear HH
      have HSO : Hid (SO zs N r j = true) := hso
      clear hso
      have tb := Sl.tt_bd zs N r j
      have HSA : Hid (Sl.SA zs N r j = .returned (.tuple #[sl r j (TT zs N r j), .bool true])) := Sl.sa_eq1 HSO.out
      have HSN : Hid (Sl.SA zs N r N = .returned (.tuple #[sl 0 0 0, .bool false])) := Sl.sa_eq0 seal_last
      have HSR : Hid (SR zs N r j (TT zs N r j) = true) := seal_is HSO.out
      have HSX : ∀ t, Hid (t ≠ TT zs N r j → SR zs N r j t = false) := fun t ht => seal_other HSO.out ht
      generalize TT zs N r j = t at R6 tb HSA HSR HSX ⊢
      have c6 := NK.C.cell 6 rfl
      have d0 := R6.cell 0 rfl
      have d1 := R6.cell 1 rfl
      have d2 := R6.cell 2 rfl
      go_wp2_with fail
      clear c6 d0 d1 d2
      refine (Sl.s_SealOf _ N kK zs r j _ NK.K.row (by omega)).mono ?_
      rintro e y7 ⟨rfl, b⟩
      rw [HSA.out]
      replace NK := NK.below b
      replace R6 := R6.below b
      clear b
      have b := (Below.refl y7.heap.size y7).alloc (Nat.le_refl _) (.cells #[.int .i64 r, .int .i64 j, .int .i64 t] 39)
      have R8 := Room.new y7 [.int .i64 r, .int .i64 j, .int .i64 t] 39
      replace NK := NK.below b
      replace R6 := R6.below b
      clear b
      have l6 := R6.lt (by simp)
      have l8 := R8.lt (by simp)
      have c6 := NK.C.cell 6 rfl
      have d0 := R6.cell 0 rfl
      have d1 := R6.cell 1 rfl
      have d2 := R6.cell 2 rfl
      go_wp2_with fail
      clear c6 d0 d1 d2
      refine (Sl.i_SealOf _ N kK zs r N _ NK.K.row (by omega)).mono ?_
      rintro e y8 ⟨rfl, b⟩
      rw [HSN.out]
      replace NK := NK.below b
      replace R6 := R6.below b
      replace R8 := R8.below b
      clear b
      have b := (Below.refl y8.heap.size y8).alloc (Nat.le_refl _) (.cells #[.int .i64 0, .int .i64 0, .int .i64 0] 39)
      replace NK := NK.below b
      replace R6 := R6.below b
      replace R8 := R8.below b
      clear b
      have c6 := NK.C.cell 6 rfl
      have d0 := R6.cell 0 rfl
      have d1 := R6.cell 1 rfl
      have d2 := R6.cell 2 rfl
      have e0 := R8.cell 0 rfl
      have e1 := R8.cell 1 rfl
      have e2 := R8.cell 2 rfl
      go_wp2_with fail
      clear c6 d0 d1 d2 e0 e1 e2
      refine (Sl.i_SealRight _ N kK zs r j t _ NK.K.row (by omega)).mono ?_
      rintro e y9 ⟨rfl, b⟩
      rw [HSR.out]
      clear R8 l8
      replace NK := NK.below b
      replace R6 := R6.below b
      clear b
      have c6 := NK.C.cell 6 rfl
      go_wp2_with fail
      clear c6
      refine (Sl.i_KeysOk _ N kK zs _ NK.K.row (by omega)).mono ?_
      rintro e y10 ⟨rfl, b⟩
      rw [HKO.out]
      replace NK := NK.below b
      replace R6 := R6.below b
      clear b
      have d0 := R6.cell 0 rfl
      have d1 := R6.cell 1 rfl
      have d2 := R6.cell 2 rfl
      obtain ⟨X12, hX12⟩ : ∃ q, q = y10.heap.size := ⟨_, rfl⟩
      have R12 := Room.at y10 [.int .i64 r, .int .i64 j, .int .i64 t] 39 X12 hX12
      have b := (Below.refl y10.heap.size y10).alloc (Nat.le_refl _) (.cells #[.int .i64 r, .int .i64 j, .int .i64 t] 39)
      have l12 : X < X12 ∧ gK < X12 ∧ X6 < X12 ∧ w.heap.size < X12 := by have := NK.C.lt (by simp); have := NK.lt; have := R6.lt (by simp); have := NK.st.lt; omega
      replace NK := NK.below b
      replace R6 := R6.below b
      clear b
      have HX : Hid (X12 = y10.heap.size) := hX12
      clear hX12
      go_wp2_with fail
      clear d0 d1 d2
      rw [← HX.out]
      generalize y10.alloc (.cells #[.int .i64 r, .int .i64 j, .int .i64 t] 39) = y11 at NK R6 R12 ⊢
      clear HX
      go_cut [12] from 80 (fun p12 wc => p12 = .pointer (some ⟨X12, 0, none⟩) ∧ ∃ u : Int, 0 ≤ u ∧ u ≤ 999 ∧ Hid (Fz w a0 len0 cap0 X [.int .i64 N, .int .i64 f, .int .i64 p_, .int .i64 a_, .int .i64 l, .int .i64 m, .slice (some ⟨gK, 0, none⟩) N kK, .slice (some ⟨gL, 0, none⟩) N kL, .slice aP N cP, .slice none 0 0, .int .i64 0, .slice none 0 0, .slice none 0 0] w1.heap.size gK kK N zs wc ∧ Room wc X6 [.int .i64 r, .int .i64 j, .int .i64 t] ∧ Room wc X12 [.int .i64 r, .int .i64 j, .int .i64 (t + 1 + u)]))
      case first =>
        have hw1 : IntKind.i64.wrap (t + 1) = t + 1 := by rw [IntKind.wrap_i64]; omega
        refine wp_region_noPanic ?_
        refine wp_region_held_drew (S := (fun w' => True)) (by kernel_rfl) trivial (fun hHeld => ?_)
        replace NK := NK.below (Below.refl _ _).drew
        replace R6 := R6.drew
        replace R12 := R12.drew
        generalize y11.drew = we at hHeld NK R6 R12 ⊢
        refine Tk.W 0 (some 80) (.fieldAddr 39 (.tmp 12) 2) 0 none ?_
        refine Tk.W 3 (some 83) (.move (.tmp 3)) 24 none ?_
        refine wpAnyH_ready (rs := [1, 4]) (by kernel_rfl) (by simp) ?_
        refine (AllReadyH.cons (o := ⟨some 81, .load 2 (.tmp 80), 2, _, _, none⟩) rfl (fun K hK => ?_) (AllReadyH.cons (o := ⟨some 84, .call ⟨.value (.func 11), #[.tmp 83, .const (.int .i64 1000)], #[24, 2]⟩, 2, _, _, none⟩) rfl (fun K hK => ?_) AllReadyH.nil))
        · have d2 := R12.cell 2 rfl
          go_simp
          clear d2
          try dsimp only
          refine hK.out _ _ trivial ?_; clear hK K hHeld; intro hHeld; try simp only [Act.put, List.setIfInBounds_toArray, List.set_cons_zero, List.set_cons_succ]
          refine Tk.W 2 (some 82) (.binOp .add 2 (.tmp 81) (.const (.int .i64 1)) 2) 2 none ?_
          refine Tk.R 4 (some 84) (.call ⟨.value (.func 11), #[.tmp 83, .const (.int .i64 1000)], #[24, 2]⟩) 2 none (fun K hK => ?_)
          go_simp
          refine (Di.below' w w.heap.size w.heap.size a0 len0 cap0 1000 (by omega) (by omega) _ NK.st).mono ?_
          rintro e v4 ⟨⟨u, rfl, u0, u1⟩, sx, px⟩
          replace R6 := Dg.room_step R6 px (by omega)
          replace R12 := Dg.room_step R12 px (by omega)
          replace NK := NK.step sx px
          clear sx px
          have hw2 : IntKind.i64.wrap (t + 1 + u) = t + 1 + u := by rw [IntKind.wrap_i64]; omega
          try dsimp only
          refine hK.out _ _ trivial ?_; clear hK K hHeld; intro hHeld; try simp only [Act.put, List.setIfInBounds_toArray, List.set_cons_zero, List.set_cons_succ]
          refine Tk.W 5 (some 85) (.binOp .add 2 (.tmp 82) (.tmp 84) 2) 2 none ?_
          refine Tk.W 6 (some 86) (.fieldAddr 39 (.tmp 12) 2) 0 none ?_
          refine Tk.R 7 none (.store 2 (.tmp 86) (.tmp 85)) 0 none (fun K hK => ?_)
          have d2 := R12.cell 2 rfl
          have f2 := R12.froz 2 rfl
          go_simp
          clear d2 f2 hw2
          have N2 : Fz w a0 len0 cap0 X [.int .i64 N, .int .i64 f, .int .i64 p_, .int .i64 a_, .int .i64 l, .int .i64 m, .slice (some ⟨gK, 0, none⟩) N kK, .slice (some ⟨gL, 0, none⟩) N kL, .slice aP N cP, .slice none 0 0, .int .i64 0, .slice none 0 0, .slice none 0 0] w1.heap.size gK kK N zs (v4.setCell ⟨X12, 2, none⟩ (.int .i64 (t + 1 + u))) := NK.put (by omega) (by omega) (by omega) 2 _
          have Q6 : Room (v4.setCell ⟨X12, 2, none⟩ (.int .i64 (t + 1 + u))) X6 [.int .i64 r, .int .i64 j, .int .i64 t] := R6.setOther (by omega) 2 _
          have Q12 : Room (v4.setCell ⟨X12, 2, none⟩ (.int .i64 (t + 1 + u))) X12 [.int .i64 r, .int .i64 j, .int .i64 (t + 1 + u)] := R12.set 2 _
          generalize (v4.setCell ⟨X12, 2, none⟩ (.int .i64 (t + 1 + u))) = v7 at N2 Q6 Q12 ⊢
          clear NK R6 R12
          try dsimp only
          refine hK.out _ _ trivial ?_; clear hK K hHeld; intro hHeld; try simp only [Act.put, List.setIfInBounds_toArray, List.set_cons_zero, List.set_cons_succ]
          refine wpAnyH_done (by kernel_rfl) ?_ _
          refine NoPanic.normal ?_
          clear hHeld
          go_wp2_with fail
          go_meet
          case rel => exact ⟨rfl, u, u0, by omega, N2, Q6, Q12⟩
        · go_simp
          refine (Di.below' w w.heap.size w.heap.size a0 len0 cap0 1000 (by omega) (by omega) _ NK.st).mono ?_
          rintro e v4 ⟨⟨u, rfl, u0, u1⟩, sx, px⟩
          replace R6 := Dg.room_step R6 px (by omega)
          replace R12 := Dg.room_step R12 px (by omega)
          replace NK := NK.step sx px
          clear sx px
          have hw2 : IntKind.i64.wrap (t + 1 + u) = t + 1 + u := by rw [IntKind.wrap_i64]; omega
          try dsimp only
          refine hK.out _ _ trivial ?_; clear hK K hHeld; intro hHeld; try simp only [Act.put, List.setIfInBounds_toArray, List.set_cons_zero, List.set_cons_succ]
          refine Tk.R 1 (some 81) (.load 2 (.tmp 80)) 2 none (fun K hK => ?_)
          have d2 := R12.cell 2 rfl
          go_simp
          clear d2
          try dsimp only
          refine hK.out _ _ trivial ?_; clear hK K hHeld; intro hHeld; try simp only [Act.put, List.setIfInBounds_toArray, List.set_cons_zero, List.set_cons_succ]
          refine Tk.W 2 (some 82) (.binOp .add 2 (.tmp 81) (.const (.int .i64 1)) 2) 2 none ?_
          refine Tk.W 5 (some 85) (.binOp .add 2 (.tmp 82) (.tmp 84) 2) 2 none ?_
          refine Tk.W 6 (some 86) (.fieldAddr 39 (.tmp 12) 2) 0 none ?_
          refine Tk.R 7 none (.store 2 (.tmp 86) (.tmp 85)) 0 none (fun K hK => ?_)
          have d2 := R12.cell 2 rfl
          have f2 := R12.froz 2 rfl
          go_simp
          clear d2 f2 hw2
          have N2 : Fz w a0 len0 cap0 X [.int .i64 N, .int .i64 f, .int .i64 p_, .int .i64 a_, .int .i64 l, .int .i64 m, .slice (some ⟨gK, 0, none⟩) N kK, .slice (some ⟨gL, 0, none⟩) N kL, .slice aP N cP, .slice none 0 0, .int .i64 0, .slice none 0 0, .slice none 0 0] w1.heap.size gK kK N zs (v4.setCell ⟨X12, 2, none⟩ (.int .i64 (t + 1 + u))) := NK.put (by omega) (by omega) (by omega) 2 _
          have Q6 : Room (v4.setCell ⟨X12, 2, none⟩ (.int .i64 (t + 1 + u))) X6 [.int .i64 r, .int .i64 j, .int .i64 t] := R6.setOther (by omega) 2 _
          have Q12 : Room (v4.setCell ⟨X12, 2, none⟩ (.int .i64 (t + 1 + u))) X12 [.int .i64 r, .int .i64 j, .int .i64 (t + 1 + u)] := R12.set 2 _
          generalize (v4.setCell ⟨X12, 2, none⟩ (.int .i64 (t + 1 + u))) = v7 at N2 Q6 Q12 ⊢
          clear NK R6 R12
          try dsimp only
          refine hK.out _ _ trivial ?_; clear hK K hHeld; intro hHeld; try simp only [Act.put, List.setIfInBounds_toArray, List.set_cons_zero, List.set_cons_succ]
          refine wpAnyH_done (by kernel_rfl) ?_ _
          refine NoPanic.normal ?_
          clear hHeld
          go_wp2_with fail
          go_meet
          case rel => exact ⟨rfl, u, u0, by omega, N2, Q6, Q12⟩
      case rest =>
        clear NK R6 R12
        obtain ⟨rfl, u, u0, u1, HH⟩ := hcut
        obtain ⟨NK, R6, R12⟩ := HH.out
        clear HH
        generalize wc = y12 at NK R6 R12 ⊢
        have d0 := R6.cell 0 rfl
        have d1 := R6.cell 1 rfl
        have d2 := R6.cell 2 rfl
        obtain ⟨X13, hX13⟩ : ∃ q, q = y12.heap.size := ⟨_, rfl⟩
        have R13 := Room.at y12 [.int .i64 (r + 1), .int .i64 j, .int .i64 t] 39 X13 hX13
        have b := (Below.refl y12.heap.size y12).alloc (Nat.le_refl _) (.cells #[.int .i64 (r + 1), .int .i64 j, .int .i64 t] 39)
        replace NK := NK.below b
        replace R6 := R6.below b
        replace R12 := R12.below b
        clear b
        have HX : Hid (X13 = y12.heap.size) := hX13
        clear hX13
        go_wp2_with fail
        rw [← HX.out]
        generalize y12.alloc (.cells #[.int .i64 (r + 1), .int .i64 j, .int .i64 t] 39) = y13 at NK R6 R12 R13 ⊢
        clear HX d0 d1 d2 R6
        refine (Kd.drawSealRight w.heap.size a0 len0 cap0 y13 NK.out.size (code.later NK.out)).mono ?_
        rintro e y14 ⟨⟨g2, k2, n2, r2, j2, t2, rfl, hn2, zs2, o2⟩, b⟩
        replace NK := NK.below b
        replace R12 := R12.below b
        replace R13 := R13.below b
        clear b code
        obtain ⟨X15, hX15⟩ : ∃ q, q = y14.heap.size := ⟨_, rfl⟩
        have R15 := Room.at y14 [.int .i64 r2, .int .i64 j2, .int .i64 t2] 39 X15 hX15
        have b := (Below.refl y14.heap.size y14).alloc (Nat.le_refl _) (.cells #[.int .i64 r2, .int .i64 j2, .int .i64 t2] 39)
        replace NK := NK.below b
        replace R12 := R12.below b
        replace R13 := R13.below b
        replace o2 := own_below o2 b
        clear b
        have HX : Hid (X15 = y14.heap.size) := hX15
        clear hX15
        go_wp2_with fail
        rw [← HX.out]
        generalize y14.alloc (.cells #[.int .i64 r2, .int .i64 j2, .int .i64 t2] 39) = y15 at NK R12 R13 R15 o2 ⊢
        clear HX
        have HS1 : Hid (SR zs N r j (t + 1 + u) = false) := (HSX (t + 1 + u)).out (by omega)
        obtain ⟨B1, hB1⟩ : ∃ q, SR zs N (r + 1) j t = q := ⟨_, rfl⟩
        have HB1 : Hid (SR zs N (r + 1) j t = B1) := hB1
        clear hB1
        obtain ⟨B2, hB2⟩ : ∃ q, SR zs2 n2 r2 j2 t2 = q := ⟨_, rfl⟩
        have HB2 : Hid (SR zs2 n2 r2 j2 t2 = B2) := hB2
        clear hB2
        replace NK := NK.below (Below.refl _ _).drew
        replace R12 := R12.drew
        replace R13 := R13.drew
        replace R15 := R15.drew
        replace o2 := own_below o2 (Below.refl _ _).drew
        refine wp_region_noPanic ?_
        refine wp_region_held_drew (S := (fun w' => w'.cell? ⟨X, 6, none⟩ = some (.slice (some ⟨gK, 0, none⟩) N kK) ∧ w'.cell? ⟨X12, 0, none⟩ = some (.int .i64 r) ∧ w'.cell? ⟨X12, 1, none⟩ = some (.int .i64 j) ∧ w'.cell? ⟨X12, 2, none⟩ = some (.int .i64 (t + 1 + u)) ∧ w'.cell? ⟨X13, 0, none⟩ = some (.int .i64 (r + 1)) ∧ w'.cell? ⟨X13, 1, none⟩ = some (.int .i64 j) ∧ w'.cell? ⟨X13, 2, none⟩ = some (.int .i64 t) ∧ w'.cell? ⟨X15, 0, none⟩ = some (.int .i64 r2) ∧ w'.cell? ⟨X15, 1, none⟩ = some (.int .i64 j2) ∧ w'.cell? ⟨X15, 2, none⟩ = some (.int .i64 t2))) (by kernel_rfl) ⟨NK.C.cell 6 rfl, R12.cell 0 rfl, R12.cell 1 rfl, R12.cell 2 rfl, R13.cell 0 rfl, R13.cell 1 rfl, R13.cell 2 rfl, R15.cell 0 rfl, R15.cell 1 rfl, R15.cell 2 rfl⟩ (fun hHeld => ?_)
        generalize y15.drew = wf at hHeld NK R12 R13 R15 o2 ⊢
        refine Tk.W 0 (some 97) (.fieldAddr 36 (.tmp 4) 1) 0 none ?_
        refine Tk.W 1 (some 98) (.load 29 (.tmp 97)) 29 none ?_
        refine Tk.W 2 (some 99) (.load 39 (.tmp 12)) 39 none ?_
        refine Tk.R 3 (some 100) (.call ⟨.value (.func 13), #[.tmp 98, .tmp 99], #[29, 39]⟩) 4 none (fun K hK => ?_)
        go_simp
        refine (Sl.i_SealRight _ N kK zs r j (t + 1 + u) _ NK.K.row (by omega)).mono ?_
        rintro e vd4 ⟨rfl, bd4⟩
        rw [HS1.out]
        replace NK := NK.below bd4
        replace R12 := R12.below bd4
        replace R13 := R13.below bd4
        replace R15 := R15.below bd4
        replace o2 := own_below o2 bd4
        clear bd4
        try dsimp only
        refine hK.out _ _ ⟨NK.C.cell 6 rfl, R12.cell 0 rfl, R12.cell 1 rfl, R12.cell 2 rfl, R13.cell 0 rfl, R13.cell 1 rfl, R13.cell 2 rfl, R15.cell 0 rfl, R15.cell 1 rfl, R15.cell 2 rfl⟩ ?_; clear hK K hHeld; intro hHeld; try simp only [Act.put, List.setIfInBounds_toArray, List.set_cons_zero, List.set_cons_succ]
        refine Tk.W 4 (some 101) (.unOp .not 4 (.tmp 100)) 4 none ?_
        refine Tk.W 5 (some 102) (.move (.tmp 101)) 4 none ?_
        refine Tk.W 6 (some 103) (.fieldAddr 36 (.tmp 4) 1) 0 (some (5, true)) ?_
        refine Tk.W 7 (some 104) (.load 29 (.tmp 103)) 29 (some (5, true)) ?_
        refine Tk.W 8 (some 105) (.load 39 (.tmp 13)) 39 (some (5, true)) ?_
        refine Tk.W 10 (some 107) (.fieldAddr 36 (.tmp 4) 1) 0 (some (5, true)) ?_
        refine Tk.W 11 (some 108) (.load 29 (.tmp 107)) 29 (some (5, true)) ?_
        refine Tk.W 12 (some 109) (.load 39 (.tmp 13)) 39 (some (5, true)) ?_
        refine Tk.R 9 (some 106) (.call ⟨.value (.func 13), #[.tmp 104, .tmp 105], #[29, 39]⟩) 4 (some (5, true)) (fun K hK => ?_)
        go_simp
        refine (Sl.i_SealRight _ N kK zs (r + 1) j t _ NK.K.row (by omega)).mono ?_
        rintro e vd13 ⟨rfl, bd13⟩
        rw [HB1.out]
        replace NK := NK.below bd13
        replace R12 := R12.below bd13
        replace R13 := R13.below bd13
        replace R15 := R15.below bd13
        replace o2 := own_below o2 bd13
        clear bd13
        try dsimp only
        refine hK.out _ _ ⟨NK.C.cell 6 rfl, R12.cell 0 rfl, R12.cell 1 rfl, R12.cell 2 rfl, R13.cell 0 rfl, R13.cell 1 rfl, R13.cell 2 rfl, R15.cell 0 rfl, R15.cell 1 rfl, R15.cell 2 rfl⟩ ?_; clear hK K hHeld; intro hHeld; try simp only [Act.put, List.setIfInBounds_toArray, List.set_cons_zero, List.set_cons_succ]
        refine Tk.R 13 (some 110) (.call ⟨.value (.func 16), #[.tmp 108, .tmp 109], #[29, 39]⟩) 4 (some (5, true)) (fun K hK => ?_)
        go_simp
        refine (Sl.s_SealRight _ N kK zs (r + 1) j t _ NK.K.row (by omega)).mono ?_
        rintro e vd14 ⟨rfl, bd14⟩
        rw [HB1.out]
        replace NK := NK.below bd14
        replace R12 := R12.below bd14
        replace R13 := R13.below bd14
        replace R15 := R15.below bd14
        replace o2 := own_below o2 bd14
        clear bd14
        try dsimp only
        refine hK.out _ _ ⟨NK.C.cell 6 rfl, R12.cell 0 rfl, R12.cell 1 rfl, R12.cell 2 rfl, R13.cell 0 rfl, R13.cell 1 rfl, R13.cell 2 rfl, R15.cell 0 rfl, R15.cell 1 rfl, R15.cell 2 rfl⟩ ?_; clear hK K hHeld; intro hHeld; try simp only [Act.put, List.setIfInBounds_toArray, List.set_cons_zero, List.set_cons_succ]
        refine Tk.W 14 (some 111) (.binOp .eql 4 (.tmp 106) (.tmp 110) 4) 4 (some (5, true)) ?_
        refine Tk.W 15 (some 112) (.pick (.tmp 102) (.tmp 111) (.const (.bool false))) 4 none ?_
        refine Tk.W 16 (some 113) (.move (.tmp 112)) 4 none ?_
        refine Tk.W 17 (some 114) (.move (.tmp 14)) 29 (some (16, true)) ?_
        refine Tk.W 18 (some 115) (.load 39 (.tmp 15)) 39 (some (16, true)) ?_
        refine Tk.W 20 (some 117) (.move (.tmp 14)) 29 (some (16, true)) ?_
        refine Tk.W 21 (some 118) (.load 39 (.tmp 15)) 39 (some (16, true)) ?_
        refine Tk.R 19 (some 116) (.call ⟨.value (.func 13), #[.tmp 114, .tmp 115], #[29, 39]⟩) 4 (some (16, true)) (fun K hK => ?_)
        go_simp
        refine (Sl.i_SealRight _ n2 k2 zs2 r2 j2 t2 _ (Ow.Own.row (g := g2) (cap := k2) o2) (by omega)).mono ?_
        rintro e vd22 ⟨rfl, bd22⟩
        rw [HB2.out]
        replace NK := NK.below bd22
        replace R12 := R12.below bd22
        replace R13 := R13.below bd22
        replace R15 := R15.below bd22
        replace o2 := own_below o2 bd22
        clear bd22
        try dsimp only
        refine hK.out _ _ ⟨NK.C.cell 6 rfl, R12.cell 0 rfl, R12.cell 1 rfl, R12.cell 2 rfl, R13.cell 0 rfl, R13.cell 1 rfl, R13.cell 2 rfl, R15.cell 0 rfl, R15.cell 1 rfl, R15.cell 2 rfl⟩ ?_; clear hK K hHeld; intro hHeld; try simp only [Act.put, List.setIfInBounds_toArray, List.set_cons_zero, List.set_cons_succ]
        refine Tk.R 22 (some 119) (.call ⟨.value (.func 16), #[.tmp 117, .tmp 118], #[29, 39]⟩) 4 (some (16, true)) (fun K hK => ?_)
        go_simp
        refine (Sl.s_SealRight _ n2 k2 zs2 r2 j2 t2 _ (Ow.Own.row (g := g2) (cap := k2) o2) (by omega)).mono ?_
        rintro e vd23 ⟨rfl, bd23⟩
        rw [HB2.out]
        replace NK := NK.below bd23
        replace R12 := R12.below bd23
        replace R13 := R13.below bd23
        replace R15 := R15.below bd23
        replace o2 := own_below o2 bd23
        clear bd23
        try dsimp only
        refine hK.out _ _ ⟨NK.C.cell 6 rfl, R12.cell 0 rfl, R12.cell 1 rfl, R12.cell 2 rfl, R13.cell 0 rfl, R13.cell 1 rfl, R13.cell 2 rfl, R15.cell 0 rfl, R15.cell 1 rfl, R15.cell 2 rfl⟩ ?_; clear hK K hHeld; intro hHeld; try simp only [Act.put, List.setIfInBounds_toArray, List.set_cons_zero, List.set_cons_succ]
        refine Tk.W 23 (some 120) (.binOp .eql 4 (.tmp 116) (.tmp 119) 4) 4 (some (16, true)) ?_
        refine Tk.W 24 (some 121) (.pick (.tmp 113) (.tmp 120) (.const (.bool false))) 4 none ?_
        refine Tk.W 25 (some 2) (.assign (.tmp 121)) 4 none ?_
        refine wpAnyH_done (by kernel_rfl) ?_ _
        refine NoPanic.normal ?_
        clear hHeld
        go_wp2
        go_ret
        exact ⟨rfl, NK.out⟩
  · go_enter Try.func3, Try.ntmps3
    go_wp2_with fail
    refine (great a0 len0 cap0 hl _).mono ?_
    rintro e w ⟨rfl, rfl⟩
    go_wp2
    go_ret
    exact ⟨rfl, Below.refl _ _⟩

/-! The row. -/
set_option maxRecDepth 100000 in
theorem lifted (os : Os) (started : os.Started) (H : Type) (enc : TypeId × Value → H) :
    ReturnsInHanded {} Try.checked os 3 .any (Rows.fnSealSpec.pre6 enc Try.prog Try.f3 Rows.fnSealRow.domain false) (Rows.fnSealSpec.post enc Try.prog Try.f3 false true false false) := by
  refine returnsInHanded_of_change (C := Try.checked) own started (by kernel_rfl) Try.func3
    (ChangeSpec.witness6 (enc := enc) (C := Try.checked) false ⟨#[], #[.slice none 0 0], []⟩ 8 (by kernel_rfl) (by kernel_rfl) (by kernel_rfl) (by kernel_rfl)) ?_
  intro W base args ds gs before hval0 hW hcnd _
  have hval : ∀ (j : Nat) t v, Try.f3.params[j]? = some t → args[j]? = some v → Value.okWide Try.prog W .any base t v := hval0
  have hW' := hW
  obtain ⟨p, q, hA0, hV, rfl, hfz, hnd⟩ := hW
  have hA : DataW.TrodAll enc Try.prog W 0 (fun _ => true) true Try.f3.params.toList args.toList ds p := hA0
  rw [Try.params3] at hA hval
  obtain ⟨v0, vs0, d0, ds0, p0, q0, hargs, rfl, rfl, h0, r0⟩ := trodAll_cons hA
  obtain ⟨rfl, rfl, rfl⟩ := trodAll_nil r0
  obtain rfl : args = #[v0] := by cases args; simp_all
  obtain ⟨rfl, rfl⟩ := trodVars_none hV
  obtain ⟨a0, len0, cap0, rfl⟩ := okWide_slice Try.underlying22 (hval 0 22 v0 rfl rfl)
  have k0 := h0
  have lt0 : ∀ x ∈ p0, x.block < W.heap.size := by obtain ⟨m, hm⟩ := k0; exact DataW.trod_lt m _ _ _ hm
  obtain ⟨z0, w0⟩ : ∃ zs, IsRow .u8 W a0 len0 cap0 zs := by
    obtain ⟨fuel, hf⟩ := h0
    rcases open_ints Try.underlying22 Try.underlying5 (by kernel_rfl) hf with ⟨hcs, _⟩ | ⟨x, l, c, zs, hcs, _, hl, hm, hz, _, hcell, hwz⟩
    · simp [Value.cells] at hcs
      obtain ⟨rfl, rfl, rfl⟩ := hcs
      exact ⟨[], .inl ⟨rfl, rfl, rfl, rfl⟩⟩
    · simp [Value.cells] at hcs
      obtain ⟨rfl, rfl, rfl⟩ := hcs
      exact ⟨zs, .inr ⟨_, rfl, hl, hm, by simpa using hz, hcell, hwz⟩⟩
  clear hA0 hval0
  refine (walk a0 len0 cap0 z0 W w0).mono fun e W' ⟨he, bel⟩ => ?_
  subst he
  exact ⟨_, rfl, _, _, _, [], _, [], hW', trodAll_mk1 (shut_bool Try.underlying4 _), (trodAll_cons_mk (Below.trod laidOut (by kernel_rfl) (of_decide_eq_true (by kernel_rfl)) k0 bel lt0) trodAll_mk0), rfl, bel.frame _, fun h => by cases h⟩

theorem over : Rows.fnSealRow.holds Try.pinned (OpenSpec.ofChange Rows.fnSealSpec) :=
  OpenClaim.holds_of_wide 3 Try.f3 rfl rfl rfl rfl rfl rfl rfl ⟨rfl, rfl, rfl, rfl, rfl⟩ rfl rfl rfl rfl rfl (by kernel_rfl) Try.func3 (by kernel_rfl)
    (of_decide_eq_true (by kernel_rfl)) (by unfold Func.isWrapper; first | (rw [if_pos (by decide +kernel)]; kernel_rfl) | (rw [if_neg (by decide +kernel)]; exact ⟨rfl, rfl⟩))
    (fun os started H enc _ => lifted os started H enc)

end Go.Proofs.Ytadmkojlobniaaa.fnSeal

namespace Go.Proofs.Ytadmkojlobniaaa
/-- The given statement. -/
theorem fnSeal_holds : Rows.FnSealSaid := fnSeal.over
#print axioms fnSeal_holds
end Go.Proofs.Ytadmkojlobniaaa
