/-
  FnValid: for every code of bytes handed in, impl and spec answer alike on the world and the turn that are drawn; a turn that is refused leaves the world as it was, and whoever is up behind a right one lies within what those that were up in its middle span, but for Err; the call returns true, and nothing that was there ahead of it is written.
-/
import Derived.Test.YtloicicgcdfgnaaGreatRows
import Derived.WalkKit
import Derived.ProofKit
import Derived.OpenShut
import Derived.ShutString
import Derived.ChangeOld
import Derived.Below
import Derived.Test.YtloicicgcdfgnaaGreatValAll
import Derived.Test.YtloicicgcdfgnaaGreatTk
namespace Go.Proofs.YtloicicgcdfgnaaGreat.fnValid
open Go.ChangeShapes Go.WideShapes Go.ChangeAt Go.RowKit
open Go.ChangeMaps (open_string shut_string)
set_option linter.unusedVariables false
set_option linter.unusedSimpArgs false

theorem own : ownKnob Tryz.prog.godebug = none := by kernel_rfl
theorem laidOut : laidOutB Tryz.prog = true := by kernel_rfl

/-- WHAT THE WALK IS TOLD OF A SLICE OF INTEGERS THAT CAME IN: it is nil; or it leads to a row of 'cap' cells, the numbers 'zs' (the first 'len' are its elements, the rest its spare room), each fitting its kind. -/
def IsRow (k : IntKind) (w : World) (a : Option Addr) (len cap : Nat) (zs : List Int) : Prop :=
  (a = none ∧ len = 0 ∧ cap = 0 ∧ zs = []) ∨
  ∃ x, a = some x ∧ len ≤ cap ∧ cap ≤ maxLen ∧ zs.length = cap ∧ (∀ i, i < zs.length → w.cell? (x.add i) = some (.int k (zs.getD i 0))) ∧ ∀ n ∈ zs, (Lit.int k n).wf = true

theorem code_of {w : World} {a : Option Addr} {len cap : Nat} {zs : List Int} (h : IsRow .u8 w a len cap zs) (hl : len ≤ 4096) : Dr.Code w w.heap.size a len := by
  refine ⟨hl, ?_⟩
  rcases h with ⟨_, h, _, _⟩ | ⟨x, rfl, h1, h2, h3, h4, h5⟩
  · exact .inl h
  · by_cases h0 : len = 0
    · exact .inl h0
    · obtain ⟨b, off, spot⟩ := x
      have hc := h4 0 (by omega)
      have hs : spot = none := by simpa [Addr.add] using World.cell?_spot hc
      subst hs
      have hb := World.block_lt_of_cell? _ _ hc
      refine .inr ⟨b, off, rfl, by simpa [Addr.add] using hb, fun k hk => ⟨zs.getD k 0, ?_, ?_⟩⟩
      · have hk4 := h4 k (by omega)
        by_cases hk0 : k = 0
        · subst hk0; simpa [Addr.add] using hk4
        · simpa [Addr.add, hk0] using hk4
      · have e : zs.getD k 0 = zs[k]'(by omega) := by simp [List.getD, show k < zs.length by omega]
        refine bounds_u8 (h5 _ ?_)
        rw [e]
        exact List.getElem_mem _

theorem small (a : Option Addr) (len cap : Nat) (h : len ≤ 4096) (w : World) : Calls Tryz.prog 6 #[.slice a len cap] w fun e w' => e = .returned (.bool false) ∧ w' = w := by
  have h' : ¬ (4096 : Int) < len := by omega
  go_enter Tryz.func6, Tryz.ntmps6
  go_wp2
  go_ret
  exact ⟨rfl, rfl⟩

theorem great (a : Option Addr) (len cap : Nat) (h : ¬ len ≤ 4096) (w : World) : Calls Tryz.prog 6 #[.slice a len cap] w fun e w' => e = .returned (.bool true) ∧ w' = w := by
  have h' : (4096 : Int) < len := by omega
  go_enter Tryz.func6, Tryz.ntmps6
  go_wp2
  go_ret
  exact ⟨rfl, rfl⟩

/-! The walk. -/
set_option maxHeartbeats 20000000 in
set_option maxRecDepth 100000 in
theorem walk (a0 : Option Addr) (len0 cap0 : Nat) (z0 : List Int) (w : World) (w0 : IsRow .u8 w a0 len0 cap0 z0) :
    Calls Tryz.prog 4 #[.slice a0 len0 cap0] w fun e w' => e = .returned (.bool true) ∧ Below w.heap.size w w' := by
  by_cases hl : len0 ≤ 4096
  · have code := code_of w0 hl
    clear w0
    go_enter Tryz.func4, Tryz.ntmps4
    go_wp2_with fail
    refine (small a0 len0 cap0 hl _).mono ?_
    rintro e w ⟨rfl, rfl⟩
    go_wp2_with fail
    refine (L6.drawTurned w.heap.size a0 len0 cap0 w (Nat.le_refl _) code).mono ?_
    rintro e w2 ⟨⟨n, l, d, r, q, s, t, aK, k, cK, aO, m, cO, aD, j, cD, aE, nE, cE, aL, cL, aF, cF, aR, cR, rfl, hA⟩, b2⟩
    obtain ⟨b, off, ks, os, ds, es, ls, fs, rs, rfl, VT⟩ := Lw.Vt.make (n := n) (l := l) (d := d) (r := r) (q := q) (s := s) (t := t) (cK := cK) (cO := cO) (cD := cD) (cE := cE) (cL := cL) (cF := cF) (cR := cR) 31 37 hA
    clear hA code
    have BB : Below w.heap.size w ((w2.alloc (.cells #[.int .i64 n, .int .i64 l, .int .i64 d, .int .i64 r, .int .i64 q, .int .i64 s, .slice (some ⟨b, off, none⟩) k cK, .slice aO m cO, .int .i64 t] 31)).alloc (.cells #[.slice aD j cD, .slice aE nE cE, .slice aL j cL, .slice aF j cF, .slice aR j cR] 37)) := (b2.alloc b2.size _).alloc (by have := b2.size; simp; omega) _
    clear b2
    go_wp2_with fail
    generalize ((w2.alloc (.cells #[.int .i64 n, .int .i64 l, .int .i64 d, .int .i64 r, .int .i64 q, .int .i64 s, .slice (some ⟨b, off, none⟩) k cK, .slice aO m cO, .int .i64 t] 31)).alloc (.cells #[.slice aD j cD, .slice aE nE cE, .slice aL j cL, .slice aF j cF, .slice aR j cR] 37)) = w3 at VT BB ⊢
    cases hw : Wl.WO n l d r q s ks k os m t with
    | false =>
      refine (VT.i_none hw).mono ?_
      rintro e w4 ⟨rfl, b4⟩
      replace VT := VT.below b4
      replace BB := BB.trans (b4.mono BB.size)
      clear b4
      have hX4 := VT.R.lt (by simp)
      have hY4 := VT.T.lt (by simp)
      have cw0 := VT.R.cell 0 rfl
      have cw1 := VT.R.cell 1 rfl
      have cw2 := VT.R.cell 2 rfl
      have cw3 := VT.R.cell 3 rfl
      have cw4 := VT.R.cell 4 rfl
      have cw5 := VT.R.cell 5 rfl
      have cw6 := VT.R.cell 6 rfl
      have cw7 := VT.R.cell 7 rfl
      have cw8 := VT.R.cell 8 rfl
      have ct0 := VT.T.cell 0 rfl
      have ct1 := VT.T.cell 1 rfl
      have ct2 := VT.T.cell 2 rfl
      have ct3 := VT.T.cell 3 rfl
      have ct4 := VT.T.cell 4 rfl
      go_wp2_with fail
      clear cw0 cw1 cw2 cw3 cw4 cw5 cw6 cw7 cw8 ct0 ct1 ct2 ct3 ct4
      have b5 : Below w4.heap.size w4 (w4.alloc (.cells #[.int .i64 0, .int .i64 0, .int .i64 0, .int .i64 0, .int .i64 0, .int .i64 0, .slice none 0 0, .slice none 0 0, .int .i64 0] 31)) := (Below.refl _ w4).alloc (Nat.le_refl _) _
      replace VT := VT.below b5
      replace BB := BB.trans (b5.mono BB.size)
      clear b5
      generalize (w4.alloc (.cells #[.int .i64 0, .int .i64 0, .int .i64 0, .int .i64 0, .int .i64 0, .int .i64 0, .slice none 0 0, .slice none 0 0, .int .i64 0] 31)) = w5 at VT BB ⊢
      refine (VT.s_none hw).mono ?_
      rintro e w6 ⟨rfl, b6⟩
      replace VT := VT.below b6
      replace BB := BB.trans (b6.mono BB.size)
      go_wp2_with fail
      have b7 : Below w6.heap.size w6 (w6.alloc (.cells #[.int .i64 0, .int .i64 0, .int .i64 0, .int .i64 0, .int .i64 0, .int .i64 0, .slice none 0 0, .slice none 0 0, .int .i64 0] 31)) := (Below.refl _ w6).alloc (Nat.le_refl _) _
      replace VT := VT.below b7
      replace BB := BB.trans (b7.mono BB.size)
      clear b7 b6
      generalize (w6.alloc (.cells #[.int .i64 0, .int .i64 0, .int .i64 0, .int .i64 0, .int .i64 0, .int .i64 0, .slice none 0 0, .slice none 0 0, .int .i64 0] 31)) = w6 at VT BB ⊢
      have bd := Below.refl w6.heap.size w6
      have vtd := VT.below (Below.refl _ _).drew
      have bbd := BB.trans ((Below.refl _ w6).drew.mono BB.size)
      refine wp_region_noPanic ?_
      refine wp_region_held_drew (S := (fun w' => w'.cell? ⟨w2.heap.size, 0, none⟩ = some (.int .i64 n) ∧ w'.cell? ⟨w2.heap.size, 1, none⟩ = some (.int .i64 l) ∧ w'.cell? ⟨w2.heap.size, 2, none⟩ = some (.int .i64 d) ∧ w'.cell? ⟨w2.heap.size, 3, none⟩ = some (.int .i64 r) ∧ w'.cell? ⟨w2.heap.size, 4, none⟩ = some (.int .i64 q) ∧ w'.cell? ⟨w2.heap.size, 5, none⟩ = some (.int .i64 s) ∧ w'.cell? ⟨w2.heap.size, 6, none⟩ = some (.slice (some ⟨b, off, none⟩) k cK) ∧ w'.cell? ⟨w2.heap.size, 7, none⟩ = some (.slice aO m cO) ∧ w'.cell? ⟨w2.heap.size, 8, none⟩ = some (.int .i64 t) ∧ w'.cell? ⟨w2.heap.size + 1, 0, none⟩ = some (.slice aD j cD) ∧ w'.cell? ⟨w2.heap.size + 1, 1, none⟩ = some (.slice aE nE cE) ∧ w'.cell? ⟨w2.heap.size + 1, 2, none⟩ = some (.slice aL j cL) ∧ w'.cell? ⟨w2.heap.size + 1, 3, none⟩ = some (.slice aF j cF) ∧ w'.cell? ⟨w2.heap.size + 1, 4, none⟩ = some (.slice aR j cR) ∧ Hid (Lw.Vt w2.heap.size (w2.heap.size + 1) n l d r q s t b off k cK aO m cO aD j cD aE nE cE aL cL aF cF aR cR ks os ds es ls fs rs w' ∧ Below w.heap.size w w'))) (by kernel_rfl) ⟨vtd.R.cell 0 rfl, vtd.R.cell 1 rfl, vtd.R.cell 2 rfl, vtd.R.cell 3 rfl, vtd.R.cell 4 rfl, vtd.R.cell 5 rfl, vtd.R.cell 6 rfl, vtd.R.cell 7 rfl, vtd.R.cell 8 rfl, vtd.T.cell 0 rfl, vtd.T.cell 1 rfl, vtd.T.cell 2 rfl, vtd.T.cell 3 rfl, vtd.T.cell 4 rfl, ⟨vtd, bbd⟩⟩ (fun hHeld => ?_)
      refine Tk.W 0 (some 35) (.move (.tmp 6)) 4 none ?_
      refine Tk.W 1 (some 36) (.move (.tmp 8)) 4 none ?_
      refine Tk.W 2 (some 37) (.binOp .neq 4 (.tmp 35) (.tmp 36) 4) 4 none ?_
      refine Tk.W 3 (some 38) (.move (.tmp 37)) 4 none ?_
      refine Tk.W 4 (some 39) (.load 31 (.tmp 3)) 31 (some (3, false)) ?_
      refine Tk.W 5 (some 40) (.load 37 (.tmp 4)) 37 (some (3, false)) ?_
      refine Tk.W 7 (some 42) (.load 31 (.tmp 3)) 31 (some (3, false)) ?_
      refine Tk.W 8 (some 43) (.load 37 (.tmp 4)) 37 (some (3, false)) ?_
      refine Tk.R 6 (some 41) (.call ⟨.value (.func 18), #[.tmp 39, .tmp 40], #[31, 37]⟩) 4 (some (3, false)) (fun K hK => ?_)
      go_simp
      refine ((hHeld.2.2.2.2.2.2.2.2.2.2.2.2.2.2.out.1).i_tok).mono ?_
      rintro e vm9 ⟨rfl, b_m9⟩
      obtain ⟨vt_m9, bb_m9⟩ := hHeld.2.2.2.2.2.2.2.2.2.2.2.2.2.2.out
      have vt2_m9 := vt_m9.below b_m9
      have bb2_m9 := bb_m9.trans (b_m9.mono bb_m9.size)
      have kvm9 := Tk.kv hK (w := vm9) ⟨vt2_m9.R.cell 0 rfl, vt2_m9.R.cell 1 rfl, vt2_m9.R.cell 2 rfl, vt2_m9.R.cell 3 rfl, vt2_m9.R.cell 4 rfl, vt2_m9.R.cell 5 rfl, vt2_m9.R.cell 6 rfl, vt2_m9.R.cell 7 rfl, vt2_m9.R.cell 8 rfl, vt2_m9.T.cell 0 rfl, vt2_m9.T.cell 1 rfl, vt2_m9.T.cell 2 rfl, vt2_m9.T.cell 3 rfl, vt2_m9.T.cell 4 rfl, ⟨vt2_m9, bb2_m9⟩⟩
      try dsimp only
      refine hK.out _ _ kvm9 ?_; clear hK K hHeld; intro hHeld; try simp only [Act.put, List.setIfInBounds_toArray, List.set_cons_zero, List.set_cons_succ]
      refine Tk.R 9 (some 44) (.call ⟨.value (.func 19), #[.tmp 42, .tmp 43], #[31, 37]⟩) 4 (some (3, false)) (fun K hK => ?_)
      go_simp
      refine ((hHeld.2.2.2.2.2.2.2.2.2.2.2.2.2.2.out.1).s_tok).mono ?_
      rintro e w7 ⟨rfl, b_m10⟩
      obtain ⟨vt_m10, bb_m10⟩ := hHeld.2.2.2.2.2.2.2.2.2.2.2.2.2.2.out
      have vt2_m10 := vt_m10.below b_m10
      have bb2_m10 := bb_m10.trans (b_m10.mono bb_m10.size)
      have kvm10 := Tk.kv hK (w := w7) ⟨vt2_m10.R.cell 0 rfl, vt2_m10.R.cell 1 rfl, vt2_m10.R.cell 2 rfl, vt2_m10.R.cell 3 rfl, vt2_m10.R.cell 4 rfl, vt2_m10.R.cell 5 rfl, vt2_m10.R.cell 6 rfl, vt2_m10.R.cell 7 rfl, vt2_m10.R.cell 8 rfl, vt2_m10.T.cell 0 rfl, vt2_m10.T.cell 1 rfl, vt2_m10.T.cell 2 rfl, vt2_m10.T.cell 3 rfl, vt2_m10.T.cell 4 rfl, ⟨vt2_m10, bb2_m10⟩⟩
      try dsimp only
      refine hK.out _ _ kvm10 ?_; clear hK K hHeld; intro hHeld; try simp only [Act.put, List.setIfInBounds_toArray, List.set_cons_zero, List.set_cons_succ]
      refine Tk.W 10 (some 45) (.binOp .neq 4 (.tmp 41) (.tmp 44) 4) 4 (some (3, false)) ?_
      refine Tk.W 11 (some 46) (.pick (.tmp 38) (.const (.bool true)) (.tmp 45)) 4 none ?_
      refine wpAnyH_done (by kernel_rfl) ?_ _
      refine NoPanic.normal ?_
      clear vtd bbd VT BB bd
      obtain ⟨VT, BB⟩ := hHeld.2.2.2.2.2.2.2.2.2.2.2.2.2.2.out
      clear hHeld
      have cw0 := VT.R.cell 0 rfl
      have cw1 := VT.R.cell 1 rfl
      have cw2 := VT.R.cell 2 rfl
      have cw3 := VT.R.cell 3 rfl
      have cw4 := VT.R.cell 4 rfl
      have cw5 := VT.R.cell 5 rfl
      have cw6 := VT.R.cell 6 rfl
      have cw7 := VT.R.cell 7 rfl
      have cw8 := VT.R.cell 8 rfl
      go_wp2_with fail
      refine (VT.s_wok).mono ?_
      rintro e w7 ⟨rfl, b7⟩
      rw [hw]
      go_wp2
      go_ret
      exact ⟨rfl, BB.trans (b7.mono BB.size)⟩
    | true =>
      cases hb : Tu.RB n l d r q s ks k os m t ds es ls fs rs j j with
      | false =>
        refine (VT.i_copy hw hb).mono ?_
        rintro e w4 ⟨⟨gK, cK', gO, cO', rfl, hK, hO, hne⟩, b4⟩
        replace VT := VT.below b4
        replace BB := BB.trans (b4.mono BB.size)
        clear b4
        have hX4 := VT.R.lt (by simp)
        have hY4 := VT.T.lt (by simp)
        have cw0 := VT.R.cell 0 rfl
        have cw1 := VT.R.cell 1 rfl
        have cw2 := VT.R.cell 2 rfl
        have cw3 := VT.R.cell 3 rfl
        have cw4 := VT.R.cell 4 rfl
        have cw5 := VT.R.cell 5 rfl
        have cw6 := VT.R.cell 6 rfl
        have cw7 := VT.R.cell 7 rfl
        have cw8 := VT.R.cell 8 rfl
        have ct0 := VT.T.cell 0 rfl
        have ct1 := VT.T.cell 1 rfl
        have ct2 := VT.T.cell 2 rfl
        have ct3 := VT.T.cell 3 rfl
        have ct4 := VT.T.cell 4 rfl
        go_wp2_with fail
        clear cw0 cw1 cw2 cw3 cw4 cw5 cw6 cw7 cw8 ct0 ct1 ct2 ct3 ct4
        have b5 : Below w4.heap.size w4 (w4.alloc (.cells #[.int .i64 n, .int .i64 l, .int .i64 d, .int .i64 r, .int .i64 q, .int .i64 s, .slice (some ⟨gK, 0, none⟩) k cK', .slice (some ⟨gO, 0, none⟩) m cO', .int .i64 t] 31)) := (Below.refl _ w4).alloc (Nat.le_refl _) _
        replace VT := VT.below b5
        replace BB := BB.trans (b5.mono BB.size)
        have RX := Rm.Room.new w4 [.int .i64 n, .int .i64 l, .int .i64 d, .int .i64 r, .int .i64 q, .int .i64 s, .slice (some ⟨gK, 0, none⟩) k cK', .slice (some ⟨gO, 0, none⟩) m cO', .int .i64 t] 31
        replace hK := (Lw.has_mono hK (Nat.zero_le _)).later b5 hK.2.2.1
        replace hO := (Lw.has_mono hO (Nat.zero_le _)).later b5 hO.2.2.1
        clear b5
        generalize (w4.alloc (.cells #[.int .i64 n, .int .i64 l, .int .i64 d, .int .i64 r, .int .i64 q, .int .i64 s, .slice (some ⟨gK, 0, none⟩) k cK', .slice (some ⟨gO, 0, none⟩) m cO', .int .i64 t] 31)) = w5 at VT BB RX hK hO ⊢
        refine (VT.s_copy hw hb).mono ?_
        rintro e w6 ⟨⟨gA, cA', gB, cB', rfl, hA, hB, hne2⟩, b6⟩
        replace VT := VT.below b6
        replace BB := BB.trans (b6.mono BB.size)
        replace RX := RX.below b6
        replace hK := hK.later b6 hK.2.2.1
        replace hO := hO.later b6 hO.2.2.1
        clear hA hB hne hne2
        go_wp2_with fail
        have b7 : Below w6.heap.size w6 (w6.alloc (.cells #[.int .i64 n, .int .i64 l, .int .i64 d, .int .i64 r, .int .i64 q, .int .i64 s, .slice (some ⟨gA, 0, none⟩) k cA', .slice (some ⟨gB, 0, none⟩) m cB', .int .i64 t] 31)) := (Below.refl _ w6).alloc (Nat.le_refl _) _
        replace VT := VT.below b7
        replace BB := BB.trans (b7.mono BB.size)
        replace RX := RX.below b7
        replace hK := hK.later b7 hK.2.2.1
        replace hO := hO.later b7 hO.2.2.1
        clear b7 b6
        generalize (w6.alloc (.cells #[.int .i64 n, .int .i64 l, .int .i64 d, .int .i64 r, .int .i64 q, .int .i64 s, .slice (some ⟨gA, 0, none⟩) k cA', .slice (some ⟨gB, 0, none⟩) m cB', .int .i64 t] 31)) = w6 at VT BB RX hK hO ⊢
        have bd := Below.refl w6.heap.size w6
        have vtd := VT.below (Below.refl _ _).drew
        have bbd := BB.trans ((Below.refl _ w6).drew.mono BB.size)
        have RXd := RX.below (Below.refl _ w6).drew
        have hKd := hK.later (Below.refl _ w6).drew hK.2.2.1
        have hOd := hO.later (Below.refl _ w6).drew hO.2.2.1
        refine wp_region_noPanic ?_
        refine wp_region_held_drew (S := (fun w' => w'.cell? ⟨w2.heap.size, 0, none⟩ = some (.int .i64 n) ∧ w'.cell? ⟨w2.heap.size, 1, none⟩ = some (.int .i64 l) ∧ w'.cell? ⟨w2.heap.size, 2, none⟩ = some (.int .i64 d) ∧ w'.cell? ⟨w2.heap.size, 3, none⟩ = some (.int .i64 r) ∧ w'.cell? ⟨w2.heap.size, 4, none⟩ = some (.int .i64 q) ∧ w'.cell? ⟨w2.heap.size, 5, none⟩ = some (.int .i64 s) ∧ w'.cell? ⟨w2.heap.size, 6, none⟩ = some (.slice (some ⟨b, off, none⟩) k cK) ∧ w'.cell? ⟨w2.heap.size, 7, none⟩ = some (.slice aO m cO) ∧ w'.cell? ⟨w2.heap.size, 8, none⟩ = some (.int .i64 t) ∧ w'.cell? ⟨w2.heap.size + 1, 0, none⟩ = some (.slice aD j cD) ∧ w'.cell? ⟨w2.heap.size + 1, 1, none⟩ = some (.slice aE nE cE) ∧ w'.cell? ⟨w2.heap.size + 1, 2, none⟩ = some (.slice aL j cL) ∧ w'.cell? ⟨w2.heap.size + 1, 3, none⟩ = some (.slice aF j cF) ∧ w'.cell? ⟨w2.heap.size + 1, 4, none⟩ = some (.slice aR j cR) ∧ Hid (Lw.Vt w2.heap.size (w2.heap.size + 1) n l d r q s t b off k cK aO m cO aD j cD aE nE cE aL cL aF cF aR cR ks os ds es ls fs rs w' ∧ Below w.heap.size w w' ∧ Rm.Room w' w4.heap.size [.int .i64 n, .int .i64 l, .int .i64 d, .int .i64 r, .int .i64 q, .int .i64 s, .slice (some ⟨gK, 0, none⟩) k cK', .slice (some ⟨gO, 0, none⟩) m cO', .int .i64 t] ∧ Ow.Has w' 0 gK 0 k ks ∧ Ow.Has w' 0 gO 0 m os))) (by kernel_rfl) ⟨vtd.R.cell 0 rfl, vtd.R.cell 1 rfl, vtd.R.cell 2 rfl, vtd.R.cell 3 rfl, vtd.R.cell 4 rfl, vtd.R.cell 5 rfl, vtd.R.cell 6 rfl, vtd.R.cell 7 rfl, vtd.R.cell 8 rfl, vtd.T.cell 0 rfl, vtd.T.cell 1 rfl, vtd.T.cell 2 rfl, vtd.T.cell 3 rfl, vtd.T.cell 4 rfl, ⟨vtd, bbd, RXd, hKd, hOd⟩⟩ (fun hHeld => ?_)
        refine Tk.W 0 (some 35) (.move (.tmp 6)) 4 none ?_
        refine Tk.W 1 (some 36) (.move (.tmp 8)) 4 none ?_
        refine Tk.W 2 (some 37) (.binOp .neq 4 (.tmp 35) (.tmp 36) 4) 4 none ?_
        refine Tk.W 3 (some 38) (.move (.tmp 37)) 4 none ?_
        refine Tk.W 4 (some 39) (.load 31 (.tmp 3)) 31 (some (3, false)) ?_
        refine Tk.W 5 (some 40) (.load 37 (.tmp 4)) 37 (some (3, false)) ?_
        refine Tk.W 7 (some 42) (.load 31 (.tmp 3)) 31 (some (3, false)) ?_
        refine Tk.W 8 (some 43) (.load 37 (.tmp 4)) 37 (some (3, false)) ?_
        refine Tk.R 6 (some 41) (.call ⟨.value (.func 18), #[.tmp 39, .tmp 40], #[31, 37]⟩) 4 (some (3, false)) (fun K hK => ?_)
        go_simp
        refine ((hHeld.2.2.2.2.2.2.2.2.2.2.2.2.2.2.out.1).i_tok).mono ?_
        rintro e vm9 ⟨rfl, b_m9⟩
        obtain ⟨vt_m9, bb_m9, RX_m9, hK_m9, hO_m9⟩ := hHeld.2.2.2.2.2.2.2.2.2.2.2.2.2.2.out
        have vt2_m9 := vt_m9.below b_m9
        have bb2_m9 := bb_m9.trans (b_m9.mono bb_m9.size)
        have RX2_m9 := RX_m9.below b_m9
        have hK2_m9 := hK_m9.later b_m9 hK_m9.2.2.1
        have hO2_m9 := hO_m9.later b_m9 hO_m9.2.2.1
        have kvm9 := Tk.kv hK (w := vm9) ⟨vt2_m9.R.cell 0 rfl, vt2_m9.R.cell 1 rfl, vt2_m9.R.cell 2 rfl, vt2_m9.R.cell 3 rfl, vt2_m9.R.cell 4 rfl, vt2_m9.R.cell 5 rfl, vt2_m9.R.cell 6 rfl, vt2_m9.R.cell 7 rfl, vt2_m9.R.cell 8 rfl, vt2_m9.T.cell 0 rfl, vt2_m9.T.cell 1 rfl, vt2_m9.T.cell 2 rfl, vt2_m9.T.cell 3 rfl, vt2_m9.T.cell 4 rfl, ⟨vt2_m9, bb2_m9, RX2_m9, hK2_m9, hO2_m9⟩⟩
        try dsimp only
        refine hK.out _ _ kvm9 ?_; clear hK K hHeld; intro hHeld; try simp only [Act.put, List.setIfInBounds_toArray, List.set_cons_zero, List.set_cons_succ]
        refine Tk.R 9 (some 44) (.call ⟨.value (.func 19), #[.tmp 42, .tmp 43], #[31, 37]⟩) 4 (some (3, false)) (fun K hK => ?_)
        go_simp
        refine ((hHeld.2.2.2.2.2.2.2.2.2.2.2.2.2.2.out.1).s_tok).mono ?_
        rintro e w7 ⟨rfl, b_m10⟩
        obtain ⟨vt_m10, bb_m10, RX_m10, hK_m10, hO_m10⟩ := hHeld.2.2.2.2.2.2.2.2.2.2.2.2.2.2.out
        have vt2_m10 := vt_m10.below b_m10
        have bb2_m10 := bb_m10.trans (b_m10.mono bb_m10.size)
        have RX2_m10 := RX_m10.below b_m10
        have hK2_m10 := hK_m10.later b_m10 hK_m10.2.2.1
        have hO2_m10 := hO_m10.later b_m10 hO_m10.2.2.1
        have kvm10 := Tk.kv hK (w := w7) ⟨vt2_m10.R.cell 0 rfl, vt2_m10.R.cell 1 rfl, vt2_m10.R.cell 2 rfl, vt2_m10.R.cell 3 rfl, vt2_m10.R.cell 4 rfl, vt2_m10.R.cell 5 rfl, vt2_m10.R.cell 6 rfl, vt2_m10.R.cell 7 rfl, vt2_m10.R.cell 8 rfl, vt2_m10.T.cell 0 rfl, vt2_m10.T.cell 1 rfl, vt2_m10.T.cell 2 rfl, vt2_m10.T.cell 3 rfl, vt2_m10.T.cell 4 rfl, ⟨vt2_m10, bb2_m10, RX2_m10, hK2_m10, hO2_m10⟩⟩
        try dsimp only
        refine hK.out _ _ kvm10 ?_; clear hK K hHeld; intro hHeld; try simp only [Act.put, List.setIfInBounds_toArray, List.set_cons_zero, List.set_cons_succ]
        refine Tk.W 10 (some 45) (.binOp .neq 4 (.tmp 41) (.tmp 44) 4) 4 (some (3, false)) ?_
        refine Tk.W 11 (some 46) (.pick (.tmp 38) (.const (.bool true)) (.tmp 45)) 4 none ?_
        refine wpAnyH_done (by kernel_rfl) ?_ _
        refine NoPanic.normal ?_
        clear vtd bbd RXd hKd hOd VT BB bd RX hK hO
        obtain ⟨VT, BB, RX, hK, hO⟩ := hHeld.2.2.2.2.2.2.2.2.2.2.2.2.2.2.out
        clear hHeld
        have cw0 := VT.R.cell 0 rfl
        have cw1 := VT.R.cell 1 rfl
        have cw2 := VT.R.cell 2 rfl
        have cw3 := VT.R.cell 3 rfl
        have cw4 := VT.R.cell 4 rfl
        have cw5 := VT.R.cell 5 rfl
        have cw6 := VT.R.cell 6 rfl
        have cw7 := VT.R.cell 7 rfl
        have cw8 := VT.R.cell 8 rfl
        go_wp2_with fail
        refine (VT.s_wok).mono ?_
        rintro e w7 ⟨rfl, b7⟩
        rw [hw]
        replace VT := VT.below b7
        replace BB := BB.trans (b7.mono BB.size)
        replace RX := RX.below b7
        replace hK := hK.later b7 hK.2.2.1
        replace hO := hO.later b7 hO.2.2.1
        clear b7 cw0 cw1 cw2 cw3 cw4 cw5 cw6 cw7 cw8
        have cw0 := VT.R.cell 0 rfl
        have cw1 := VT.R.cell 1 rfl
        have cw2 := VT.R.cell 2 rfl
        have cw3 := VT.R.cell 3 rfl
        have cw4 := VT.R.cell 4 rfl
        have cw5 := VT.R.cell 5 rfl
        have cw6 := VT.R.cell 6 rfl
        have cw7 := VT.R.cell 7 rfl
        have cw8 := VT.R.cell 8 rfl
        have cx0 := RX.cell 0 rfl
        have cx1 := RX.cell 1 rfl
        have cx2 := RX.cell 2 rfl
        have cx3 := RX.cell 3 rfl
        have cx4 := RX.cell 4 rfl
        have cx5 := RX.cell 5 rfl
        have cx6 := RX.cell 6 rfl
        have cx7 := RX.cell 7 rfl
        have cx8 := RX.cell 8 rfl
        go_wp2_with fail
        refine (Wl.likeWorld n l d r q s t _ _ _ _ k _ m _ _ _ ks os _ hK.row VT.K hO.row VT.O (by have := VT.k17; omega) (by have := VT.m17; omega)).mono ?_
        rintro e w8 ⟨rfl, b8⟩
        go_wp2
        go_ret
        exact ⟨rfl, BB.trans (b8.mono BB.size)⟩
      | true =>
        have hb2 := hb
        unfold Tu.RB at hb2
        rw [Bool.and_eq_true] at hb2
        obtain ⟨hto, hwo2⟩ := hb2
        obtain ⟨hW, eF, eR, h1, h2, h3⟩ := Tu.to_facts hto
        obtain ⟨en, em, k0, hOs⟩ := Tu.wo_more hW
        obtain ⟨⟨d0, d1⟩, ⟨e0, e1⟩, k16⟩ := Tu.wo_bounds hW
        have ⟨zD, hDs⟩ := Tu.r1_facts h1
        have ⟨zE, hE⟩ := Tu.rs_facts h2
        have t9 := Tu.wo_liars hW
        obtain rfl : k = m := em.symm
        obtain rfl : (k : Int) = n := en.symm
        obtain rfl : k = j := eF.symm
        obtain rfl : k = nE := by rw [← VT.E.1]; exact zE.symm
        have hkz := VT.K.1
        have hoz := VT.O.1
        obtain ⟨vT, ⟨v1, v2, v3, v4⟩, vA, vL⟩ := Lw.valid_all hto hkz hoz
        have hbo : Hid (∀ i, i < k → -1000000000000000 ≤ Ls.el os i ∧ Ls.el os i ≤ 1000000000000000) := hOs
        have hbd : Hid (∀ i, i < k → -1000000 ≤ Ls.el ds i ∧ Ls.el ds i ≤ 1000000) := fun i hi => by have := hDs i hi; omega
        have HWO : Hid (Wl.WO (k : Int) l d r q s (Tu.TK (k : Int) l d r q s ks k os k t ds es ls fs rs k k) k (Tu.TF (k : Int) l d r q s ks k os k t ds es ls fs rs k k) k (t + 1) = true) := hwo2
        have HOL : Hid (Wl.OL (k : Int) l d r q s (Tu.TK (k : Int) l d r q s ks k os k t ds es ls fs rs k k) k (Tu.TF (k : Int) l d r q s ks k os k t ds es ls fs rs k k) k (t + 1) = Wl.OB (Tu.TK (k : Int) l d r q s ks k os k t ds es ls fs rs k k) k (Tu.TF (k : Int) l d r q s ks k os k t ds es ls fs rs k k)) := Wl.ol_b hwo2
        have HUL : Hid (Wl.UL (k : Int) l d r q s (Tu.TK (k : Int) l d r q s ks k os k t ds es ls fs rs k k) k (Tu.TF (k : Int) l d r q s ks k os k t ds es ls fs rs k k) k (t + 1) = Wl.up (Tu.TK (k : Int) l d r q s ks k os k t ds es ls fs rs k k) k) := by unfold Hid Wl.UL; rw [hwo2]; rfl
        obtain ⟨KK, EK⟩ : ∃ x, (Tu.TK (k : Int) l d r q s ks k os k t ds es ls fs rs k k) = x := ⟨_, rfl⟩
        obtain ⟨OO, EO⟩ : ∃ x, (Tu.TF (k : Int) l d r q s ks k os k t ds es ls fs rs k k) = x := ⟨_, rfl⟩
        rw [EK, EO] at vA HWO HOL HUL
        rw [EK] at vL
        have HEK : Hid (_ = KK) := EK
        have HEO : Hid (_ = OO) := EO
        clear EK EO
        have HFK : Hid (∀ i, i < k → Ls.el (Tu.FK ks fs) i = if Bo.eb fs i = true then 1 else Ls.el ks i) := fun i hi => Lw.fk_at ks fs i (by omega)
        obtain ⟨FF, EF⟩ : ∃ x, Tu.FK ks fs = x := ⟨_, rfl⟩
        rw [EF] at vT v1 v2 v3 v4 vA vL HFK
        clear EF
        have HVT : Hid (Hu.HT (Lw.MD FF os ds k) (Lw.MD FF os ds k).length = true) := vT
        have HVA : Hid _ := vA
        have HVL : Hid _ := vL
        have HV4 : Hid (_ ∧ _ ∧ _ ∧ _) := ⟨v1, v2, v3, v4⟩
        clear vT v1 v2 v3 v4 vA vL
        clear hW h1 h2 h3 hOs hDs zD zE hE hto hwo2 hkz hoz eF eR en em t9 hw
        refine (VT.i_right hb).mono ?_
        rintro e w4 ⟨⟨gK, cK', gO, cO', rfl, hK, hO, hne⟩, b4⟩
        replace VT := VT.below b4
        replace BB := BB.trans (b4.mono BB.size)
        clear b4
        have hX4 := VT.R.lt (by simp)
        have hY4 := VT.T.lt (by simp)
        have cw0 := VT.R.cell 0 rfl
        have cw1 := VT.R.cell 1 rfl
        have cw2 := VT.R.cell 2 rfl
        have cw3 := VT.R.cell 3 rfl
        have cw4 := VT.R.cell 4 rfl
        have cw5 := VT.R.cell 5 rfl
        have cw6 := VT.R.cell 6 rfl
        have cw7 := VT.R.cell 7 rfl
        have cw8 := VT.R.cell 8 rfl
        have ct0 := VT.T.cell 0 rfl
        have ct1 := VT.T.cell 1 rfl
        have ct2 := VT.T.cell 2 rfl
        have ct3 := VT.T.cell 3 rfl
        have ct4 := VT.T.cell 4 rfl
        go_wp2_with fail
        clear cw0 cw1 cw2 cw3 cw4 cw5 cw6 cw7 cw8 ct0 ct1 ct2 ct3 ct4
        have b5 : Below w4.heap.size w4 (w4.alloc (.cells #[.int .i64 (k : Int), .int .i64 l, .int .i64 d, .int .i64 r, .int .i64 q, .int .i64 s, .slice (some ⟨gK, 0, none⟩) k cK', .slice (some ⟨gO, 0, none⟩) k cO', .int .i64 (t + 1)] 31)) := (Below.refl _ w4).alloc (Nat.le_refl _) _
        replace VT := VT.below b5
        replace BB := BB.trans (b5.mono BB.size)
        rw [HEK.out] at hK
        rw [HEO.out] at hO
        have RX := Rm.Room.new w4 [.int .i64 (k : Int), .int .i64 l, .int .i64 d, .int .i64 r, .int .i64 q, .int .i64 s, .slice (some ⟨gK, 0, none⟩) k cK', .slice (some ⟨gO, 0, none⟩) k cO', .int .i64 (t + 1)] 31
        replace hK := (Lw.has_mono hK (Nat.zero_le _)).later b5 hK.2.2.1
        replace hO := (Lw.has_mono hO (Nat.zero_le _)).later b5 hO.2.2.1
        clear b5
        generalize (w4.alloc (.cells #[.int .i64 (k : Int), .int .i64 l, .int .i64 d, .int .i64 r, .int .i64 q, .int .i64 s, .slice (some ⟨gK, 0, none⟩) k cK', .slice (some ⟨gO, 0, none⟩) k cO', .int .i64 (t + 1)] 31)) = w5 at VT BB RX hK hO ⊢
        refine (VT.s_right hb).mono ?_
        rintro e w6 ⟨⟨gA, cA', gB, cB', rfl, hA, hB, hne2⟩, b6⟩
        replace VT := VT.below b6
        replace BB := BB.trans (b6.mono BB.size)
        replace RX := RX.below b6
        replace hK := hK.later b6 hK.2.2.1
        replace hO := hO.later b6 hO.2.2.1
        clear hA hB hne hne2
        go_wp2_with fail
        have b7 : Below w6.heap.size w6 (w6.alloc (.cells #[.int .i64 (k : Int), .int .i64 l, .int .i64 d, .int .i64 r, .int .i64 q, .int .i64 s, .slice (some ⟨gA, 0, none⟩) k cA', .slice (some ⟨gB, 0, none⟩) k cB', .int .i64 (t + 1)] 31)) := (Below.refl _ w6).alloc (Nat.le_refl _) _
        replace VT := VT.below b7
        replace BB := BB.trans (b7.mono BB.size)
        replace RX := RX.below b7
        replace hK := hK.later b7 hK.2.2.1
        replace hO := hO.later b7 hO.2.2.1
        clear b7 b6
        generalize (w6.alloc (.cells #[.int .i64 (k : Int), .int .i64 l, .int .i64 d, .int .i64 r, .int .i64 q, .int .i64 s, .slice (some ⟨gA, 0, none⟩) k cA', .slice (some ⟨gB, 0, none⟩) k cB', .int .i64 (t + 1)] 31)) = w6 at VT BB RX hK hO ⊢
        have bd := Below.refl w6.heap.size w6
        have vtd := VT.below (Below.refl _ _).drew
        have bbd := BB.trans ((Below.refl _ w6).drew.mono BB.size)
        have RXd := RX.below (Below.refl _ w6).drew
        have hKd := hK.later (Below.refl _ w6).drew hK.2.2.1
        have hOd := hO.later (Below.refl _ w6).drew hO.2.2.1
        refine wp_region_noPanic ?_
        refine wp_region_held_drew (S := (fun w' => w'.cell? ⟨w2.heap.size, 0, none⟩ = some (.int .i64 (k : Int)) ∧ w'.cell? ⟨w2.heap.size, 1, none⟩ = some (.int .i64 l) ∧ w'.cell? ⟨w2.heap.size, 2, none⟩ = some (.int .i64 d) ∧ w'.cell? ⟨w2.heap.size, 3, none⟩ = some (.int .i64 r) ∧ w'.cell? ⟨w2.heap.size, 4, none⟩ = some (.int .i64 q) ∧ w'.cell? ⟨w2.heap.size, 5, none⟩ = some (.int .i64 s) ∧ w'.cell? ⟨w2.heap.size, 6, none⟩ = some (.slice (some ⟨b, off, none⟩) k cK) ∧ w'.cell? ⟨w2.heap.size, 7, none⟩ = some (.slice aO k cO) ∧ w'.cell? ⟨w2.heap.size, 8, none⟩ = some (.int .i64 t) ∧ w'.cell? ⟨w2.heap.size + 1, 0, none⟩ = some (.slice aD k cD) ∧ w'.cell? ⟨w2.heap.size + 1, 1, none⟩ = some (.slice aE k cE) ∧ w'.cell? ⟨w2.heap.size + 1, 2, none⟩ = some (.slice aL k cL) ∧ w'.cell? ⟨w2.heap.size + 1, 3, none⟩ = some (.slice aF k cF) ∧ w'.cell? ⟨w2.heap.size + 1, 4, none⟩ = some (.slice aR k cR) ∧ Hid (Lw.Vt w2.heap.size (w2.heap.size + 1) (k : Int) l d r q s t b off k cK aO k cO aD k cD aE k cE aL cL aF cF aR cR ks os ds es ls fs rs w' ∧ Below w.heap.size w w' ∧ Rm.Room w' w4.heap.size [.int .i64 (k : Int), .int .i64 l, .int .i64 d, .int .i64 r, .int .i64 q, .int .i64 s, .slice (some ⟨gK, 0, none⟩) k cK', .slice (some ⟨gO, 0, none⟩) k cO', .int .i64 (t + 1)] ∧ Ow.Has w' 0 gK 0 k KK ∧ Ow.Has w' 0 gO 0 k OO))) (by kernel_rfl) ⟨vtd.R.cell 0 rfl, vtd.R.cell 1 rfl, vtd.R.cell 2 rfl, vtd.R.cell 3 rfl, vtd.R.cell 4 rfl, vtd.R.cell 5 rfl, vtd.R.cell 6 rfl, vtd.R.cell 7 rfl, vtd.R.cell 8 rfl, vtd.T.cell 0 rfl, vtd.T.cell 1 rfl, vtd.T.cell 2 rfl, vtd.T.cell 3 rfl, vtd.T.cell 4 rfl, ⟨vtd, bbd, RXd, hKd, hOd⟩⟩ (fun hHeld => ?_)
        refine Tk.W 0 (some 35) (.move (.tmp 6)) 4 none ?_
        refine Tk.W 1 (some 36) (.move (.tmp 8)) 4 none ?_
        refine Tk.W 2 (some 37) (.binOp .neq 4 (.tmp 35) (.tmp 36) 4) 4 none ?_
        refine Tk.W 3 (some 38) (.move (.tmp 37)) 4 none ?_
        refine Tk.W 4 (some 39) (.load 31 (.tmp 3)) 31 (some (3, false)) ?_
        refine Tk.W 5 (some 40) (.load 37 (.tmp 4)) 37 (some (3, false)) ?_
        refine Tk.W 7 (some 42) (.load 31 (.tmp 3)) 31 (some (3, false)) ?_
        refine Tk.W 8 (some 43) (.load 37 (.tmp 4)) 37 (some (3, false)) ?_
        refine Tk.R 6 (some 41) (.call ⟨.value (.func 18), #[.tmp 39, .tmp 40], #[31, 37]⟩) 4 (some (3, false)) (fun K hK => ?_)
        go_simp
        refine ((hHeld.2.2.2.2.2.2.2.2.2.2.2.2.2.2.out.1).i_tok).mono ?_
        rintro e vm9 ⟨rfl, b_m9⟩
        obtain ⟨vt_m9, bb_m9, RX_m9, hK_m9, hO_m9⟩ := hHeld.2.2.2.2.2.2.2.2.2.2.2.2.2.2.out
        have vt2_m9 := vt_m9.below b_m9
        have bb2_m9 := bb_m9.trans (b_m9.mono bb_m9.size)
        have RX2_m9 := RX_m9.below b_m9
        have hK2_m9 := hK_m9.later b_m9 hK_m9.2.2.1
        have hO2_m9 := hO_m9.later b_m9 hO_m9.2.2.1
        have kvm9 := Tk.kv hK (w := vm9) ⟨vt2_m9.R.cell 0 rfl, vt2_m9.R.cell 1 rfl, vt2_m9.R.cell 2 rfl, vt2_m9.R.cell 3 rfl, vt2_m9.R.cell 4 rfl, vt2_m9.R.cell 5 rfl, vt2_m9.R.cell 6 rfl, vt2_m9.R.cell 7 rfl, vt2_m9.R.cell 8 rfl, vt2_m9.T.cell 0 rfl, vt2_m9.T.cell 1 rfl, vt2_m9.T.cell 2 rfl, vt2_m9.T.cell 3 rfl, vt2_m9.T.cell 4 rfl, ⟨vt2_m9, bb2_m9, RX2_m9, hK2_m9, hO2_m9⟩⟩
        try dsimp only
        refine hK.out _ _ kvm9 ?_; clear hK K hHeld; intro hHeld; try simp only [Act.put, List.setIfInBounds_toArray, List.set_cons_zero, List.set_cons_succ]
        refine Tk.R 9 (some 44) (.call ⟨.value (.func 19), #[.tmp 42, .tmp 43], #[31, 37]⟩) 4 (some (3, false)) (fun K hK => ?_)
        go_simp
        refine ((hHeld.2.2.2.2.2.2.2.2.2.2.2.2.2.2.out.1).s_tok).mono ?_
        rintro e w7 ⟨rfl, b_m10⟩
        obtain ⟨vt_m10, bb_m10, RX_m10, hK_m10, hO_m10⟩ := hHeld.2.2.2.2.2.2.2.2.2.2.2.2.2.2.out
        have vt2_m10 := vt_m10.below b_m10
        have bb2_m10 := bb_m10.trans (b_m10.mono bb_m10.size)
        have RX2_m10 := RX_m10.below b_m10
        have hK2_m10 := hK_m10.later b_m10 hK_m10.2.2.1
        have hO2_m10 := hO_m10.later b_m10 hO_m10.2.2.1
        have kvm10 := Tk.kv hK (w := w7) ⟨vt2_m10.R.cell 0 rfl, vt2_m10.R.cell 1 rfl, vt2_m10.R.cell 2 rfl, vt2_m10.R.cell 3 rfl, vt2_m10.R.cell 4 rfl, vt2_m10.R.cell 5 rfl, vt2_m10.R.cell 6 rfl, vt2_m10.R.cell 7 rfl, vt2_m10.R.cell 8 rfl, vt2_m10.T.cell 0 rfl, vt2_m10.T.cell 1 rfl, vt2_m10.T.cell 2 rfl, vt2_m10.T.cell 3 rfl, vt2_m10.T.cell 4 rfl, ⟨vt2_m10, bb2_m10, RX2_m10, hK2_m10, hO2_m10⟩⟩
        try dsimp only
        refine hK.out _ _ kvm10 ?_; clear hK K hHeld; intro hHeld; try simp only [Act.put, List.setIfInBounds_toArray, List.set_cons_zero, List.set_cons_succ]
        refine Tk.W 10 (some 45) (.binOp .neq 4 (.tmp 41) (.tmp 44) 4) 4 (some (3, false)) ?_
        refine Tk.W 11 (some 46) (.pick (.tmp 38) (.const (.bool true)) (.tmp 45)) 4 none ?_
        refine wpAnyH_done (by kernel_rfl) ?_ _
        refine NoPanic.normal ?_
        clear vtd bbd RXd hKd hOd VT BB bd RX hK hO
        obtain ⟨VT, BB, RX, hK, hO⟩ := hHeld.2.2.2.2.2.2.2.2.2.2.2.2.2.2.out
        clear hHeld
        clear HEK HEO hb
        obtain ⟨i0, hi0, hz0, hz1, hz2⟩ := info_parts Ls.info
        obtain ⟨zF, hf0 | ⟨bf, of, rfl, hBf, hcf⟩⟩ := id VT.F
        · omega
        obtain ⟨zO, ho0 | ⟨bo, oo, rfl, hBo, hco⟩⟩ := id VT.O
        · omega
        obtain ⟨zDs, hd0 | ⟨bd, od, rfl, hBd, hcd⟩⟩ := id VT.D
        · omega
        have HCF : Hid (∀ i, i < k → w7.cell? ⟨bf, of + i, none⟩ = some (.bool (Bo.eb fs i))) := hcf
        have HCO : Hid (∀ i, i < k → w7.cell? ⟨bo, oo + i, none⟩ = some (.int .i64 (Ls.el os i))) := hco
        have HCD : Hid (∀ i, i < k → w7.cell? ⟨bd, od + i, none⟩ = some (.int .i64 (Ls.el ds i))) := hcd
        clear hcf hco hcd zF zO zDs
        go_wp2_with fail
        go_loopw [9, 10] (fun gv iv wr => ∃ (jx g c : Nat), jx ≤ k ∧ gv = .slice (some ⟨g, 0, none⟩) (Lw.MD FF os ds jx).length c ∧ iv = .int .i64 jx ∧ Hid (Ow.Own wr w7.heap.size g (Lw.MD FF os ds jx).length c (Lw.MD FF os ds jx)) ∧ Below w7.heap.size w7 wr) (fun _ iv _ => k - (intOf iv).toNat)
        case atStart => exact ⟨0, _, _, Nat.zero_le _, rfl, rfl, Ow.own_made w7 _ _ rfl (Nat.le_refl _), (Below.refl _ _).alloc (Nat.le_refl _) _⟩
        case round =>
          obtain ⟨jx, g, c, hj, rfl, rfl, HO, hb⟩ := hrel
          have hsz := hb.size
          have hgB := HO.out.data.2.1
          have VR := VT.below hb
          have hml := Lw.md_le FF os ds jx
          by_cases hlt : jx < k
          · have hi : (jx : Int) < (k : Int) := by omega
            have cw0 := VR.R.cell 0 rfl
            have cw1 := VR.R.cell 1 rfl
            have cw2 := VR.R.cell 2 rfl
            have cw3 := VR.R.cell 3 rfl
            have cw4 := VR.R.cell 4 rfl
            have cw5 := VR.R.cell 5 rfl
            have cw6 := VR.R.cell 6 rfl
            have cw7 := VR.R.cell 7 rfl
            have cw8 := VR.R.cell 8 rfl
            have ct0 := VR.T.cell 0 rfl
            have ct1 := VR.T.cell 1 rfl
            have ct2 := VR.T.cell 2 rfl
            have ct3 := VR.T.cell 3 rfl
            have ct4 := VR.T.cell 4 rfl
            have ck := VR.kc jx hlt
            have hF := HFK.out jx hlt
            have cf := HCF.out jx hlt
            rw [← hb.cell (p := ⟨bf, of + jx, none⟩) hBf] at cf
            by_cases h0 : Ls.el ks jx = 0
            · cases hf : Bo.eb fs jx with
              | true =>
                have E : Hid (Lw.MD FF os ds (jx + 1) = Lw.MD FF os ds jx) := by unfold Hid; rw [Lw.MD, if_neg (by rw [hF, hf]; simp)]
                rw [h0] at ck
                rw [hf] at cf
                clear hF h0 hf
                go_wp2_with fail
                go_roundw
                case rel => exact ⟨jx + 1, g, c, by omega, by rw [E.out], by go_num, by rw [E.out]; exact HO.out, hb⟩
                case measure => simp [intOf]; omega
              | false =>
                have co := HCO.out jx hlt
                rw [← hb.cell (p := ⟨bo, oo + jx, none⟩) hBo] at co
                have cd := HCD.out jx hlt
                rw [← hb.cell (p := ⟨bd, od + jx, none⟩) hBd] at cd
                have hw9 : IntKind.i64.wrap (Ls.el os jx + Ls.el ds jx) = Ls.el os jx + Ls.el ds jx := by have := hbo.out jx hlt; have := hbd.out jx hlt; rw [IntKind.wrap_i64]; omega
                have E : Hid (Lw.MD FF os ds (jx + 1) = Lw.MD FF os ds jx ++ [Ls.el os jx + Ls.el ds jx]) := by unfold Hid; rw [Lw.MD, if_pos (by rw [hF, hf]; simpa using h0)]; rfl
                rw [h0] at ck
                rw [hf] at cf
                clear hF h0 hf
                generalize hXq : Ls.el os jx + Ls.el ds jx = XX at hw9 E
                go_wp2_with fail
                go_region_law (refine Ow.step_own_at rfl (.tmp 79) (.tmp 91) 29 rfl w7.heap.size 2 i0 (.int .i64 0) 1 8 Tryz.underlying29 hi0 hz0 hz1 hz2 rfl (by decide) _ _ _ rfl (World.ownsRow.alloc (w := wr.drew) HO.out _) ⟨wr.heap.size, 0, none⟩ 1 1 (Ow.ints [XX]) rfl rfl (Ow.one_new wr.drew XX _ _ rfl) (Ow.one _) (by unfold maxLen; omega) (by omega) (by simp; omega) ?_; intro v2 w8 hx2 hg3 hn2 ha2)
                all_goals
                  obtain ⟨g2, c2, rfl, ho2, hat⟩ := Ow.more_at (W := wr.drew) (t := g) hx2 (Ow.no_nil hn2 rfl) ha2
                  replace hg3 : World.grownBy _ w8 (some g) := hg3
                  have hb2 : Below w7.heap.size w7 w8 := (hb.drew.alloc hsz _).grown hg3 (by simp; omega) (by intro x hx; cases hx; omega)
                  clear hx2 hg3 hn2 ha2 HO hat
                  go_wp2_with fail
                  go_roundw
                  case rel => exact ⟨jx + 1, g2, c2, by omega, by rw [E.out, List.length_append]; rfl, by go_num, by rw [E.out, List.length_append]; exact ho2, hb2⟩
                  case measure => simp [intOf]; omega
            · have h9 : (Ls.el ks jx == 0) = false := by simp [h0]
              have E : Hid (Lw.MD FF os ds (jx + 1) = Lw.MD FF os ds jx) := by unfold Hid; rw [Lw.MD, if_neg (by rw [hF]; split <;> simp [h0])]
              clear hF h0
              go_wp2_with fail
              go_roundw
              case rel => exact ⟨jx + 1, g, c, by omega, by rw [E.out], by go_num, by rw [E.out]; exact HO.out, hb⟩
              case measure => simp [intOf]; omega
          · have e9 : k = jx := by omega
            subst e9
            have hi : ¬ (k : Int) < (k : Int) := by omega
            have cw0 := VR.R.cell 0 rfl
            have cw1 := VR.R.cell 1 rfl
            have cw2 := VR.R.cell 2 rfl
            have cw3 := VR.R.cell 3 rfl
            have cw4 := VR.R.cell 4 rfl
            have cw5 := VR.R.cell 5 rfl
            have cw6 := VR.R.cell 6 rfl
            have cw7 := VR.R.cell 7 rfl
            have cw8 := VR.R.cell 8 rfl
            have BR := BB.trans (hb.mono BB.size)
            have RR := RX.below (hb.mono (Nat.le_refl _))
            have kR := hK.later hb hK.2.2.1
            have oR := hO.later hb hO.2.2.1
            obtain ⟨Z, EZ⟩ : ∃ Z, Lw.MD FF os ds k = Z := ⟨_, rfl⟩
            have vT := HVT.out
            have vA := HVA.out
            have vL := HVL.out
            obtain ⟨v1, v2, v3, v4⟩ := HV4.out
            rw [EZ] at vT vA vL v1 v2 v3 v4 HO hml ⊢
            clear EZ HVT HVA HVL HV4
            have HT9 : Hid (Hu.HT Z Z.length = true) := vT
            clear vT
            go_wp2_with fail
            refine (Hu.s_Hull _ Z.length c Z _ HO.out.has.row (by omega)).mono ?_
            rintro e w9 ⟨rfl, b9⟩
            rw [HT9.out]
            simp only [Sp.pk_t]
            obtain ⟨lo, elo⟩ : ∃ x, x = Hu.mnK Z Z.length := ⟨_, rfl⟩
            obtain ⟨hh, ehi⟩ : ∃ x, x = Hu.mxK Z Z.length := ⟨_, rfl⟩
            rw [← elo] at v1 v2 vA ⊢
            rw [← ehi] at v3 v4 vA ⊢
            have HA : Hid (∀ x ∈ Wl.OB KK k OO, lo - r ≤ x ∧ x ≤ hh + r) := vA
            clear elo ehi vA cw0 cw1 cw2 cw3 cw4 cw5 cw6 cw7 cw8
            replace VR := VR.below b9
            replace RR := RR.below b9
            replace kR := kR.later b9 kR.2.2.1
            replace oR := oR.later b9 oR.2.2.1
            replace BR := BR.trans (b9.mono BR.size)
            clear b9 HO hb
            have lX := RR.lt (by simp)
            have lV := VR.R.lt (by simp)
            have cx0 := RR.cell 0 rfl
            have cx1 := RR.cell 1 rfl
            have cx2 := RR.cell 2 rfl
            have cx3 := RR.cell 3 rfl
            have cx4 := RR.cell 4 rfl
            have cx5 := RR.cell 5 rfl
            have cx6 := RR.cell 6 rfl
            have cx7 := RR.cell 7 rfl
            have cx8 := RR.cell 8 rfl
            go_wp2_with fail
            clear cx0 cx1 cx2 cx3 cx4 cx5 cx6 cx7 cx8
            have b10 : Below w9.heap.size w9 (w9.alloc (.cells #[.int .i64 lo, .int .i64 hh] 49)) := (Below.refl _ w9).alloc (Nat.le_refl _) _
            have RS := Rm.Room.new w9 [.int .i64 lo, .int .i64 hh] 49
            replace VR := VR.below b10
            replace RR := RR.below b10
            replace kR := kR.later b10 kR.2.2.1
            replace oR := oR.later b10 oR.2.2.1
            replace BR := BR.trans (b10.mono BR.size)
            clear b10
            generalize (w9.alloc (.cells #[.int .i64 lo, .int .i64 hh] 49)) = w10 at VR RR RS kR oR BR ⊢
            have hk9 : k ≤ 1048576 := by omega
            refine (Wl.i_UpIn (k : Int) l d r q s (t + 1) _ _ k cK' k cO' KK OO _ kR.row oR.row hk9 hk9).mono ?_
            rintro e w11 ⟨⟨gU, cU, rfl, oU⟩, b11⟩
            rw [HUL.out]
            clear oU
            replace VR := VR.below b11
            replace RR := RR.below b11
            replace RS := RS.below b11
            replace kR := kR.later b11 kR.2.2.1
            replace oR := oR.later b11 oR.2.2.1
            replace BR := BR.trans (b11.mono BR.size)
            clear b11
            have cx0 := RR.cell 0 rfl
            have cx1 := RR.cell 1 rfl
            have cx2 := RR.cell 2 rfl
            have cx3 := RR.cell 3 rfl
            have cx4 := RR.cell 4 rfl
            have cx5 := RR.cell 5 rfl
            have cx6 := RR.cell 6 rfl
            have cx7 := RR.cell 7 rfl
            have cx8 := RR.cell 8 rfl
            go_wp2_with fail
            clear cx0 cx1 cx2 cx3 cx4 cx5 cx6 cx7 cx8
            refine (Wl.i_OffsOf (k : Int) l d r q s (t + 1) _ _ k cK' k cO' KK OO _ kR.row oR.row hk9 hk9).mono ?_
            rintro e w12 ⟨⟨gL, ⟨cL9, rfl⟩, hL⟩, b12⟩
            rw [HOL.out] at hL ⊢
            rw [Wl.ob_len] at hL ⊢
            replace VR := VR.below b12
            replace RS := RS.below b12
            replace BR := BR.trans (b12.mono BR.size)
            clear b12 RR kR oR HUL HOL HWO
            have hul := Wl.up_len KK k
            have hol : (Wl.OB KK k OO).length = (Wl.up KK k).length := Wl.ob_len _ _ _
            generalize hUU : (Wl.up KK k).length = U at hul vL hL hol ⊢
            have HOLEN : Hid ((Wl.OB KK k OO).length = U) := hol
            clear hol hUU
            have d9 : decide (U < Z.length) = false := decide_eq_false (by omega)
            have d8 : ¬ (U : Int) < (Z.length : Int) := by omega
            have hU9 : U ≤ k := by omega
            clear hul vL
            have lS := RS.lt (by simp)
            go_wp2_with fail
            go_loopw [15] (fun iv wr => ∃ i : Nat, i ≤ U ∧ iv = .int .i64 i ∧ Below w12.heap.size w12 wr) (fun iv _ => U - (intOf iv).toNat)
            case atStart => exact ⟨0, Nat.zero_le _, rfl, Below.refl _ _⟩
            case round =>
              obtain ⟨i, hi9, rfl, hb9⟩ := hrel
              by_cases hlu : i < U
              · have hi2 : (i : Int) < (U : Int) := by omega
                have hce := (hL.later hb9 hL.2.2.1).2.2.2.1 i hlu
                rw [Nat.zero_add] at hce
                obtain ⟨x1, x2⟩ := HA.out _ (Lw.el_mem (by rw [HOLEN.out]; exact hlu))
                have VQ := VR.below (hb9.mono (Nat.le_refl _))
                have RQ := RS.below (hb9.mono (Nat.le_refl _))
                have cs0 := RQ.cell 0 rfl
                have cs1 := RQ.cell 1 rfl
                have cr := VQ.R.cell 3 rfl
                generalize Ls.el (Wl.OB KK k OO) i = E9 at hce x1 x2
                obtain ⟨P1, eP1⟩ : ∃ x, x = lo - r := ⟨_, rfl⟩
                obtain ⟨P2, eP2⟩ : ∃ x, x = hh + r := ⟨_, rfl⟩
                have q1 : IntKind.i64.wrap (lo - r) = P1 := by rw [IntKind.wrap_i64]; omega
                have q2 : IntKind.i64.wrap (hh + r) = P2 := by rw [IntKind.wrap_i64]; omega
                have d1 : decide (E9 < P1) = false := decide_eq_false (by omega)
                have d2 : decide (P2 < E9) = false := decide_eq_false (by omega)
                have HVV : Hid ((-2000000000000000 ≤ lo ∧ lo ≤ 2000000000000000) ∧ (-2000000000000000 ≤ hh ∧ hh ≤ 2000000000000000)) := ⟨⟨v1, v2⟩, v3, v4⟩
                clear x1 x2 eP1 eP2 v1 v2 v3 v4 e0 e1 d0
                go_wp2_with fail
                go_quiet (fail)
                go_wp2_with fail
                go_roundw
                case rel => exact ⟨i + 1, by omega, by go_num, below_drewN hb9 _⟩
                case measure => simp [intOf]; omega
              · have e8 : i = U := by omega
                subst e8
                have hi2 : ¬ (i : Int) < (i : Int) := by omega
                go_wp2_with fail
                go_ret
                exact ⟨rfl, BR.trans (hb9.mono BR.size)⟩
  · go_enter Tryz.func4, Tryz.ntmps4
    go_wp2_with (go_at_call 6; refine (great a0 len0 cap0 hl _).mono ?_; rintro e w' ⟨rfl, rfl⟩)
    go_ret
    exact ⟨rfl, Below.refl _ _⟩

/-! The row. -/
set_option maxRecDepth 100000 in
theorem lifted (os : Os) (started : os.Started) (H : Type) (enc : TypeId × Value → H) :
    ReturnsInHanded {} Tryz.checked os 4 .any (Rows.fnValidSpec.pre6 enc Tryz.prog Tryz.f4 Rows.fnValidRow.domain false) (Rows.fnValidSpec.post enc Tryz.prog Tryz.f4 false true false false) := by
  refine returnsInHanded_of_change (C := Tryz.checked) own started (by kernel_rfl) Tryz.func4
    (ChangeSpec.witness6 (enc := enc) (C := Tryz.checked) false ⟨#[], #[.slice none 0 0], []⟩ 8 (by kernel_rfl) (by kernel_rfl) (by kernel_rfl) (by kernel_rfl)) ?_
  intro W base args ds gs before hval0 hW hcnd _
  have hval : ∀ (j : Nat) t v, Tryz.f4.params[j]? = some t → args[j]? = some v → Value.okWide Tryz.prog W .any base t v := hval0
  have hW' := hW
  obtain ⟨p, q, hA0, hV, rfl, hfz, hnd⟩ := hW
  have hA : DataW.TrodAll enc Tryz.prog W 0 (fun _ => true) true Tryz.f4.params.toList args.toList ds p := hA0
  rw [Tryz.params4] at hA hval
  obtain ⟨v0, vs0, d0, ds0, p0, q0, hargs, rfl, rfl, h0, r0⟩ := trodAll_cons hA
  obtain ⟨rfl, rfl, rfl⟩ := trodAll_nil r0
  obtain rfl : args = #[v0] := by cases args; simp_all
  obtain ⟨rfl, rfl⟩ := trodVars_none hV
  obtain ⟨a0, len0, cap0, rfl⟩ := okWide_slice Tryz.underlying22 (hval 0 22 v0 rfl rfl)
  have k0 := h0
  have lt0 : ∀ x ∈ p0, x.block < W.heap.size := by obtain ⟨m, hm⟩ := k0; exact DataW.trod_lt m _ _ _ hm
  obtain ⟨z0, w0⟩ : ∃ zs, IsRow .u8 W a0 len0 cap0 zs := by
    obtain ⟨fuel, hf⟩ := h0
    rcases open_ints Tryz.underlying22 Tryz.underlying5 (by kernel_rfl) hf with ⟨hcs, _⟩ | ⟨x, l, c, zs, hcs, _, hl, hm, hz, _, hcell, hwz⟩
    · simp [Value.cells] at hcs
      obtain ⟨rfl, rfl, rfl⟩ := hcs
      exact ⟨[], .inl ⟨rfl, rfl, rfl, rfl⟩⟩
    · simp [Value.cells] at hcs
      obtain ⟨rfl, rfl, rfl⟩ := hcs
      exact ⟨zs, .inr ⟨_, rfl, hl, hm, by simpa using hz, hcell, hwz⟩⟩
  clear hA0 hval0
  refine (walk a0 len0 cap0 z0 W w0).mono fun e W' ⟨he, bel⟩ => ?_
  subst he
  exact ⟨_, rfl, _, _, _, [], _, [], hW', trodAll_mk1 (shut_bool Tryz.underlying4 _), (trodAll_cons_mk (Below.trod laidOut (by kernel_rfl) (of_decide_eq_true (by kernel_rfl)) k0 bel lt0) trodAll_mk0), rfl, bel.frame _, fun h => by cases h⟩

theorem over : Rows.fnValidRow.holds Tryz.pinned (OpenSpec.ofChange Rows.fnValidSpec) :=
  OpenClaim.holds_of_wide 4 Tryz.f4 rfl rfl rfl rfl rfl rfl rfl ⟨rfl, rfl, rfl, rfl, rfl⟩ rfl rfl rfl rfl rfl (by kernel_rfl) Tryz.func4 (by kernel_rfl)
    (of_decide_eq_true (by kernel_rfl)) (by unfold Func.isWrapper; first | (rw [if_pos (by decide +kernel)]; kernel_rfl) | (rw [if_neg (by decide +kernel)]; exact ⟨rfl, rfl⟩))
    (fun os started H enc _ => lifted os started H enc)

end Go.Proofs.YtloicicgcdfgnaaGreat.fnValid

namespace Go.Proofs.YtloicicgcdfgnaaGreat
/-- The given statement. -/
theorem fnValid_holds : Rows.FnValidSaid := fnValid.over
#print axioms fnValid_holds
end Go.Proofs.YtloicicgcdfgnaaGreat
