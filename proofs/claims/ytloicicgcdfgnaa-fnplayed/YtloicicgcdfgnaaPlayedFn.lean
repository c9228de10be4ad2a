/-
  FnPlayed: for every code of bytes handed in, a world and up to seven right turns that are rolled: played in two parts they are played in one, all of them are done, and what is there behind them is what turning one by one leads to; the call returns true, and nothing that was there ahead of it is written.
-/
import Derived.Test.YtloicicgcdfgnaaRows
import Derived.WalkKit
import Derived.ProofKit
import Derived.OpenShut
import Derived.ShutString
import Derived.ChangeOld
import Derived.Below
import Derived.Test.YtloicicgcdfgnaaPlAll
import Derived.Deep.Cut
import Derived.Test.YtloicicgcdfgnaaTk
namespace Go.Proofs.Ytloicicgcdfgnaa.fnPlayed
open Go.ChangeShapes Go.WideShapes Go.ChangeAt Go.RowKit
open Go.ChangeMaps (open_string shut_string)
set_option linter.unusedVariables false
set_option linter.unusedSimpArgs false

theorem own : ownKnob Try.prog.godebug = none := by kernel_rfl
theorem laidOut : laidOutB Try.prog = true := by kernel_rfl

/-- WHAT THE WALK IS TOLD OF A SLICE OF INTEGERS THAT CAME IN: it is nil; or it leads to a row of 'cap' cells, the numbers 'zs' (the first 'len' are its elements, the rest its spare room), each fitting its kind. -/
def IsRow (k : IntKind) (w : World) (a : Option Addr) (len cap : Nat) (zs : List Int) : Prop :=
  (a = none ∧ len = 0 ∧ cap = 0 ∧ zs = []) ∨
  ∃ x, a = some x ∧ len ≤ cap ∧ cap ≤ maxLen ∧ zs.length = cap ∧ (∀ i, i < zs.length → w.cell? (x.add i) = some (.int k (zs.getD i 0))) ∧ ∀ n ∈ zs, (Lit.int k n).wf = true

theorem code_of {w : World} {a : Option Addr} {len cap : Nat} {zs : List Int} (h : IsRow .u8 w a len cap zs) (hl : len ≤ 4096) : Dr.Code w w.heap.size a len := by
  refine ⟨hl, ?_⟩
  rcases h with ⟨_, h, _, _⟩ | ⟨x, rfl, h1, h2, h3, h4, h5⟩
  · exact .inl h
  · by_cases h0 : len = 0
    · exact .inl h0
    · obtain ⟨b, off, spot⟩ := x
      have hc := h4 0 (by omega)
      have hs : spot = none := by simpa [Addr.add] using World.cell?_spot hc
      subst hs
      have hb := World.block_lt_of_cell? _ _ hc
      refine .inr ⟨b, off, rfl, by simpa [Addr.add] using hb, fun k hk => ⟨zs.getD k 0, ?_, ?_⟩⟩
      · have hk4 := h4 k (by omega)
        by_cases hk0 : k = 0
        · subst hk0; simpa [Addr.add] using hk4
        · simpa [Addr.add, hk0] using hk4
      · have e : zs.getD k 0 = zs[k]'(by omega) := by simp [List.getD, show k < zs.length by omega]
        refine bounds_u8 (h5 _ ?_)
        rw [e]
        exact List.getElem_mem _

theorem small (a : Option Addr) (len cap : Nat) (h : len ≤ 4096) (w : World) : Calls Try.prog 12 #[.slice a len cap] w fun e w' => e = .returned (.bool false) ∧ w' = w := by
  have h' : ¬ (4096 : Int) < len := by omega
  go_enter Try.func12, Try.ntmps12
  go_wp2
  go_ret
  exact ⟨rfl, rfl⟩

theorem great (a : Option Addr) (len cap : Nat) (h : ¬ len ≤ 4096) (w : World) : Calls Try.prog 12 #[.slice a len cap] w fun e w' => e = .returned (.bool true) ∧ w' = w := by
  have h' : (4096 : Int) < len := by omega
  go_enter Try.func12, Try.ntmps12
  go_wp2
  go_ret
  exact ⟨rfl, rfl⟩

/-! The walk. -/
set_option maxHeartbeats 20000000 in
set_option maxRecDepth 100000 in
theorem walk (a0 : Option Addr) (len0 cap0 : Nat) (z0 : List Int) (w : World) (w0 : IsRow .u8 w a0 len0 cap0 z0) :
    Calls Try.prog 4 #[.slice a0 len0 cap0] w fun e w' => e = .returned (.bool true) ∧ Below w.heap.size w w' := by
  by_cases hl : len0 ≤ 4096
  · have code := code_of w0 hl
    clear w0
    go_enter Try.func4, Try.ntmps4
    go_wp2_with fail
    refine (small a0 len0 cap0 hl _).mono ?_
    rintro e w ⟨rfl, rfl⟩
    go_wp2_with fail
    refine (Di.roll w.heap.size a0 len0 cap0 5 w (Nat.le_refl _) code).mono ?_
    rintro e w1 ⟨rfl, st1⟩
    have z1 := st1.lt
    go_wp2_with fail
    refine (Lw.world w.heap.size w.heap.size a0 len0 cap0 50 (by omega) (by omega) w w1 st1).mono ?_
    rintro e w2 ⟨⟨f, d, r, s, k, gK, cK, gO, cO, rfl, ks, os, hK, hO, hne, hW⟩, st2, sp2⟩
    have z2 := sp2.size
    have qK := hK.2.1
    have uK := hK.2.2.1
    have qO := hO.2.1
    have uO := hO.2.2.1
    have NV : Lw.Nv w2.heap.size k f d r s 0 gK cK gO cO ks os (w2.alloc (.cells #[.int .i64 k, .int .i64 f, .int .i64 d, .int .i64 r, .int .i64 1000000, .int .i64 s, .slice (some ⟨gK, 0, none⟩) k cK, .slice (some ⟨gO, 0, none⟩) k cO, .int .i64 0] 31)) := Lw.Nv.make hK hO 31
    have b3 : Below w2.heap.size w2 (w2.alloc (.cells #[.int .i64 k, .int .i64 f, .int .i64 d, .int .i64 r, .int .i64 1000000, .int .i64 s, .slice (some ⟨gK, 0, none⟩) k cK, .slice (some ⟨gO, 0, none⟩) k cO, .int .i64 0] 31)) := (Below.refl _ w2).alloc (Nat.le_refl _) _
    have HL : Pl.LT (w2.heap.size + 1) ((w2.alloc (.cells #[.int .i64 k, .int .i64 f, .int .i64 d, .int .i64 r, .int .i64 1000000, .int .i64 s, .slice (some ⟨gK, 0, none⟩) k cK, .slice (some ⟨gO, 0, none⟩) k cO, .int .i64 0] 31)).alloc (.cells #[] 37)) (w2.heap.size + 1) 0 0 w.heap.size (w2.heap.size + 2) [] := by have q := Pl.lt_new (w := w2.alloc (.cells #[.int .i64 k, .int .i64 f, .int .i64 d, .int .i64 r, .int .i64 1000000, .int .i64 s, .slice (some ⟨gK, 0, none⟩) k cK, .slice (some ⟨gO, 0, none⟩) k cO, .int .i64 0] 31)) (B := (w2.heap.size + 1)) w.heap.size (w2.heap.size + 2) (by simp); simp only [World.size_alloc] at q; exact q
    have b4 : Below w2.heap.size w2 ((w2.alloc (.cells #[.int .i64 k, .int .i64 f, .int .i64 d, .int .i64 r, .int .i64 1000000, .int .i64 s, .slice (some ⟨gK, 0, none⟩) k cK, .slice (some ⟨gO, 0, none⟩) k cO, .int .i64 0] 31)).alloc (.cells #[] 37)) := b3.alloc b3.size _
    have b5 : Below w2.heap.size w2 (((w2.alloc (.cells #[.int .i64 k, .int .i64 f, .int .i64 d, .int .i64 r, .int .i64 1000000, .int .i64 s, .slice (some ⟨gK, 0, none⟩) k cK, .slice (some ⟨gO, 0, none⟩) k cO, .int .i64 0] 31)).alloc (.cells #[] 37)).alloc (.cells #[.int .i64 k, .int .i64 f, .int .i64 d, .int .i64 r, .int .i64 1000000, .int .i64 s, .slice (some ⟨gK, 0, none⟩) k cK, .slice (some ⟨gO, 0, none⟩) k cO, .int .i64 0] 31)) := b4.alloc b4.size _
    have NW : Lw.Nw w w.heap.size w.heap.size a0 len0 cap0 (w2.heap.size + 2) k f d r s ((0 : Nat) : Int) gK cK gO cO ks os (((w2.alloc (.cells #[.int .i64 k, .int .i64 f, .int .i64 d, .int .i64 r, .int .i64 1000000, .int .i64 s, .slice (some ⟨gK, 0, none⟩) k cK, .slice (some ⟨gO, 0, none⟩) k cO, .int .i64 0] 31)).alloc (.cells #[] 37)).alloc (.cells #[.int .i64 k, .int .i64 f, .int .i64 d, .int .i64 r, .int .i64 1000000, .int .i64 s, .slice (some ⟨gK, 0, none⟩) k cK, .slice (some ⟨gO, 0, none⟩) k cO, .int .i64 0] 31)) := ⟨st2.below b5, Rm.Room.at _ [.int .i64 k, .int .i64 f, .int .i64 d, .int .i64 r, .int .i64 1000000, .int .i64 s, .slice (some ⟨gK, 0, none⟩) k cK, .slice (some ⟨gO, 0, none⟩) k cO, .int .i64 0] 31 _ (by simp), (Lw.has_mono hK (Nat.zero_le _)).later b5 uK, (Lw.has_mono hO (Nat.zero_le _)).later b5 uO, ⟨by omega, by omega⟩, by omega, by omega, by omega, by omega, by omega⟩
    replace NV : Lw.Nv w2.heap.size k f d r s 0 gK cK gO cO ks os (((w2.alloc (.cells #[.int .i64 k, .int .i64 f, .int .i64 d, .int .i64 r, .int .i64 1000000, .int .i64 s, .slice (some ⟨gK, 0, none⟩) k cK, .slice (some ⟨gO, 0, none⟩) k cO, .int .i64 0] 31)).alloc (.cells #[] 37)).alloc (.cells #[.int .i64 k, .int .i64 f, .int .i64 d, .int .i64 r, .int .i64 1000000, .int .i64 s, .slice (some ⟨gK, 0, none⟩) k cK, .slice (some ⟨gO, 0, none⟩) k cO, .int .i64 0] 31)) := (NV.below ((Below.refl _ _).alloc (Nat.le_refl _) _)).below ((Below.refl _ _).alloc (Nat.le_refl _) _)
    replace HL := HL.below ((Below.refl _ _).alloc (Nat.le_refl _) (.cells #[.int .i64 k, .int .i64 f, .int .i64 d, .int .i64 r, .int .i64 1000000, .int .i64 s, .slice (some ⟨gK, 0, none⟩) k cK, .slice (some ⟨gO, 0, none⟩) k cO, .int .i64 0] 31))
    have hk0 := hW.pos
    have hk8 := hW.k8
    have hk : k ≤ 1048576 := by omega
    have HW : Hid (Lw.RW 50 f d r s k ks os) := hW
    have hd0 := hW.d0
    have hd1 := hW.d1
    have hr0 := hW.r0
    have hr1 := hW.r1
    have hk16 : k ≤ 16 := by omega
    have hpX : w.heap.size < w2.heap.size := by omega
    have hgX : gK < w2.heap.size ∧ gO < w2.heap.size ∧ w.heap.size < gK ∧ w.heap.size < gO := ⟨uK, uO, by omega, by omega⟩
    clear hK hO st1 st2 sp2 b3 b4 b5 code hW qK qO uK uO z1 z2
    go_wp2_with fail
    generalize (((w2.alloc (.cells #[.int .i64 k, .int .i64 f, .int .i64 d, .int .i64 r, .int .i64 1000000, .int .i64 s, .slice (some ⟨gK, 0, none⟩) k cK, .slice (some ⟨gO, 0, none⟩) k cO, .int .i64 0] 31)).alloc (.cells #[] 37)).alloc (.cells #[.int .i64 k, .int .i64 f, .int .i64 d, .int .i64 r, .int .i64 1000000, .int .i64 s, .slice (some ⟨gK, 0, none⟩) k cK, .slice (some ⟨gO, 0, none⟩) k cO, .int .i64 0] 31)) = w3 at NW NV HL ⊢
    refine (Di.below w3 w.heap.size w.heap.size a0 len0 cap0 8 (by omega) (by omega) _ NW.st.here).mono ?_
    rintro e w3b ⟨⟨n0, rfl, n00, n01⟩, st3⟩
    replace NW := NW.step (Di.St.on NW.st.step st3) st3.step
    replace NV := NV.step st3.step (by omega) (by omega) (by omega)
    replace HL := HL.step st3.step (by omega)
    clear st3
    obtain ⟨i0, rfl⟩ : ∃ i0 : Nat, n0 = (i0 : Int) := ⟨n0.toNat, by omega⟩
    have hi0 : i0 ≤ 7 := by omega
    clear n00 n01
    have HS : Hid (Lw.RW (50 + 22 * ((0 : Nat) : Int)) f d r s k ks os ∧ Pl.ST (k : Int) f d r 1000000 s k k ks os 0 [] 0 = (ks, os, ((0 : Nat) : Int)) ∧ (∀ j, j < 0 → Pl.oks (k : Int) f d r 1000000 s k k ks os 0 [] j = true) ∧ ∀ j, j < 0 → (Pl.tt [] j).Ok) := ⟨by rw [show (50 : Int) + 22 * ((0 : Nat) : Int) = 50 by omega]; exact HW.out, rfl, fun j hj => by omega, fun j hj => by omega⟩
    obtain ⟨iT, hiT, hT0, hT1, hT2⟩ := info_parts Pl.infoT
    go_wp2_with fail
    go_loopw [5, 7] (fun lv nv wr => ∃ (c i g cap gK' cK' gO' cO' : Nat) (ts : List Pl.TT) (ks' os' : List Int), i + c ≤ 7 ∧ nv = .int .i64 i ∧ lv = .slice (some ⟨g, 0, none⟩) c cap ∧ Lw.Nw w w.heap.size w.heap.size a0 len0 cap0 (w2.heap.size + 2) k f d r s (c : Int) gK' cK' gO' cO' ks' os' wr ∧ Lw.Nv w2.heap.size k f d r s 0 gK cK gO cO ks os wr ∧ Pl.LT (w2.heap.size + 1) wr g c cap w.heap.size (w2.heap.size + 2) ts ∧ (g ≠ (w2.heap.size + 2) ∧ g ≠ w.heap.size ∧ gK' ≠ g ∧ gO' ≠ g) ∧ Hid (Lw.RW (50 + 22 * (c : Int)) f d r s k ks' os' ∧ Pl.ST (k : Int) f d r 1000000 s k k ks os 0 ts c = (ks', os', (c : Int)) ∧ (∀ j, j < c → Pl.oks (k : Int) f d r 1000000 s k k ks os 0 ts j = true) ∧ ∀ j, j < c → (Pl.tt ts j).Ok)) (fun _ nv _ => (intOf nv).toNat)
    case atStart => exact ⟨0, i0, _, 0, gK, cK, gO, cO, [], ks, os, by omega, rfl, rfl, NW, NV, HL, ⟨by omega, by omega, by omega, by omega⟩, HS⟩
    case round =>
      clear NW NV HL HS
      obtain ⟨c, i, g, cap, gK', cK', gO', cO', ts, ks', os', hic, rfl, rfl, NW, NV, HL, hg, HS⟩ := hrel
      by_cases hlt : 0 < i
      · have hi2 : (0 : Int) < (i : Int) := by omega
        obtain ⟨hW, hST, hok, hOk⟩ := HS.out
        have HST : Hid (_ = _) := hST
        have HOK : Hid (∀ j, j < c → _ = true) := hok
        have HOk : Hid (∀ j, j < c → (Pl.tt ts j).Ok) := hOk
        clear hST hok hOk
        have cw0 := NW.R.cell 0 rfl
        have cw1 := NW.R.cell 1 rfl
        have cw2 := NW.R.cell 2 rfl
        have cw3 := NW.R.cell 3 rfl
        have cw4 := NW.R.cell 4 rfl
        have cw5 := NW.R.cell 5 rfl
        have cw6 := NW.R.cell 6 rfl
        have cw7 := NW.R.cell 7 rfl
        have cw8 := NW.R.cell 8 rfl
        go_wp2_with fail
        refine (Lw.turn w.heap.size w.heap.size a0 len0 cap0 (k : Int) f d r 1000000 s (c : Int) _ gK' k cK' (some ⟨gO', 0, none⟩) k cO' ks' w _ NW.st NW.K NW.x.2.2.1 hd0 (by omega) hr0 (by omega) hk16 hW.bad).mono ?_
        rintro e w4 ⟨⟨gD, cD, gF, gR, cE, cL, aE, aL, rfl, ds, es, ls, fs, rs, hHT, hR⟩, st4, sp4⟩
        clear cw0 cw1 cw2 cw3 cw4 cw5 cw6 cw7 cw8
        have lXX := NW.lt
        have lgg := HL.lt
        have lX0 := NV.R.lt (by simp)
        have zr4 := sp4.size
        replace NW := NW.step st4 sp4
        replace NV := NV.step sp4 (by omega) (by omega) (by omega)
        replace HL := HL.step sp4 hg.2.1
        obtain ⟨gE, cE, eE, -, rE⟩ := hHT.E.rows hk0
        cases eE
        obtain ⟨gL, cL, eL, -, rL⟩ := hHT.L.rows hk0
        cases eL
        have hFr := Pl.ht_fr (g := g) (p := w.heap.size) (X := (w2.heap.size + 2)) hHT hk0 (by omega) (by omega) (by omega)
        have b5 : Below w4.heap.size w4 (w4.alloc (.cells #[.slice (some ⟨gD, 0, none⟩) k cD, .slice (some ⟨gE, 0, none⟩) k cE, .slice (some ⟨gL, 0, none⟩) k cL, .slice (some ⟨gF, 0, none⟩) k k, .slice (some ⟨gR, 0, none⟩) k k] 37)) := (Below.refl _ w4).alloc (Nat.le_refl _) _
        have NT : Lw.Nt w4.heap.size k gD cD gE cE gL cL gF gR ds es ls fs rs (w4.alloc (.cells #[.slice (some ⟨gD, 0, none⟩) k cD, .slice (some ⟨gE, 0, none⟩) k cE, .slice (some ⟨gL, 0, none⟩) k cL, .slice (some ⟨gF, 0, none⟩) k k, .slice (some ⟨gR, 0, none⟩) k k] 37)) := ⟨Rm.Room.new w4 [.slice (some ⟨gD, 0, none⟩) k cD, .slice (some ⟨gE, 0, none⟩) k cE, .slice (some ⟨gL, 0, none⟩) k cL, .slice (some ⟨gF, 0, none⟩) k k, .slice (some ⟨gR, 0, none⟩) k k] 37, (hHT.D.has.row.later b5 (Nat.le_refl _)).more b5.size, (rE.later b5 (Nat.le_refl _)).more b5.size, (rL.later b5 (Nat.le_refl _)).more b5.size, (hHT.F.row.later b5 (Nat.le_refl _)).more b5.size, (hHT.R.row.later b5 (Nat.le_refl _)).more b5.size⟩
        replace NW := NW.below b5
        replace NV := NV.below b5
        replace HL := HL.below b5
        replace hFr := hFr.move b5.size (fun b hb _ _ _ => b5.block b hb) (.inl rfl)
        clear hHT rE rL st4 sp4 b5
        obtain ⟨xs, hox, hzx, hjx⟩ := HL
        have hlx := hox.1
        have lYY := NT.R.lt (by simp)
        have hcc : c ≤ 7 := by omega
        go_wp2_with (at_builtin; refine wpList_append_own_at _ rfl (.tmp 33) (.tmp 35) 45 rfl (w2.heap.size + 1) 37 iT (.agg #[.slice none 0 0, .slice none 0 0, .slice none 0 0, .slice none 0 0, .slice none 0 0]) 5 120 Try.underlying45 hiT hT0 hT1 hT2 rfl (by decide) _ _ _ rfl (World.ownsRow.alloc (w := (w4.alloc (.cells #[.slice (some ⟨gD, 0, none⟩) k cD, .slice (some ⟨gE, 0, none⟩) k cE, .slice (some ⟨gL, 0, none⟩) k cL, .slice (some ⟨gF, 0, none⟩) k k, .slice (some ⟨gR, 0, none⟩) k k] 37))) hox _) ⟨w4.heap.size + 1, 0, none⟩ 1 1 [.slice (some ⟨gD, 0, none⟩) k cD, .slice (some ⟨gE, 0, none⟩) k cE, .slice (some ⟨gL, 0, none⟩) k cL, .slice (some ⟨gF, 0, none⟩) k k, .slice (some ⟨gR, 0, none⟩) k k] rfl rfl (Pl.one5 _ _ _ _ _ _ _ _ (by simp)) (by intro u hu; simp at hu; rcases hu with rfl | rfl | rfl | rfl | rfl <;> rfl) (by unfold maxLen; omega) (by omega) (by simp; omega) ?_; intro v2 w6 hx2 hg2 hn2 ha2; obtain ⟨g2, cap2, rfl, ho2⟩ := Pl.own5_of hx2 (Ow.no_nil hn2 rfl); replace hg2 : World.grownBy _ w6 (some g) := hg2; have NW6 := NW.grown hg2 hg.2.1 (by omega) hg.2.2.1 hg.2.2.2 (by omega) (by omega); have t6 := (NT.R.alloc _).other hg2 (by omega); have cw0 := NW6.R.cell 0 rfl; have cw1 := NW6.R.cell 1 rfl; have cw2 := NW6.R.cell 2 rfl; have cw3 := NW6.R.cell 3 rfl; have cw4 := NW6.R.cell 4 rfl; have cw5 := NW6.R.cell 5 rfl; have cw6 := NW6.R.cell 6 rfl; have cw7 := NW6.R.cell 7 rfl; have cw8 := NW6.R.cell 8 rfl; have ct0 := t6.cell 0 rfl; have ct1 := t6.cell 1 rfl; have ct2 := t6.cell 2 rfl; have ct3 := t6.cell 3 rfl; have ct4 := t6.cell 4 rfl; clear hx2 hn2)
        clear cw0 cw1 cw2 cw3 cw4 cw5 cw6 cw7 cw8
        clear ct0 ct1 ct2 ct3 ct4
        have hat : g2 = g ∨ (w4.alloc (.cells #[.slice (some ⟨gD, 0, none⟩) k cD, .slice (some ⟨gE, 0, none⟩) k cE, .slice (some ⟨gL, 0, none⟩) k cL, .slice (some ⟨gF, 0, none⟩) k k, .slice (some ⟨gR, 0, none⟩) k k] 37)).heap.size ≤ g2 := by rcases ha2 with ha2 | ha2; (left; exact Option.some.inj ha2); (right; have := Option.some.inj ha2; simp at this ⊢; omega)
        have hT6 := Pl.LT.more (T := Pl.RTT k ds es ls fs rs) hlx hzx hjx hFr hg2 hat ho2
        have A6 := (hFr.move (g := g) (g' := g2) (w' := w6) (by have := hg2.size; simp at this ⊢; omega) (fun b hb hne _ _ => by rw [hg2.block b (by simp at hb ⊢; omega) (fun e => hne (Option.some.inj e))]; exact Below.heap_alloc _ _ _ hb) hat).now
        have NT6 : Lw.Nt w4.heap.size k gD cD gE cE gL cL gF gR ds es ls fs rs w6 := ⟨t6, A6.D, A6.E, A6.L, A6.F, A6.R⟩
        have NV6 := NV.grown hg2 (by omega) (by omega) (by omega)
        have lW := NW.K.2.2.1
        have lW2 := NW.O.2.2.1
        clear NW NT NV hox hjx hFr t6 A6 hg2 ha2 ho2
        have hf6 : (50 + 22 * (c : Int)) ≤ 1000000 := by omega
        have t0 : (0 : Int) ≤ c := by omega
        have t1 : (c : Int) < 1000000 := by omega
        have lX6 := NW6.lt
        have lg6 := hT6.lt
        have lp6 := NW6.st.lt
        have lV6 := NV6.R.lt (by simp)
        refine (Lw.s_trn NW6 NT6 hW hR hf6 t0 t1).mono ?_
        rintro e w8 ⟨⟨gA, cA, gB, cB, rfl, hA, hB, hne'⟩, b8⟩
        have qA := hA.2.1
        have uA := hA.2.2.1
        have qB := hB.2.1
        have uB := hB.2.2.1
        replace NW6 := NW6.below b8
        replace NV6 := NV6.below b8
        replace hT6 := hT6.below b8
        clear b8 NT6
        have NW9 := NW6.over (cK' := cA) (cO' := cB) (Lw.has_mono hA (Nat.zero_le _)) (Lw.has_mono hB (Nat.zero_le _)) (by omega) (by omega) (by omega) (by omega)
        have NV9 := NV6.over (q := (w2.heap.size + 2)) (by omega) (by omega) (by omega) (.int .i64 (k : Int)) (.int .i64 f) (.int .i64 d) (.int .i64 r) (.int .i64 1000000) (.int .i64 s) (.slice (some ⟨gA, 0, none⟩) k cA) (.slice (some ⟨gB, 0, none⟩) k cB) (.int .i64 ((c : Int) + 1))
        have HL9 := hT6.over (by rcases hat with rfl | hat; (exact hg.1); (simp at hat; omega)) (.int .i64 (k : Int)) (.int .i64 f) (.int .i64 d) (.int .i64 r) (.int .i64 1000000) (.int .i64 s) (.slice (some ⟨gA, 0, none⟩) k cA) (.slice (some ⟨gB, 0, none⟩) k cB) (.int .i64 ((c : Int) + 1))
        obtain ⟨hs1, hs2⟩ := Pl.st_next (ks := ks) (os := os) (t := 0) hzx HST.out (hW.rb hR hf6 t0 t1)
        have HS9 : Hid (Lw.RW (50 + 22 * ((c + 1 : Nat) : Int)) f d r s k (Tu.TK (k : Int) f d r 1000000 s ks' k os' k (c : Int) ds es ls fs rs k k) (Tu.TF (k : Int) f d r 1000000 s ks' k os' k (c : Int) ds es ls fs rs k k) ∧ Pl.ST (k : Int) f d r 1000000 s k k ks os 0 (ts ++ [Pl.RTT k ds es ls fs rs]) (c + 1) = (Tu.TK (k : Int) f d r 1000000 s ks' k os' k (c : Int) ds es ls fs rs k k, Tu.TF (k : Int) f d r 1000000 s ks' k os' k (c : Int) ds es ls fs rs k k, ((c + 1 : Nat) : Int)) ∧ (∀ j, j < c + 1 → Pl.oks (k : Int) f d r 1000000 s k k ks os 0 (ts ++ [Pl.RTT k ds es ls fs rs]) j = true) ∧ ∀ j, j < c + 1 → (Pl.tt (ts ++ [Pl.RTT k ds es ls fs rs]) j).Ok) := by
          refine ⟨by have := hW.turned hR (hW.to hR hf6 t0 t1); rwa [show (50 : Int) + 22 * (c : Int) + 22 = 50 + 22 * ((c + 1 : Nat) : Int) by omega] at this, hs1, fun j hj => ?_, fun j hj => ?_⟩
          · by_cases e : j < c
            · rw [Pl.oks_app (by omega)]; exact HOK.out j e
            · obtain rfl : j = c := by omega
              exact hs2
          · by_cases e : j < c
            · rw [Pl.tt_app (by omega)]; exact HOk.out j e
            · obtain rfl : j = c := by omega
              rw [← hzx, Pl.tt_last]; exact Pl.rtt_ok hR hk8
        clear hs1 hs2 HST HOK HOk HS hW hR
        have cw0 := NW6.R.cell 0 rfl
        have cw1 := NW6.R.cell 1 rfl
        have cw2 := NW6.R.cell 2 rfl
        have cw3 := NW6.R.cell 3 rfl
        have cw4 := NW6.R.cell 4 rfl
        have cw5 := NW6.R.cell 5 rfl
        have cw6 := NW6.R.cell 6 rfl
        have cw7 := NW6.R.cell 7 rfl
        have cw8 := NW6.R.cell 8 rfl
        have cf0 := NW6.R.froz 0 rfl
        have cf1 := NW6.R.froz 1 rfl
        have cf2 := NW6.R.froz 2 rfl
        have cf3 := NW6.R.froz 3 rfl
        have cf4 := NW6.R.froz 4 rfl
        have cf5 := NW6.R.froz 5 rfl
        have cf6 := NW6.R.froz 6 rfl
        have cf7 := NW6.R.froz 7 rfl
        have cf8 := NW6.R.froz 8 rfl
        go_wp2_with fail
        go_roundw
        case rel => exact ⟨c + 1, i - 1, g2, cap2, gA, cA, gB, cB, ts ++ [Pl.RTT k ds es ls fs rs], _, _, by omega, by go_num, rfl, NW9, NV9, HL9, ⟨by omega, by omega, by omega, by omega⟩, HS9⟩
        case measure => simp [intOf]; omega
      · have e8 : i = 0 := by omega
        subst e8
        have hi2 : ¬ (0 : Int) < ((0 : Nat) : Int) := by omega
        have hcc : c ≤ 7 := by omega
        obtain ⟨-, hST, hok, hOk⟩ := HS.out
        have hz9 := HL
        obtain ⟨xs9, ho9, hz9, -⟩ := hz9
        have hcap : c ≤ cap := by rcases ho9.2 with ⟨h1, _⟩ | ⟨g9, cap9, cur9, e9, _, _, h9, _⟩; (cases h1); (cases e9; exact h9)
        clear ho9
        have hwo0 : Hid (Wl.WO (k : Int) f d r 1000000 s ks k os k 0 = true) := HW.out.wo (by omega) 0 (by omega) (by omega)
        go_wp2_with fail
        refine (Di.below _ w.heap.size w.heap.size a0 len0 cap0 ((c : Int) + 1) (by omega) (by omega) _ NW.st.here).mono ?_
        rintro e w9 ⟨⟨x9, rfl, x90, x91⟩, st3⟩
        replace NW := NW.step (Di.St.on NW.st.step st3) st3.step
        replace NV := NV.step st3.step (by omega) (by omega) (by omega)
        replace HL := HL.step st3.step hg.2.1
        clear st3
        obtain ⟨q, rfl⟩ : ∃ q : Nat, x9 = (q : Int) := ⟨x9.toNat, by omega⟩
        have hq : q ≤ c := by omega
        have hqc : q ≤ cap := by omega
        clear x90 x91
        obtain ⟨c1, c2, c3, c4, c5⟩ := Pl.parts (n := (k : Int)) (l := f) (d := d) (r := r) (p := 1000000) (s := s) (k := k) (m := k) (ks := ks) (os := os) (t := 0) hz9 hq hok
        have HT := HL.turns
        have HOq : Hid (∀ j, j < c → _ = true) := hok
        have HOk : Hid (∀ j, j < c → (Pl.tt ts j).Ok) := hOk
        have HC1 : Hid (_ ∧ _) := ⟨c1, c2⟩
        have HC3 : Hid (_ ∧ _ ∧ _) := ⟨c3, c4, c5⟩
        have HSTc : Hid (_ = _) := hST
        clear c1 c2 c3 c4 c5 hST hok hOk HL HS
        obtain ⟨⟨kq, oq, tq⟩, hSq⟩ : ∃ S, Pl.ST (k : Int) f d r 1000000 s k k ks os 0 ts q = S := ⟨_, rfl⟩
        have HSQ : Hid (_ = _) := hSq
        have hwq : Hid (Wl.WO (k : Int) f d r 1000000 s kq k oq k tq = true) := by
          have := Pl.st_wo hwo0.out q (fun i hi => HOq.out i (by omega))
          rw [hSq] at this
          exact this
        clear hSq
        go_wp2_with fail
        go_cut [10, 11] from 48 (fun p10 v11 wc => ∃ (Xa gA cA gB cB : Nat), p10 = .pointer (some ⟨Xa, 0, none⟩) ∧ v11 = .int .i64 (q : Int) ∧ Hid (Below w9.heap.size w9 wc ∧ Rm.Room wc Xa [.int .i64 (k : Int), .int .i64 f, .int .i64 d, .int .i64 r, .int .i64 1000000, .int .i64 s, .slice (some ⟨gA, 0, none⟩) k cA, .slice (some ⟨gB, 0, none⟩) k cB, .int .i64 tq] ∧ Ow.Has wc 0 gA 0 k kq ∧ Ow.Has wc 0 gB 0 k oq ∧ w9.heap.size ≤ Xa))
        case first =>
          have hb0 : Below w9.heap.size w9 w9 := Below.refl _ _
          have hbd := hb0.drew
          refine wp_region_noPanic ?_
          refine wp_region_held_drew (S := (fun w' => w'.cell? ⟨w2.heap.size, 0, none⟩ = some (.int .i64 (k : Int)) ∧ w'.cell? ⟨w2.heap.size, 1, none⟩ = some (.int .i64 f) ∧ w'.cell? ⟨w2.heap.size, 2, none⟩ = some (.int .i64 d) ∧ w'.cell? ⟨w2.heap.size, 3, none⟩ = some (.int .i64 r) ∧ w'.cell? ⟨w2.heap.size, 4, none⟩ = some (.int .i64 1000000) ∧ w'.cell? ⟨w2.heap.size, 5, none⟩ = some (.int .i64 s) ∧ w'.cell? ⟨w2.heap.size, 6, none⟩ = some (.slice (some ⟨gK, 0, none⟩) k cK) ∧ w'.cell? ⟨w2.heap.size, 7, none⟩ = some (.slice (some ⟨gO, 0, none⟩) k cO) ∧ w'.cell? ⟨w2.heap.size, 8, none⟩ = some (.int .i64 0) ∧ Hid (Below w9.heap.size w9 w'))) (by kernel_rfl) ⟨((NV.below hbd).R).cell 0 rfl, ((NV.below hbd).R).cell 1 rfl, ((NV.below hbd).R).cell 2 rfl, ((NV.below hbd).R).cell 3 rfl, ((NV.below hbd).R).cell 4 rfl, ((NV.below hbd).R).cell 5 rfl, ((NV.below hbd).R).cell 6 rfl, ((NV.below hbd).R).cell 7 rfl, ((NV.below hbd).R).cell 8 rfl, hbd⟩ (fun hHeld => ?_)
          refine Tk.W 0 (some 49) (.load 31 (.tmp 4)) 31 none ?_
          refine Tk.W 1 (some 50) (.move (.tmp 5)) 45 none ?_
          refine Tk.W 2 (some 51) (.move (.tmp 9)) 2 none ?_
          refine Tk.W 3 (some 52) (.slice 45 (.tmp 50) none (some (.tmp 51)) none) 45 none ?_
          refine wpAnyH_ready (rs := [4, 8]) (by kernel_rfl) (by simp) ?_
          refine (AllReadyH.cons (o := ⟨some 53, .call ⟨.value (.func 24), #[.tmp 49, .tmp 52], #[31, 45]⟩, 47, _, _, none⟩) rfl (fun K hK => ?_) (AllReadyH.cons (o := ⟨some 10, .alloc 31, 0, _, _, none⟩) rfl (fun K hK => ?_) AllReadyH.nil))
          · go_simp
            refine ((Pl.i_Played_yes (k : Int) f d r 1000000 s 0 _ _ k cK k cO ks os (some ⟨g, 0, none⟩) q cap (ts.take q) _ (NV.below hHeld.2.2.2.2.2.2.2.2.2.out).K.row (NV.below hHeld.2.2.2.2.2.2.2.2.2.out).O.row hk hk (Pl.turns_take (HT.below hHeld.2.2.2.2.2.2.2.2.2.out) hq) (by omega) (fun j hj => by rw [Pl.tt_take hj]; exact HOk.out j (by omega)) hwo0.out (by omega))).mono ?_
            rintro e wD ⟨⟨gA, cA, gB, cB, rfl, hA, hB, hnea⟩, b_m5⟩
            rw [HC1.out.1, HC1.out.2, HSQ.out] at hA hB ⊢
            have hb_m5 := hHeld.2.2.2.2.2.2.2.2.2.out
            have zs_m5 := hb_m5.size
            have hb2_m5 := hb_m5.trans (b_m5.mono hb_m5.size)
            have kvm5 := Tk.kv hK (w := wD) ⟨((NV.below hb2_m5).R).cell 0 rfl, ((NV.below hb2_m5).R).cell 1 rfl, ((NV.below hb2_m5).R).cell 2 rfl, ((NV.below hb2_m5).R).cell 3 rfl, ((NV.below hb2_m5).R).cell 4 rfl, ((NV.below hb2_m5).R).cell 5 rfl, ((NV.below hb2_m5).R).cell 6 rfl, ((NV.below hb2_m5).R).cell 7 rfl, ((NV.below hb2_m5).R).cell 8 rfl, hb2_m5⟩
            have qaa := hA.2.1
            have qba := hB.2.1
            have uaa := hA.2.2.1
            have uba := hB.2.2.1
            have zb := b_m5.size
            (try simp at qaa qba zs_m5 zb)
            clear b_m5 hb_m5 hb2_m5
            try dsimp only
            refine hK.out _ _ kvm5 ?_; clear hK K hHeld; intro hHeld; try simp only [Act.put, List.setIfInBounds_toArray, List.set_cons_zero, List.set_cons_succ]
            refine Tk.W 5 (some 48) (.move (.tmp 53)) 47 none ?_
            refine Tk.W 6 (some 54) (.extract (.tmp 48) 0) 31 none ?_
            refine Tk.W 7 (some 55) (.extract (.tmp 48) 1) 2 none ?_
            refine Tk.R 8 (some 10) (.alloc 31) 0 none (fun K hK => ?_)
            go_simp
            have bm9 : Below wD.heap.size wD ((wD.alloc (.cells #[.int .i64 0, .int .i64 0, .int .i64 0, .int .i64 0, .int .i64 0, .int .i64 0, .slice none 0 0, .slice none 0 0, .int .i64 0] 31))) := (Below.refl wD.heap.size wD).alloc (Nat.le_refl _) (.cells #[.int .i64 0, .int .i64 0, .int .i64 0, .int .i64 0, .int .i64 0, .int .i64 0, .slice none 0 0, .slice none 0 0, .int .i64 0] 31)
            have RX : Rm.Room ((wD.alloc (.cells #[.int .i64 0, .int .i64 0, .int .i64 0, .int .i64 0, .int .i64 0, .int .i64 0, .slice none 0 0, .slice none 0 0, .int .i64 0] 31))) wD.heap.size [.int .i64 0, .int .i64 0, .int .i64 0, .int .i64 0, .int .i64 0, .int .i64 0, .slice none 0 0, .slice none 0 0, .int .i64 0] := Rm.Room.new wD [.int .i64 0, .int .i64 0, .int .i64 0, .int .i64 0, .int .i64 0, .int .i64 0, .slice none 0 0, .slice none 0 0, .int .i64 0] 31
            have hb_m9 := hHeld.2.2.2.2.2.2.2.2.2.out
            have zs2 := hb_m9.size
            have hb2_m9 := hb_m9.trans (bm9.mono hb_m9.size)
            have kvm9 := Tk.kv hK (w := ((wD.alloc (.cells #[.int .i64 0, .int .i64 0, .int .i64 0, .int .i64 0, .int .i64 0, .int .i64 0, .slice none 0 0, .slice none 0 0, .int .i64 0] 31)))) ⟨((NV.below hb2_m9).R).cell 0 rfl, ((NV.below hb2_m9).R).cell 1 rfl, ((NV.below hb2_m9).R).cell 2 rfl, ((NV.below hb2_m9).R).cell 3 rfl, ((NV.below hb2_m9).R).cell 4 rfl, ((NV.below hb2_m9).R).cell 5 rfl, ((NV.below hb2_m9).R).cell 6 rfl, ((NV.below hb2_m9).R).cell 7 rfl, ((NV.below hb2_m9).R).cell 8 rfl, hb2_m9⟩
            replace hA := hA.later bm9 hA.2.2.1
            replace hB := hB.later bm9 hB.2.2.1
            have zn := bm9.size
            clear bm9 hb_m9 hb2_m9
            obtain ⟨Xa, hX⟩ : ∃ x, x = wD.heap.size := ⟨_, rfl⟩
            rw [← hX] at RX ⊢
            have hX1 : Xa ≤ wD.heap.size := Nat.le_of_eq hX
            have hX2 : wD.heap.size ≤ Xa := Nat.le_of_eq hX.symm
            clear hX
            have lX : Xa < ((wD.alloc (.cells #[.int .i64 0, .int .i64 0, .int .i64 0, .int .i64 0, .int .i64 0, .int .i64 0, .slice none 0 0, .slice none 0 0, .int .i64 0] 31))).heap.size := RX.lt (by simp)
            (try simp at zs2 zn )
            generalize (wD.alloc (.cells #[.int .i64 0, .int .i64 0, .int .i64 0, .int .i64 0, .int .i64 0, .int .i64 0, .slice none 0 0, .slice none 0 0, .int .i64 0] 31)) = wX at kvm9 RX hA hB lX zn ⊢
            try dsimp only
            refine hK.out _ _ kvm9 ?_; clear hK K hHeld; intro hHeld; try simp only [Act.put, List.setIfInBounds_toArray, List.set_cons_zero, List.set_cons_succ]
            refine Tk.R 9 none (.store 31 (.tmp 10) (.tmp 54)) 0 none (fun K hK => ?_)
            have d0 := RX.cell 0 rfl
            have d1 := RX.cell 1 rfl
            have d2 := RX.cell 2 rfl
            have d3 := RX.cell 3 rfl
            have d4 := RX.cell 4 rfl
            have d5 := RX.cell 5 rfl
            have d6 := RX.cell 6 rfl
            have d7 := RX.cell 7 rfl
            have d8 := RX.cell 8 rfl
            have f0 := RX.froz 0 rfl
            have f1 := RX.froz 1 rfl
            have f2 := RX.froz 2 rfl
            have f3 := RX.froz 3 rfl
            have f4 := RX.froz 4 rfl
            have f5 := RX.froz 5 rfl
            have f6 := RX.froz 6 rfl
            have f7 := RX.froz 7 rfl
            have f8 := RX.froz 8 rfl
            go_simp
            clear d0 f0 d1 f1 d2 f2 d3 f3 d4 f4 d5 f5 d6 f6 d7 f7 d8 f8
            have hb_m10 := hHeld.2.2.2.2.2.2.2.2.2.out
            have hb2_m10 := hb_m10.trans ((Rm.belowOver9 _ Xa (.int .i64 (k : Int)) (.int .i64 f) (.int .i64 d) (.int .i64 r) (.int .i64 1000000) (.int .i64 s) (.slice (some ⟨gA, 0, none⟩) k cA) (.slice (some ⟨gB, 0, none⟩) k cB) (.int .i64 tq)).mono (by omega))
            have kvm10 := Tk.kv hK (w := _) ⟨((NV.below hb2_m10).R).cell 0 rfl, ((NV.below hb2_m10).R).cell 1 rfl, ((NV.below hb2_m10).R).cell 2 rfl, ((NV.below hb2_m10).R).cell 3 rfl, ((NV.below hb2_m10).R).cell 4 rfl, ((NV.below hb2_m10).R).cell 5 rfl, ((NV.below hb2_m10).R).cell 6 rfl, ((NV.below hb2_m10).R).cell 7 rfl, ((NV.below hb2_m10).R).cell 8 rfl, hb2_m10⟩
            replace RX := Rm.over9 RX (.int .i64 (k : Int)) (.int .i64 f) (.int .i64 d) (.int .i64 r) (.int .i64 1000000) (.int .i64 s) (.slice (some ⟨gA, 0, none⟩) k cA) (.slice (some ⟨gB, 0, none⟩) k cB) (.int .i64 tq)
            replace hA := Pl.has9 hA (q := Xa) (by omega) (.int .i64 (k : Int)) (.int .i64 f) (.int .i64 d) (.int .i64 r) (.int .i64 1000000) (.int .i64 s) (.slice (some ⟨gA, 0, none⟩) k cA) (.slice (some ⟨gB, 0, none⟩) k cB) (.int .i64 tq)
            replace hB := Pl.has9 hB (q := Xa) (by omega) (.int .i64 (k : Int)) (.int .i64 f) (.int .i64 d) (.int .i64 r) (.int .i64 1000000) (.int .i64 s) (.slice (some ⟨gA, 0, none⟩) k cA) (.slice (some ⟨gB, 0, none⟩) k cB) (.int .i64 tq)
            clear hb_m10 hb2_m10
            try dsimp only
            refine hK.out _ _ kvm10 ?_; clear hK K hHeld; intro hHeld; try simp only [Act.put, List.setIfInBounds_toArray, List.set_cons_zero, List.set_cons_succ]
            refine Tk.W 10 (some 11) (.assign (.tmp 55)) 2 none ?_
            refine wpAnyH_done (by kernel_rfl) ?_ _
            refine NoPanic.normal ?_
            have hb := hHeld.2.2.2.2.2.2.2.2.2.out
            clear hHeld
            go_wp2_with fail
            go_meet
            case rel => exact ⟨_, gA, cA, gB, cB, rfl, rfl, hb, RX, Pl.hasm hA (Nat.zero_le _), Pl.hasm hB (Nat.zero_le _), by omega⟩
          · go_simp
            have bm12 : Below w9.drew.heap.size w9.drew ((w9.alloc (.cells #[.int .i64 0, .int .i64 0, .int .i64 0, .int .i64 0, .int .i64 0, .int .i64 0, .slice none 0 0, .slice none 0 0, .int .i64 0] 31)).drew) := (Below.refl w9.drew.heap.size w9.drew).alloc (Nat.le_refl _) (.cells #[.int .i64 0, .int .i64 0, .int .i64 0, .int .i64 0, .int .i64 0, .int .i64 0, .slice none 0 0, .slice none 0 0, .int .i64 0] 31)
            have RX : Rm.Room ((w9.alloc (.cells #[.int .i64 0, .int .i64 0, .int .i64 0, .int .i64 0, .int .i64 0, .int .i64 0, .slice none 0 0, .slice none 0 0, .int .i64 0] 31)).drew) w9.heap.size [.int .i64 0, .int .i64 0, .int .i64 0, .int .i64 0, .int .i64 0, .int .i64 0, .slice none 0 0, .slice none 0 0, .int .i64 0] := Rm.Room.new w9.drew [.int .i64 0, .int .i64 0, .int .i64 0, .int .i64 0, .int .i64 0, .int .i64 0, .slice none 0 0, .slice none 0 0, .int .i64 0] 31
            have hb_m12 := hHeld.2.2.2.2.2.2.2.2.2.out
            have zs2 := hb_m12.size
            have hb2_m12 := hb_m12.trans (bm12.mono hb_m12.size)
            have kvm12 := Tk.kv hK (w := ((w9.alloc (.cells #[.int .i64 0, .int .i64 0, .int .i64 0, .int .i64 0, .int .i64 0, .int .i64 0, .slice none 0 0, .slice none 0 0, .int .i64 0] 31)).drew)) ⟨((NV.below hb2_m12).R).cell 0 rfl, ((NV.below hb2_m12).R).cell 1 rfl, ((NV.below hb2_m12).R).cell 2 rfl, ((NV.below hb2_m12).R).cell 3 rfl, ((NV.below hb2_m12).R).cell 4 rfl, ((NV.below hb2_m12).R).cell 5 rfl, ((NV.below hb2_m12).R).cell 6 rfl, ((NV.below hb2_m12).R).cell 7 rfl, ((NV.below hb2_m12).R).cell 8 rfl, hb2_m12⟩
            have zn := bm12.size
            clear bm12 hb_m12 hb2_m12
            obtain ⟨Xa, hX⟩ : ∃ x, x = w9.heap.size := ⟨_, rfl⟩
            rw [← hX] at RX ⊢
            have hX1 : Xa ≤ w9.heap.size := Nat.le_of_eq hX
            have hX2 : w9.heap.size ≤ Xa := Nat.le_of_eq hX.symm
            clear hX
            have lX : Xa < ((w9.alloc (.cells #[.int .i64 0, .int .i64 0, .int .i64 0, .int .i64 0, .int .i64 0, .int .i64 0, .slice none 0 0, .slice none 0 0, .int .i64 0] 31)).drew).heap.size := RX.lt (by simp)
            (try simp at zs2 zn )
            generalize (w9.alloc (.cells #[.int .i64 0, .int .i64 0, .int .i64 0, .int .i64 0, .int .i64 0, .int .i64 0, .slice none 0 0, .slice none 0 0, .int .i64 0] 31)).drew = wX at kvm12 RX lX zn ⊢
            try dsimp only
            refine hK.out _ _ kvm12 ?_; clear hK K hHeld; intro hHeld; try simp only [Act.put, List.setIfInBounds_toArray, List.set_cons_zero, List.set_cons_succ]
            refine Tk.R 4 (some 53) (.call ⟨.value (.func 24), #[.tmp 49, .tmp 52], #[31, 45]⟩) 47 none (fun K hK => ?_)
            go_simp
            refine ((Pl.i_Played_yes (k : Int) f d r 1000000 s 0 _ _ k cK k cO ks os (some ⟨g, 0, none⟩) q cap (ts.take q) _ (NV.below hHeld.2.2.2.2.2.2.2.2.2.out).K.row (NV.below hHeld.2.2.2.2.2.2.2.2.2.out).O.row hk hk (Pl.turns_take (HT.below hHeld.2.2.2.2.2.2.2.2.2.out) hq) (by omega) (fun j hj => by rw [Pl.tt_take hj]; exact HOk.out j (by omega)) hwo0.out (by omega))).mono ?_
            rintro e wD ⟨⟨gA, cA, gB, cB, rfl, hA, hB, hnea⟩, b_m13⟩
            rw [HC1.out.1, HC1.out.2, HSQ.out] at hA hB ⊢
            have hb_m13 := hHeld.2.2.2.2.2.2.2.2.2.out
            have zs_m13 := hb_m13.size
            have hb2_m13 := hb_m13.trans (b_m13.mono hb_m13.size)
            have kvm13 := Tk.kv hK (w := wD) ⟨((NV.below hb2_m13).R).cell 0 rfl, ((NV.below hb2_m13).R).cell 1 rfl, ((NV.below hb2_m13).R).cell 2 rfl, ((NV.below hb2_m13).R).cell 3 rfl, ((NV.below hb2_m13).R).cell 4 rfl, ((NV.below hb2_m13).R).cell 5 rfl, ((NV.below hb2_m13).R).cell 6 rfl, ((NV.below hb2_m13).R).cell 7 rfl, ((NV.below hb2_m13).R).cell 8 rfl, hb2_m13⟩
            have qaa := hA.2.1
            have qba := hB.2.1
            have uaa := hA.2.2.1
            have uba := hB.2.2.1
            have zb := b_m13.size
            (try simp at qaa qba zs_m13 zb)
            replace RX := RX.below b_m13
            clear b_m13 hb_m13 hb2_m13
            try dsimp only
            refine hK.out _ _ kvm13 ?_; clear hK K hHeld; intro hHeld; try simp only [Act.put, List.setIfInBounds_toArray, List.set_cons_zero, List.set_cons_succ]
            refine Tk.W 5 (some 48) (.move (.tmp 53)) 47 none ?_
            refine Tk.W 6 (some 54) (.extract (.tmp 48) 0) 31 none ?_
            refine Tk.W 7 (some 55) (.extract (.tmp 48) 1) 2 none ?_
            refine Tk.R 9 none (.store 31 (.tmp 10) (.tmp 54)) 0 none (fun K hK => ?_)
            have d0 := RX.cell 0 rfl
            have d1 := RX.cell 1 rfl
            have d2 := RX.cell 2 rfl
            have d3 := RX.cell 3 rfl
            have d4 := RX.cell 4 rfl
            have d5 := RX.cell 5 rfl
            have d6 := RX.cell 6 rfl
            have d7 := RX.cell 7 rfl
            have d8 := RX.cell 8 rfl
            have f0 := RX.froz 0 rfl
            have f1 := RX.froz 1 rfl
            have f2 := RX.froz 2 rfl
            have f3 := RX.froz 3 rfl
            have f4 := RX.froz 4 rfl
            have f5 := RX.froz 5 rfl
            have f6 := RX.froz 6 rfl
            have f7 := RX.froz 7 rfl
            have f8 := RX.froz 8 rfl
            go_simp
            clear d0 f0 d1 f1 d2 f2 d3 f3 d4 f4 d5 f5 d6 f6 d7 f7 d8 f8
            have hb_m17 := hHeld.2.2.2.2.2.2.2.2.2.out
            have hb2_m17 := hb_m17.trans ((Rm.belowOver9 _ Xa (.int .i64 (k : Int)) (.int .i64 f) (.int .i64 d) (.int .i64 r) (.int .i64 1000000) (.int .i64 s) (.slice (some ⟨gA, 0, none⟩) k cA) (.slice (some ⟨gB, 0, none⟩) k cB) (.int .i64 tq)).mono (by omega))
            have kvm17 := Tk.kv hK (w := _) ⟨((NV.below hb2_m17).R).cell 0 rfl, ((NV.below hb2_m17).R).cell 1 rfl, ((NV.below hb2_m17).R).cell 2 rfl, ((NV.below hb2_m17).R).cell 3 rfl, ((NV.below hb2_m17).R).cell 4 rfl, ((NV.below hb2_m17).R).cell 5 rfl, ((NV.below hb2_m17).R).cell 6 rfl, ((NV.below hb2_m17).R).cell 7 rfl, ((NV.below hb2_m17).R).cell 8 rfl, hb2_m17⟩
            replace RX := Rm.over9 RX (.int .i64 (k : Int)) (.int .i64 f) (.int .i64 d) (.int .i64 r) (.int .i64 1000000) (.int .i64 s) (.slice (some ⟨gA, 0, none⟩) k cA) (.slice (some ⟨gB, 0, none⟩) k cB) (.int .i64 tq)
            replace hA := Pl.has9 hA (q := Xa) (by omega) (.int .i64 (k : Int)) (.int .i64 f) (.int .i64 d) (.int .i64 r) (.int .i64 1000000) (.int .i64 s) (.slice (some ⟨gA, 0, none⟩) k cA) (.slice (some ⟨gB, 0, none⟩) k cB) (.int .i64 tq)
            replace hB := Pl.has9 hB (q := Xa) (by omega) (.int .i64 (k : Int)) (.int .i64 f) (.int .i64 d) (.int .i64 r) (.int .i64 1000000) (.int .i64 s) (.slice (some ⟨gA, 0, none⟩) k cA) (.slice (some ⟨gB, 0, none⟩) k cB) (.int .i64 tq)
            clear hb_m17 hb2_m17
            try dsimp only
            refine hK.out _ _ kvm17 ?_; clear hK K hHeld; intro hHeld; try simp only [Act.put, List.setIfInBounds_toArray, List.set_cons_zero, List.set_cons_succ]
            refine Tk.W 10 (some 11) (.assign (.tmp 55)) 2 none ?_
            refine wpAnyH_done (by kernel_rfl) ?_ _
            refine NoPanic.normal ?_
            have hb := hHeld.2.2.2.2.2.2.2.2.2.out
            clear hHeld
            go_wp2_with fail
            go_meet
            case rel => exact ⟨_, gA, cA, gB, cB, rfl, rfl, hb, RX, Pl.hasm hA (Nat.zero_le _), Pl.hasm hB (Nat.zero_le _), by omega⟩
        case rest =>
          obtain ⟨Xa, gA, cA, gB, cB, rfl, rfl, HX⟩ := hcut
          obtain ⟨hb, RA, hA, hB, hXa⟩ := HX.out
          clear HX
          obtain ⟨aT, haT⟩ : ∃ x : Option Addr, (if cap = q then some (⟨g, 0, none⟩ : Addr) else some ⟨g, q * 5, none⟩) = x := ⟨_, rfl⟩
          have HT2 : Pl.TurnsAt w9 w9.heap.size aT (c - q) (ts.drop q) := by
            by_cases e : cap = q
            · exact ⟨by simp [hz9], .inl (by omega)⟩
            · rw [if_neg e] at haT
              rw [← haT]
              have := Pl.turns_drop HT hq
              rwa [Nat.zero_add] at this
          have HC3b : Hid (Pl.CN (k : Int) f d r 1000000 s k k kq oq tq (ts.drop q) (c - q) = c - q ∧ Pl.ST (k : Int) f d r 1000000 s k k kq oq tq (ts.drop q) (c - q) = (ks', os', (c : Int))) := by
            have h3 := HC3.out.1
            have h4 := HC3.out.2.1
            rw [HSQ.out] at h3 h4
            exact ⟨h3, h4.trans HSTc.out⟩
          go_wp2_with fail
          go_cut [12, 13] from 56 (fun p12 v13 wc => ∃ (Xb gC cC gD cD : Nat), p12 = .pointer (some ⟨Xb, 0, none⟩) ∧ v13 = .int .i64 ((c - q : Nat) : Int) ∧ Hid (Below w9.heap.size w9 wc ∧ Rm.Room wc Xb [.int .i64 (k : Int), .int .i64 f, .int .i64 d, .int .i64 r, .int .i64 1000000, .int .i64 s, .slice (some ⟨gC, 0, none⟩) k cC, .slice (some ⟨gD, 0, none⟩) k cD, .int .i64 (c : Int)] ∧ Ow.Has wc 0 gC 0 k ks' ∧ Ow.Has wc 0 gD 0 k os' ∧ w9.heap.size ≤ Xb))
          case first =>
            have hbd := hb.drew
            have RAd := RA.drew
            have hAd := hA.later (Below.refl _ _).drew hA.2.2.1
            have hBd := hB.later (Below.refl _ _).drew hB.2.2.1
            refine wp_region_noPanic ?_
            refine wp_region_held_drew (S := (fun w' => w'.cell? ⟨Xa, 0, none⟩ = some (.int .i64 (k : Int)) ∧ w'.cell? ⟨Xa, 1, none⟩ = some (.int .i64 f) ∧ w'.cell? ⟨Xa, 2, none⟩ = some (.int .i64 d) ∧ w'.cell? ⟨Xa, 3, none⟩ = some (.int .i64 r) ∧ w'.cell? ⟨Xa, 4, none⟩ = some (.int .i64 1000000) ∧ w'.cell? ⟨Xa, 5, none⟩ = some (.int .i64 s) ∧ w'.cell? ⟨Xa, 6, none⟩ = some (.slice (some ⟨gA, 0, none⟩) k cA) ∧ w'.cell? ⟨Xa, 7, none⟩ = some (.slice (some ⟨gB, 0, none⟩) k cB) ∧ w'.cell? ⟨Xa, 8, none⟩ = some (.int .i64 tq) ∧ Hid (Below w9.heap.size w9 w' ∧ Rm.Room w' Xa [.int .i64 (k : Int), .int .i64 f, .int .i64 d, .int .i64 r, .int .i64 1000000, .int .i64 s, .slice (some ⟨gA, 0, none⟩) k cA, .slice (some ⟨gB, 0, none⟩) k cB, .int .i64 tq] ∧ Ow.Has w' 0 gA 0 k kq ∧ Ow.Has w' 0 gB 0 k oq))) (by kernel_rfl) ⟨RAd.cell 0 rfl, RAd.cell 1 rfl, RAd.cell 2 rfl, RAd.cell 3 rfl, RAd.cell 4 rfl, RAd.cell 5 rfl, RAd.cell 6 rfl, RAd.cell 7 rfl, RAd.cell 8 rfl, ⟨hbd, RAd, hAd, hBd⟩⟩ (fun hHeld => ?_)
            refine Tk.W 0 (some 57) (.load 31 (.tmp 10)) 31 none ?_
            refine Tk.W 1 (some 58) (.move (.tmp 5)) 45 none ?_
            refine Tk.W 2 (some 59) (.move (.tmp 9)) 2 none ?_
            refine Tk.W 3 (some 60) (.slice 45 (.tmp 58) (some (.tmp 59)) none none) 45 none ?_
            refine wpAnyH_ready (rs := [4, 8]) (by kernel_rfl) (by simp) ?_
            refine (AllReadyH.cons (o := ⟨some 61, .call ⟨.value (.func 24), #[.tmp 57, .tmp 60], #[31, 45]⟩, 47, _, _, none⟩) rfl (fun K hK => ?_) (AllReadyH.cons (o := ⟨some 12, .alloc 31, 0, _, _, none⟩) rfl (fun K hK => ?_) AllReadyH.nil))
            · go_simp
              refine ((Pl.i_Played_yes (k : Int) f d r 1000000 s tq _ _ k cA k cB kq oq aT (c - q) (cap - q) (ts.drop q) _ hHeld.2.2.2.2.2.2.2.2.2.out.2.2.1.row hHeld.2.2.2.2.2.2.2.2.2.out.2.2.2.row hk hk (HT2.below hHeld.2.2.2.2.2.2.2.2.2.out.1) (by omega) (fun j hj => by rw [Pl.tt_drop]; exact HOk.out _ (by omega)) hwq.out (by omega))).mono ?_
              rintro e wD ⟨⟨gC, cC, gD, cD, rfl, hC, hD, hneb⟩, b_o5⟩
              rw [HC3b.out.1, HC3b.out.2] at hC hD ⊢
              obtain ⟨hb_o5, RA_o5, hA_o5, hB_o5⟩ := hHeld.2.2.2.2.2.2.2.2.2.out
              have zs_o5 := hb_o5.size
              have hb2_o5 := hb_o5.trans (b_o5.mono hb_o5.size)
              have RA2_o5 := RA_o5.below b_o5
              have hA2_o5 := hA_o5.later b_o5 hA_o5.2.2.1
              have hB2_o5 := hB_o5.later b_o5 hB_o5.2.2.1
              have kvo5 := Tk.kv hK (w := wD) ⟨RA2_o5.cell 0 rfl, RA2_o5.cell 1 rfl, RA2_o5.cell 2 rfl, RA2_o5.cell 3 rfl, RA2_o5.cell 4 rfl, RA2_o5.cell 5 rfl, RA2_o5.cell 6 rfl, RA2_o5.cell 7 rfl, RA2_o5.cell 8 rfl, ⟨hb2_o5, RA2_o5, hA2_o5, hB2_o5⟩⟩
              have qab := hC.2.1
              have qbb := hD.2.1
              have uab := hC.2.2.1
              have ubb := hD.2.2.1
              have zb := b_o5.size
              (try simp at qab qbb zs_o5 zb)
              clear b_o5 hb_o5 RA_o5 hA_o5 hB_o5 hb2_o5 RA2_o5 hA2_o5 hB2_o5
              try dsimp only
              refine hK.out _ _ kvo5 ?_; clear hK K hHeld; intro hHeld; try simp only [Act.put, List.setIfInBounds_toArray, List.set_cons_zero, List.set_cons_succ]
              refine Tk.W 5 (some 56) (.move (.tmp 61)) 47 none ?_
              refine Tk.W 6 (some 62) (.extract (.tmp 56) 0) 31 none ?_
              refine Tk.W 7 (some 63) (.extract (.tmp 56) 1) 2 none ?_
              refine Tk.R 8 (some 12) (.alloc 31) 0 none (fun K hK => ?_)
              go_simp
              have bo9 : Below wD.heap.size wD ((wD.alloc (.cells #[.int .i64 0, .int .i64 0, .int .i64 0, .int .i64 0, .int .i64 0, .int .i64 0, .slice none 0 0, .slice none 0 0, .int .i64 0] 31))) := (Below.refl wD.heap.size wD).alloc (Nat.le_refl _) (.cells #[.int .i64 0, .int .i64 0, .int .i64 0, .int .i64 0, .int .i64 0, .int .i64 0, .slice none 0 0, .slice none 0 0, .int .i64 0] 31)
              have RX : Rm.Room ((wD.alloc (.cells #[.int .i64 0, .int .i64 0, .int .i64 0, .int .i64 0, .int .i64 0, .int .i64 0, .slice none 0 0, .slice none 0 0, .int .i64 0] 31))) wD.heap.size [.int .i64 0, .int .i64 0, .int .i64 0, .int .i64 0, .int .i64 0, .int .i64 0, .slice none 0 0, .slice none 0 0, .int .i64 0] := Rm.Room.new wD [.int .i64 0, .int .i64 0, .int .i64 0, .int .i64 0, .int .i64 0, .int .i64 0, .slice none 0 0, .slice none 0 0, .int .i64 0] 31
              obtain ⟨hb_o9, RA_o9, hA_o9, hB_o9⟩ := hHeld.2.2.2.2.2.2.2.2.2.out
              have zs2 := hb_o9.size
              have l_RA := RA_o9.lt (by simp)
              have l_hA := hA_o9.2.2.1
              have l_hB := hB_o9.2.2.1
              have hb2_o9 := hb_o9.trans (bo9.mono hb_o9.size)
              have RA2_o9 := RA_o9.below bo9
              have hA2_o9 := hA_o9.later bo9 hA_o9.2.2.1
              have hB2_o9 := hB_o9.later bo9 hB_o9.2.2.1
              have kvo9 := Tk.kv hK (w := ((wD.alloc (.cells #[.int .i64 0, .int .i64 0, .int .i64 0, .int .i64 0, .int .i64 0, .int .i64 0, .slice none 0 0, .slice none 0 0, .int .i64 0] 31)))) ⟨RA2_o9.cell 0 rfl, RA2_o9.cell 1 rfl, RA2_o9.cell 2 rfl, RA2_o9.cell 3 rfl, RA2_o9.cell 4 rfl, RA2_o9.cell 5 rfl, RA2_o9.cell 6 rfl, RA2_o9.cell 7 rfl, RA2_o9.cell 8 rfl, ⟨hb2_o9, RA2_o9, hA2_o9, hB2_o9⟩⟩
              replace hC := hC.later bo9 hC.2.2.1
              replace hD := hD.later bo9 hD.2.2.1
              have zn := bo9.size
              clear bo9 hb_o9 RA_o9 hA_o9 hB_o9 hb2_o9 RA2_o9 hA2_o9 hB2_o9
              obtain ⟨Xb, hX⟩ : ∃ x, x = wD.heap.size := ⟨_, rfl⟩
              rw [← hX] at RX ⊢
              have hX1 : Xb ≤ wD.heap.size := Nat.le_of_eq hX
              have hX2 : wD.heap.size ≤ Xb := Nat.le_of_eq hX.symm
              clear hX
              have lX : Xb < ((wD.alloc (.cells #[.int .i64 0, .int .i64 0, .int .i64 0, .int .i64 0, .int .i64 0, .int .i64 0, .slice none 0 0, .slice none 0 0, .int .i64 0] 31))).heap.size := RX.lt (by simp)
              (try simp at zs2 zn l_RA l_hA l_hB)
              generalize (wD.alloc (.cells #[.int .i64 0, .int .i64 0, .int .i64 0, .int .i64 0, .int .i64 0, .int .i64 0, .slice none 0 0, .slice none 0 0, .int .i64 0] 31)) = wX at kvo9 RX hC hD lX zn ⊢
              try dsimp only
              refine hK.out _ _ kvo9 ?_; clear hK K hHeld; intro hHeld; try simp only [Act.put, List.setIfInBounds_toArray, List.set_cons_zero, List.set_cons_succ]
              refine Tk.R 9 none (.store 31 (.tmp 12) (.tmp 62)) 0 none (fun K hK => ?_)
              have d0 := RX.cell 0 rfl
              have d1 := RX.cell 1 rfl
              have d2 := RX.cell 2 rfl
              have d3 := RX.cell 3 rfl
              have d4 := RX.cell 4 rfl
              have d5 := RX.cell 5 rfl
              have d6 := RX.cell 6 rfl
              have d7 := RX.cell 7 rfl
              have d8 := RX.cell 8 rfl
              have f0 := RX.froz 0 rfl
              have f1 := RX.froz 1 rfl
              have f2 := RX.froz 2 rfl
              have f3 := RX.froz 3 rfl
              have f4 := RX.froz 4 rfl
              have f5 := RX.froz 5 rfl
              have f6 := RX.froz 6 rfl
              have f7 := RX.froz 7 rfl
              have f8 := RX.froz 8 rfl
              go_simp
              clear d0 f0 d1 f1 d2 f2 d3 f3 d4 f4 d5 f5 d6 f6 d7 f7 d8 f8
              obtain ⟨hb_o10, RA_o10, hA_o10, hB_o10⟩ := hHeld.2.2.2.2.2.2.2.2.2.out
              have hb2_o10 := hb_o10.trans ((Rm.belowOver9 _ Xb (.int .i64 (k : Int)) (.int .i64 f) (.int .i64 d) (.int .i64 r) (.int .i64 1000000) (.int .i64 s) (.slice (some ⟨gC, 0, none⟩) k cC) (.slice (some ⟨gD, 0, none⟩) k cD) (.int .i64 (c : Int))).mono (by omega))
              have RA2_o10 := Pl.room9o RA_o10 (q := Xb) (by omega) (.int .i64 (k : Int)) (.int .i64 f) (.int .i64 d) (.int .i64 r) (.int .i64 1000000) (.int .i64 s) (.slice (some ⟨gC, 0, none⟩) k cC) (.slice (some ⟨gD, 0, none⟩) k cD) (.int .i64 (c : Int))
              have hA2_o10 := Pl.has9 hA_o10 (q := Xb) (by omega) (.int .i64 (k : Int)) (.int .i64 f) (.int .i64 d) (.int .i64 r) (.int .i64 1000000) (.int .i64 s) (.slice (some ⟨gC, 0, none⟩) k cC) (.slice (some ⟨gD, 0, none⟩) k cD) (.int .i64 (c : Int))
              have hB2_o10 := Pl.has9 hB_o10 (q := Xb) (by omega) (.int .i64 (k : Int)) (.int .i64 f) (.int .i64 d) (.int .i64 r) (.int .i64 1000000) (.int .i64 s) (.slice (some ⟨gC, 0, none⟩) k cC) (.slice (some ⟨gD, 0, none⟩) k cD) (.int .i64 (c : Int))
              have kvo10 := Tk.kv hK (w := _) ⟨RA2_o10.cell 0 rfl, RA2_o10.cell 1 rfl, RA2_o10.cell 2 rfl, RA2_o10.cell 3 rfl, RA2_o10.cell 4 rfl, RA2_o10.cell 5 rfl, RA2_o10.cell 6 rfl, RA2_o10.cell 7 rfl, RA2_o10.cell 8 rfl, ⟨hb2_o10, RA2_o10, hA2_o10, hB2_o10⟩⟩
              replace RX := Rm.over9 RX (.int .i64 (k : Int)) (.int .i64 f) (.int .i64 d) (.int .i64 r) (.int .i64 1000000) (.int .i64 s) (.slice (some ⟨gC, 0, none⟩) k cC) (.slice (some ⟨gD, 0, none⟩) k cD) (.int .i64 (c : Int))
              replace hC := Pl.has9 hC (q := Xb) (by omega) (.int .i64 (k : Int)) (.int .i64 f) (.int .i64 d) (.int .i64 r) (.int .i64 1000000) (.int .i64 s) (.slice (some ⟨gC, 0, none⟩) k cC) (.slice (some ⟨gD, 0, none⟩) k cD) (.int .i64 (c : Int))
              replace hD := Pl.has9 hD (q := Xb) (by omega) (.int .i64 (k : Int)) (.int .i64 f) (.int .i64 d) (.int .i64 r) (.int .i64 1000000) (.int .i64 s) (.slice (some ⟨gC, 0, none⟩) k cC) (.slice (some ⟨gD, 0, none⟩) k cD) (.int .i64 (c : Int))
              clear hb_o10 RA_o10 hA_o10 hB_o10 hb2_o10 RA2_o10 hA2_o10 hB2_o10
              try dsimp only
              refine hK.out _ _ kvo10 ?_; clear hK K hHeld; intro hHeld; try simp only [Act.put, List.setIfInBounds_toArray, List.set_cons_zero, List.set_cons_succ]
              refine Tk.W 10 (some 13) (.assign (.tmp 63)) 2 none ?_
              refine wpAnyH_done (by kernel_rfl) ?_ _
              refine NoPanic.normal ?_
              obtain ⟨hb, -, -, -⟩ := hHeld.2.2.2.2.2.2.2.2.2.out
              clear hHeld
              go_wp2_with fail
              go_meet
              case rel => exact ⟨_, gC, cC, gD, cD, rfl, rfl, hb, RX, Pl.hasm hC (Nat.zero_le _), Pl.hasm hD (Nat.zero_le _), by omega⟩
            · go_simp
              have bo12 : Below wc.drew.heap.size wc.drew ((wc.alloc (.cells #[.int .i64 0, .int .i64 0, .int .i64 0, .int .i64 0, .int .i64 0, .int .i64 0, .slice none 0 0, .slice none 0 0, .int .i64 0] 31)).drew) := (Below.refl wc.drew.heap.size wc.drew).alloc (Nat.le_refl _) (.cells #[.int .i64 0, .int .i64 0, .int .i64 0, .int .i64 0, .int .i64 0, .int .i64 0, .slice none 0 0, .slice none 0 0, .int .i64 0] 31)
              have RX : Rm.Room ((wc.alloc (.cells #[.int .i64 0, .int .i64 0, .int .i64 0, .int .i64 0, .int .i64 0, .int .i64 0, .slice none 0 0, .slice none 0 0, .int .i64 0] 31)).drew) wc.heap.size [.int .i64 0, .int .i64 0, .int .i64 0, .int .i64 0, .int .i64 0, .int .i64 0, .slice none 0 0, .slice none 0 0, .int .i64 0] := Rm.Room.new wc.drew [.int .i64 0, .int .i64 0, .int .i64 0, .int .i64 0, .int .i64 0, .int .i64 0, .slice none 0 0, .slice none 0 0, .int .i64 0] 31
              obtain ⟨hb_o12, RA_o12, hA_o12, hB_o12⟩ := hHeld.2.2.2.2.2.2.2.2.2.out
              have zs2 := hb_o12.size
              have l_RA := RA_o12.lt (by simp)
              have l_hA := hA_o12.2.2.1
              have l_hB := hB_o12.2.2.1
              have hb2_o12 := hb_o12.trans (bo12.mono hb_o12.size)
              have RA2_o12 := RA_o12.below bo12
              have hA2_o12 := hA_o12.later bo12 hA_o12.2.2.1
              have hB2_o12 := hB_o12.later bo12 hB_o12.2.2.1
              have kvo12 := Tk.kv hK (w := ((wc.alloc (.cells #[.int .i64 0, .int .i64 0, .int .i64 0, .int .i64 0, .int .i64 0, .int .i64 0, .slice none 0 0, .slice none 0 0, .int .i64 0] 31)).drew)) ⟨RA2_o12.cell 0 rfl, RA2_o12.cell 1 rfl, RA2_o12.cell 2 rfl, RA2_o12.cell 3 rfl, RA2_o12.cell 4 rfl, RA2_o12.cell 5 rfl, RA2_o12.cell 6 rfl, RA2_o12.cell 7 rfl, RA2_o12.cell 8 rfl, ⟨hb2_o12, RA2_o12, hA2_o12, hB2_o12⟩⟩
              have zn := bo12.size
              clear bo12 hb_o12 RA_o12 hA_o12 hB_o12 hb2_o12 RA2_o12 hA2_o12 hB2_o12
              obtain ⟨Xb, hX⟩ : ∃ x, x = wc.heap.size := ⟨_, rfl⟩
              rw [← hX] at RX ⊢
              have hX1 : Xb ≤ wc.heap.size := Nat.le_of_eq hX
              have hX2 : wc.heap.size ≤ Xb := Nat.le_of_eq hX.symm
              clear hX
              have lX : Xb < ((wc.alloc (.cells #[.int .i64 0, .int .i64 0, .int .i64 0, .int .i64 0, .int .i64 0, .int .i64 0, .slice none 0 0, .slice none 0 0, .int .i64 0] 31)).drew).heap.size := RX.lt (by simp)
              (try simp at zs2 zn l_RA l_hA l_hB)
              generalize (wc.alloc (.cells #[.int .i64 0, .int .i64 0, .int .i64 0, .int .i64 0, .int .i64 0, .int .i64 0, .slice none 0 0, .slice none 0 0, .int .i64 0] 31)).drew = wX at kvo12 RX lX zn ⊢
              try dsimp only
              refine hK.out _ _ kvo12 ?_; clear hK K hHeld; intro hHeld; try simp only [Act.put, List.setIfInBounds_toArray, List.set_cons_zero, List.set_cons_succ]
              refine Tk.R 4 (some 61) (.call ⟨.value (.func 24), #[.tmp 57, .tmp 60], #[31, 45]⟩) 47 none (fun K hK => ?_)
              go_simp
              refine ((Pl.i_Played_yes (k : Int) f d r 1000000 s tq _ _ k cA k cB kq oq aT (c - q) (cap - q) (ts.drop q) _ hHeld.2.2.2.2.2.2.2.2.2.out.2.2.1.row hHeld.2.2.2.2.2.2.2.2.2.out.2.2.2.row hk hk (HT2.below hHeld.2.2.2.2.2.2.2.2.2.out.1) (by omega) (fun j hj => by rw [Pl.tt_drop]; exact HOk.out _ (by omega)) hwq.out (by omega))).mono ?_
              rintro e wD ⟨⟨gC, cC, gD, cD, rfl, hC, hD, hneb⟩, b_o13⟩
              rw [HC3b.out.1, HC3b.out.2] at hC hD ⊢
              obtain ⟨hb_o13, RA_o13, hA_o13, hB_o13⟩ := hHeld.2.2.2.2.2.2.2.2.2.out
              have zs_o13 := hb_o13.size
              have hb2_o13 := hb_o13.trans (b_o13.mono hb_o13.size)
              have RA2_o13 := RA_o13.below b_o13
              have hA2_o13 := hA_o13.later b_o13 hA_o13.2.2.1
              have hB2_o13 := hB_o13.later b_o13 hB_o13.2.2.1
              have kvo13 := Tk.kv hK (w := wD) ⟨RA2_o13.cell 0 rfl, RA2_o13.cell 1 rfl, RA2_o13.cell 2 rfl, RA2_o13.cell 3 rfl, RA2_o13.cell 4 rfl, RA2_o13.cell 5 rfl, RA2_o13.cell 6 rfl, RA2_o13.cell 7 rfl, RA2_o13.cell 8 rfl, ⟨hb2_o13, RA2_o13, hA2_o13, hB2_o13⟩⟩
              have qab := hC.2.1
              have qbb := hD.2.1
              have uab := hC.2.2.1
              have ubb := hD.2.2.1
              have zb := b_o13.size
              (try simp at qab qbb zs_o13 zb)
              replace RX := RX.below b_o13
              clear b_o13 hb_o13 RA_o13 hA_o13 hB_o13 hb2_o13 RA2_o13 hA2_o13 hB2_o13
              try dsimp only
              refine hK.out _ _ kvo13 ?_; clear hK K hHeld; intro hHeld; try simp only [Act.put, List.setIfInBounds_toArray, List.set_cons_zero, List.set_cons_succ]
              refine Tk.W 5 (some 56) (.move (.tmp 61)) 47 none ?_
              refine Tk.W 6 (some 62) (.extract (.tmp 56) 0) 31 none ?_
              refine Tk.W 7 (some 63) (.extract (.tmp 56) 1) 2 none ?_
              refine Tk.R 9 none (.store 31 (.tmp 12) (.tmp 62)) 0 none (fun K hK => ?_)
              have d0 := RX.cell 0 rfl
              have d1 := RX.cell 1 rfl
              have d2 := RX.cell 2 rfl
              have d3 := RX.cell 3 rfl
              have d4 := RX.cell 4 rfl
              have d5 := RX.cell 5 rfl
              have d6 := RX.cell 6 rfl
              have d7 := RX.cell 7 rfl
              have d8 := RX.cell 8 rfl
              have f0 := RX.froz 0 rfl
              have f1 := RX.froz 1 rfl
              have f2 := RX.froz 2 rfl
              have f3 := RX.froz 3 rfl
              have f4 := RX.froz 4 rfl
              have f5 := RX.froz 5 rfl
              have f6 := RX.froz 6 rfl
              have f7 := RX.froz 7 rfl
              have f8 := RX.froz 8 rfl
              go_simp
              clear d0 f0 d1 f1 d2 f2 d3 f3 d4 f4 d5 f5 d6 f6 d7 f7 d8 f8
              obtain ⟨hb_o17, RA_o17, hA_o17, hB_o17⟩ := hHeld.2.2.2.2.2.2.2.2.2.out
              have hb2_o17 := hb_o17.trans ((Rm.belowOver9 _ Xb (.int .i64 (k : Int)) (.int .i64 f) (.int .i64 d) (.int .i64 r) (.int .i64 1000000) (.int .i64 s) (.slice (some ⟨gC, 0, none⟩) k cC) (.slice (some ⟨gD, 0, none⟩) k cD) (.int .i64 (c : Int))).mono (by omega))
              have RA2_o17 := Pl.room9o RA_o17 (q := Xb) (by omega) (.int .i64 (k : Int)) (.int .i64 f) (.int .i64 d) (.int .i64 r) (.int .i64 1000000) (.int .i64 s) (.slice (some ⟨gC, 0, none⟩) k cC) (.slice (some ⟨gD, 0, none⟩) k cD) (.int .i64 (c : Int))
              have hA2_o17 := Pl.has9 hA_o17 (q := Xb) (by omega) (.int .i64 (k : Int)) (.int .i64 f) (.int .i64 d) (.int .i64 r) (.int .i64 1000000) (.int .i64 s) (.slice (some ⟨gC, 0, none⟩) k cC) (.slice (some ⟨gD, 0, none⟩) k cD) (.int .i64 (c : Int))
              have hB2_o17 := Pl.has9 hB_o17 (q := Xb) (by omega) (.int .i64 (k : Int)) (.int .i64 f) (.int .i64 d) (.int .i64 r) (.int .i64 1000000) (.int .i64 s) (.slice (some ⟨gC, 0, none⟩) k cC) (.slice (some ⟨gD, 0, none⟩) k cD) (.int .i64 (c : Int))
              have kvo17 := Tk.kv hK (w := _) ⟨RA2_o17.cell 0 rfl, RA2_o17.cell 1 rfl, RA2_o17.cell 2 rfl, RA2_o17.cell 3 rfl, RA2_o17.cell 4 rfl, RA2_o17.cell 5 rfl, RA2_o17.cell 6 rfl, RA2_o17.cell 7 rfl, RA2_o17.cell 8 rfl, ⟨hb2_o17, RA2_o17, hA2_o17, hB2_o17⟩⟩
              replace RX := Rm.over9 RX (.int .i64 (k : Int)) (.int .i64 f) (.int .i64 d) (.int .i64 r) (.int .i64 1000000) (.int .i64 s) (.slice (some ⟨gC, 0, none⟩) k cC) (.slice (some ⟨gD, 0, none⟩) k cD) (.int .i64 (c : Int))
              replace hC := Pl.has9 hC (q := Xb) (by omega) (.int .i64 (k : Int)) (.int .i64 f) (.int .i64 d) (.int .i64 r) (.int .i64 1000000) (.int .i64 s) (.slice (some ⟨gC, 0, none⟩) k cC) (.slice (some ⟨gD, 0, none⟩) k cD) (.int .i64 (c : Int))
              replace hD := Pl.has9 hD (q := Xb) (by omega) (.int .i64 (k : Int)) (.int .i64 f) (.int .i64 d) (.int .i64 r) (.int .i64 1000000) (.int .i64 s) (.slice (some ⟨gC, 0, none⟩) k cC) (.slice (some ⟨gD, 0, none⟩) k cD) (.int .i64 (c : Int))
              clear hb_o17 RA_o17 hA_o17 hB_o17 hb2_o17 RA2_o17 hA2_o17 hB2_o17
              try dsimp only
              refine hK.out _ _ kvo17 ?_; clear hK K hHeld; intro hHeld; try simp only [Act.put, List.setIfInBounds_toArray, List.set_cons_zero, List.set_cons_succ]
              refine Tk.W 10 (some 13) (.assign (.tmp 63)) 2 none ?_
              refine wpAnyH_done (by kernel_rfl) ?_ _
              refine NoPanic.normal ?_
              obtain ⟨hb, -, -, -⟩ := hHeld.2.2.2.2.2.2.2.2.2.out
              clear hHeld
              go_wp2_with fail
              go_meet
              case rel => exact ⟨_, gC, cC, gD, cD, rfl, rfl, hb, RX, Pl.hasm hC (Nat.zero_le _), Pl.hasm hD (Nat.zero_le _), by omega⟩
          case rest =>
            clear hb RA hA hB
            obtain ⟨Xb, gC, cC, gD, cD, rfl, rfl, HX⟩ := hcut
            obtain ⟨hb, RB, hC, hD, hXb⟩ := HX.out
            clear HX
            have uC := hC.2.2.1
            have uD := hD.2.2.1
            have cw0 := (NV.below hb).R.cell 0 rfl
            have cw1 := (NV.below hb).R.cell 1 rfl
            have cw2 := (NV.below hb).R.cell 2 rfl
            have cw3 := (NV.below hb).R.cell 3 rfl
            have cw4 := (NV.below hb).R.cell 4 rfl
            have cw5 := (NV.below hb).R.cell 5 rfl
            have cw6 := (NV.below hb).R.cell 6 rfl
            have cw7 := (NV.below hb).R.cell 7 rfl
            have cw8 := (NV.below hb).R.cell 8 rfl
            go_wp2_with fail
            refine (Pl.i_Played_yes (k : Int) f d r 1000000 s 0 _ _ k cK k cO ks os (some ⟨g, 0, none⟩) c cap ts _ (NV.below hb).K.row (NV.below hb).O.row hk hk (HT.below hb) (by omega) HOk.out hwo0.out (by omega)).mono ?_
            rintro e wD ⟨⟨gE, cE, gF, cF, rfl, hE, hF, hneF⟩, b9⟩
            rw [HC3.out.2.2, HSTc.out] at hE hF ⊢
            have qE := hE.2.1
            have uE := hE.2.2.1
            have uF := hF.2.2.1
            clear cw0 cw1 cw2 cw3 cw4 cw5 cw6 cw7 cw8
            have zb9 := hb.size
            replace RB := RB.below b9
            replace hC := hC.later b9 uC
            replace hD := hD.later b9 uD
            replace hb := hb.trans (b9.mono hb.size)
            clear b9
            have lB := RB.lt (by simp)
            have v1 : IntKind.i64.wrap ((c : Int) - (q : Int)) = ((c - q : Nat) : Int) := by rw [IntKind.wrap_i64]; omega
            have cx0 := RB.cell 0 rfl
            have cx1 := RB.cell 1 rfl
            have cx2 := RB.cell 2 rfl
            have cx3 := RB.cell 3 rfl
            have cx4 := RB.cell 4 rfl
            have cx5 := RB.cell 5 rfl
            have cx6 := RB.cell 6 rfl
            have cx7 := RB.cell 7 rfl
            have cx8 := RB.cell 8 rfl
            go_wp2_with fail
            clear cx0 cx1 cx2 cx3 cx4 cx5 cx6 cx7 cx8
            have b10 : Below wD.heap.size wD (wD.alloc (.cells #[.int .i64 (k : Int), .int .i64 f, .int .i64 d, .int .i64 r, .int .i64 1000000, .int .i64 s, .slice (some ⟨gE, 0, none⟩) k cE, .slice (some ⟨gF, 0, none⟩) k cF, .int .i64 (c : Int)] 31)) := (Below.refl _ wD).alloc (Nat.le_refl _) _
            have RY := Rm.Room.new wD [.int .i64 (k : Int), .int .i64 f, .int .i64 d, .int .i64 r, .int .i64 1000000, .int .i64 s, .slice (some ⟨gE, 0, none⟩) k cE, .slice (some ⟨gF, 0, none⟩) k cF, .int .i64 (c : Int)] 31
            replace RB := RB.below b10
            replace hC := hC.later b10 hC.2.2.1
            replace hD := hD.later b10 hD.2.2.1
            replace hE := hE.later b10 uE
            replace hF := hF.later b10 uF
            replace hb := hb.trans (b10.mono hb.size)
            clear b10
            generalize (wD.alloc (.cells #[.int .i64 (k : Int), .int .i64 f, .int .i64 d, .int .i64 r, .int .i64 1000000, .int .i64 s, .slice (some ⟨gE, 0, none⟩) k cE, .slice (some ⟨gF, 0, none⟩) k cF, .int .i64 (c : Int)] 31)) = w10 at RB RY hC hD hE hF hb ⊢
            refine (Wl.likeWorld (k : Int) f d r 1000000 s (c : Int) _ _ _ _ k _ k _ _ _ ks' os' _ hC.row hE.row hD.row hF.row hk hk).mono ?_
            rintro e w11 ⟨rfl, b11⟩
            replace RY := RY.below b11
            replace hE := hE.later b11 hE.2.2.1
            replace hF := hF.later b11 hF.2.2.1
            replace hb := hb.trans (b11.mono hb.size)
            clear b11 RB hC hD
            have NX := NW.below hb
            have cy0 := RY.cell 0 rfl
            have cy1 := RY.cell 1 rfl
            have cy2 := RY.cell 2 rfl
            have cy3 := RY.cell 3 rfl
            have cy4 := RY.cell 4 rfl
            have cy5 := RY.cell 5 rfl
            have cy6 := RY.cell 6 rfl
            have cy7 := RY.cell 7 rfl
            have cy8 := RY.cell 8 rfl
            have cw0 := NX.R.cell 0 rfl
            have cw1 := NX.R.cell 1 rfl
            have cw2 := NX.R.cell 2 rfl
            have cw3 := NX.R.cell 3 rfl
            have cw4 := NX.R.cell 4 rfl
            have cw5 := NX.R.cell 5 rfl
            have cw6 := NX.R.cell 6 rfl
            have cw7 := NX.R.cell 7 rfl
            have cw8 := NX.R.cell 8 rfl
            go_wp2_with fail
            refine (Wl.likeWorld (k : Int) f d r 1000000 s (c : Int) _ _ _ _ k _ k _ _ _ ks' os' _ hE.row NX.K.row hF.row NX.O.row hk hk).mono ?_
            rintro e w12 ⟨rfl, b12⟩
            go_wp2
            go_ret
            exact ⟨rfl, NX.st.step.fresh (Nat.le_refl _) |>.trans (b12.mono (by have := NX.st.step.size; omega))⟩
  · go_enter Try.func4, Try.ntmps4
    go_wp2_with (go_at_call 12; refine (great a0 len0 cap0 hl _).mono ?_; rintro e w' ⟨rfl, rfl⟩)
    go_ret
    exact ⟨rfl, Below.refl _ _⟩

/-! The row. -/
set_option maxRecDepth 100000 in
theorem lifted (os : Os) (started : os.Started) (H : Type) (enc : TypeId × Value → H) :
    ReturnsInHanded {} Try.checked os 4 .any (Rows.fnPlayedSpec.pre6 enc Try.prog Try.f4 Rows.fnPlayedRow.domain false) (Rows.fnPlayedSpec.post enc Try.prog Try.f4 false true false false) := by
  refine returnsInHanded_of_change (C := Try.checked) own started (by kernel_rfl) Try.func4
    (ChangeSpec.witness6 (enc := enc) (C := Try.checked) false ⟨#[], #[.slice none 0 0], []⟩ 8 (by kernel_rfl) (by kernel_rfl) (by kernel_rfl) (by kernel_rfl)) ?_
  intro W base args ds gs before hval0 hW hcnd _
  have hval : ∀ (j : Nat) t v, Try.f4.params[j]? = some t → args[j]? = some v → Value.okWide Try.prog W .any base t v := hval0
  have hW' := hW
  obtain ⟨p, q, hA0, hV, rfl, hfz, hnd⟩ := hW
  have hA : DataW.TrodAll enc Try.prog W 0 (fun _ => true) true Try.f4.params.toList args.toList ds p := hA0
  rw [Try.params4] at hA hval
  obtain ⟨v0, vs0, d0, ds0, p0, q0, hargs, rfl, rfl, h0, r0⟩ := trodAll_cons hA
  obtain ⟨rfl, rfl, rfl⟩ := trodAll_nil r0
  obtain rfl : args = #[v0] := by cases args; simp_all
  obtain ⟨rfl, rfl⟩ := trodVars_none hV
  obtain ⟨a0, len0, cap0, rfl⟩ := okWide_slice Try.underlying22 (hval 0 22 v0 rfl rfl)
  have k0 := h0
  have lt0 : ∀ x ∈ p0, x.block < W.heap.size := by obtain ⟨m, hm⟩ := k0; exact DataW.trod_lt m _ _ _ hm
  obtain ⟨z0, w0⟩ : ∃ zs, IsRow .u8 W a0 len0 cap0 zs := by
    obtain ⟨fuel, hf⟩ := h0
    rcases open_ints Try.underlying22 Try.underlying5 (by kernel_rfl) hf with ⟨hcs, _⟩ | ⟨x, l, c, zs, hcs, _, hl, hm, hz, _, hcell, hwz⟩
    · simp [Value.cells] at hcs
      obtain ⟨rfl, rfl, rfl⟩ := hcs
      exact ⟨[], .inl ⟨rfl, rfl, rfl, rfl⟩⟩
    · simp [Value.cells] at hcs
      obtain ⟨rfl, rfl, rfl⟩ := hcs
      exact ⟨zs, .inr ⟨_, rfl, hl, hm, by simpa using hz, hcell, hwz⟩⟩
  clear hA0 hval0
  refine (walk a0 len0 cap0 z0 W w0).mono fun e W' ⟨he, bel⟩ => ?_
  subst he
  exact ⟨_, rfl, _, _, _, [], _, [], hW', trodAll_mk1 (shut_bool Try.underlying4 _), (trodAll_cons_mk (Below.trod laidOut (by kernel_rfl) (of_decide_eq_true (by kernel_rfl)) k0 bel lt0) trodAll_mk0), rfl, bel.frame _, fun h => by cases h⟩

theorem over : Rows.fnPlayedRow.holds Try.pinned (OpenSpec.ofChange Rows.fnPlayedSpec) :=
  OpenClaim.holds_of_wide 4 Try.f4 rfl rfl rfl rfl rfl rfl rfl ⟨rfl, rfl, rfl, rfl, rfl⟩ rfl rfl rfl rfl rfl (by kernel_rfl) Try.func4 (by kernel_rfl)
    (of_decide_eq_true (by kernel_rfl)) (by unfold Func.isWrapper; first | (rw [if_pos (by decide +kernel)]; kernel_rfl) | (rw [if_neg (by decide +kernel)]; exact ⟨rfl, rfl⟩))
    (fun os started H enc _ => lifted os started H enc)

end Go.Proofs.Ytloicicgcdfgnaa.fnPlayed

namespace Go.Proofs.Ytloicicgcdfgnaa
/-- The given statement. -/
theorem fnPlayed_holds : Rows.FnPlayedSaid := fnPlayed.over
#print axioms fnPlayed_holds
end Go.Proofs.Ytloicicgcdfgnaa
