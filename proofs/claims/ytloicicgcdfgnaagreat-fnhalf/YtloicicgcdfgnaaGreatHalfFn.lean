/-
  FnHalf: for every code of bytes handed in, through six right turns that are rolled in a world that is rolled, impl and spec turn alike, and behind each turn those that are up are apart by at most half of what they were in its middle, twice Err and 1; the call returns true, and nothing that was there ahead of it is written.
-/
import Derived.Test.YtloicicgcdfgnaaGreatRows
import Derived.WalkKit
import Derived.ProofKit
import Derived.OpenShut
import Derived.ShutString
import Derived.ChangeOld
import Derived.Below
import Derived.Test.YtloicicgcdfgnaaGreatNearAll
import Derived.Test.YtloicicgcdfgnaaGreatTk
namespace Go.Proofs.YtloicicgcdfgnaaGreat.fnHalf
open Go.ChangeShapes Go.WideShapes Go.ChangeAt Go.RowKit
open Go.ChangeMaps (open_string shut_string)
set_option linter.unusedVariables false
set_option linter.unusedSimpArgs false

theorem own : ownKnob Tryz.prog.godebug = none := by kernel_rfl
theorem laidOut : laidOutB Tryz.prog = true := by kernel_rfl

/-- WHAT THE WALK IS TOLD OF A SLICE OF INTEGERS THAT CAME IN: it is nil; or it leads to a row of 'cap' cells, the numbers 'zs' (the first 'len' are its elements, the rest its spare room), each fitting its kind. -/
def IsRow (k : IntKind) (w : World) (a : Option Addr) (len cap : Nat) (zs : List Int) : Prop :=
  (a = none ∧ len = 0 ∧ cap = 0 ∧ zs = []) ∨
  ∃ x, a = some x ∧ len ≤ cap ∧ cap ≤ maxLen ∧ zs.length = cap ∧ (∀ i, i < zs.length → w.cell? (x.add i) = some (.int k (zs.getD i 0))) ∧ ∀ n ∈ zs, (Lit.int k n).wf = true

theorem code_of {w : World} {a : Option Addr} {len cap : Nat} {zs : List Int} (h : IsRow .u8 w a len cap zs) (hl : len ≤ 4096) : Dr.Code w w.heap.size a len := by
  refine ⟨hl, ?_⟩
  rcases h with ⟨_, h, _, _⟩ | ⟨x, rfl, h1, h2, h3, h4, h5⟩
  · exact .inl h
  · by_cases h0 : len = 0
    · exact .inl h0
    · obtain ⟨b, off, spot⟩ := x
      have hc := h4 0 (by omega)
      have hs : spot = none := by simpa [Addr.add] using World.cell?_spot hc
      subst hs
      have hb := World.block_lt_of_cell? _ _ hc
      refine .inr ⟨b, off, rfl, by simpa [Addr.add] using hb, fun k hk => ⟨zs.getD k 0, ?_, ?_⟩⟩
      · have hk4 := h4 k (by omega)
        by_cases hk0 : k = 0
        · subst hk0; simpa [Addr.add] using hk4
        · simpa [Addr.add, hk0] using hk4
      · have e : zs.getD k 0 = zs[k]'(by omega) := by simp [List.getD, show k < zs.length by omega]
        refine bounds_u8 (h5 _ ?_)
        rw [e]
        exact List.getElem_mem _

theorem small (a : Option Addr) (len cap : Nat) (h : len ≤ 4096) (w : World) : Calls Tryz.prog 6 #[.slice a len cap] w fun e w' => e = .returned (.bool false) ∧ w' = w := by
  have h' : ¬ (4096 : Int) < len := by omega
  go_enter Tryz.func6, Tryz.ntmps6
  go_wp2
  go_ret
  exact ⟨rfl, rfl⟩

theorem great (a : Option Addr) (len cap : Nat) (h : ¬ len ≤ 4096) (w : World) : Calls Tryz.prog 6 #[.slice a len cap] w fun e w' => e = .returned (.bool true) ∧ w' = w := by
  have h' : (4096 : Int) < len := by omega
  go_enter Tryz.func6, Tryz.ntmps6
  go_wp2
  go_ret
  exact ⟨rfl, rfl⟩

/-! The walk. -/
set_option maxHeartbeats 20000000 in
set_option maxRecDepth 100000 in
theorem walk (a0 : Option Addr) (len0 cap0 : Nat) (z0 : List Int) (w : World) (w0 : IsRow .u8 w a0 len0 cap0 z0) :
    Calls Tryz.prog 3 #[.slice a0 len0 cap0] w fun e w' => e = .returned (.bool true) ∧ Below w.heap.size w w' := by
  by_cases hl : len0 ≤ 4096
  · have code := code_of w0 hl
    clear w0
    go_enter Tryz.func3, Tryz.ntmps3
    go_wp2_with fail
    refine (small a0 len0 cap0 hl _).mono ?_
    rintro e w ⟨rfl, rfl⟩
    go_wp2_with fail
    refine (Di.roll w.heap.size a0 len0 cap0 2 w (Nat.le_refl _) code).mono ?_
    rintro e wa ⟨rfl, sta⟩
    go_wp2_with fail
    refine (Di.below w w.heap.size w.heap.size a0 len0 cap0 400 (by omega) (by omega) wa sta).mono ?_
    rintro e w1 ⟨⟨x, rfl, x0, x1⟩, st1⟩
    have z1 := st1.lt
    go_wp2_with fail
    clear sta
    refine (Lw.world w.heap.size w.heap.size a0 len0 cap0 (1 + x) (by omega) (by omega) w w1 st1).mono ?_
    rintro e w2 ⟨⟨f, d, r, s, k, gK, cK, gO, cO, rfl, ks, os, hK, hO, hne, hW⟩, st2, sp2⟩
    obtain ⟨far, efar⟩ : ∃ y, y = 1 + x := ⟨_, rfl⟩
    rw [← efar] at hW
    have hf0 : 0 ≤ far := by omega
    have hf1 : far ≤ 400 := by omega
    clear efar x0 x1
    have z2 := sp2.size
    have b3 : Below w2.heap.size w2 (w2.alloc (.cells #[.int .i64 k, .int .i64 f, .int .i64 d, .int .i64 r, .int .i64 1000000, .int .i64 s, .slice (some ⟨gK, 0, none⟩) k cK, .slice (some ⟨gO, 0, none⟩) k cO, .int .i64 0] 31)) := (Below.refl _ w2).alloc (Nat.le_refl _) _
    have NW : Lw.Nw w w.heap.size w.heap.size a0 len0 cap0 w2.heap.size k f d r s 0 gK cK gO cO ks os (w2.alloc (.cells #[.int .i64 k, .int .i64 f, .int .i64 d, .int .i64 r, .int .i64 1000000, .int .i64 s, .slice (some ⟨gK, 0, none⟩) k cK, .slice (some ⟨gO, 0, none⟩) k cO, .int .i64 0] 31)) := by
      have q1 := hK.2.1
      have q2 := hK.2.2.1
      have q3 := hO.2.1
      have q4 := hO.2.2.1
      exact ⟨st2.below b3, Rm.Room.new w2 [.int .i64 k, .int .i64 f, .int .i64 d, .int .i64 r, .int .i64 1000000, .int .i64 s, .slice (some ⟨gK, 0, none⟩) k cK, .slice (some ⟨gO, 0, none⟩) k cO, .int .i64 0] 31, (Lw.has_mono hK (Nat.zero_le _)).later b3 q2, (Lw.has_mono hO (Nat.zero_le _)).later b3 q4, ⟨by omega, by omega⟩, by omega, by omega, by omega, by omega, by omega⟩
    have hk0 := hW.pos
    have hk8 := hW.k8
    have hk : k ≤ 1048576 := by omega
    clear hK hO hne st1 st2 sp2 b3 code
    have HW : Hid (Lw.RW (far + 22 * ((0 : Nat) : Int)) f d r s k ks os) := by unfold Hid; rw [show far + 22 * ((0 : Nat) : Int) = far by omega]; exact hW
    have hd0 := hW.d0
    have hd1 := hW.d1
    have hr0 := hW.r0
    have hr1 := hW.r1
    have hk16 : k ≤ 16 := by omega
    clear hW
    go_wp2_with fail
    generalize (w2.alloc (.cells #[.int .i64 k, .int .i64 f, .int .i64 d, .int .i64 r, .int .i64 1000000, .int .i64 s, .slice (some ⟨gK, 0, none⟩) k cK, .slice (some ⟨gO, 0, none⟩) k cO, .int .i64 0] 31)) = w3 at NW ⊢
    go_loopw [5] (fun iv wr => ∃ (i gK cK gO cO : Nat) (ks os : List Int), i ≤ 6 ∧ iv = .int .i64 i ∧ Lw.Nw w w.heap.size w.heap.size a0 len0 cap0 w2.heap.size k f d r s (i : Int) gK cK gO cO ks os wr ∧ Hid (Lw.RW (far + 22 * (i : Int)) f d r s k ks os)) (fun iv _ => 6 - (intOf iv).toNat)
    case atStart => exact ⟨0, gK, cK, gO, cO, ks, os, Nat.zero_le _, rfl, NW, HW⟩
    case round =>
      clear NW HW
      obtain ⟨i, gK, cK, gO, cO, ks, os, hi, rfl, NW, HW⟩ := hrel
      by_cases hlt : i < 6
      · have hi2 : (i : Int) < 6 := by omega
        have hW := HW.out
        have cw0 := NW.R.cell 0 rfl
        have cw1 := NW.R.cell 1 rfl
        have cw2 := NW.R.cell 2 rfl
        have cw3 := NW.R.cell 3 rfl
        have cw4 := NW.R.cell 4 rfl
        have cw5 := NW.R.cell 5 rfl
        have cw6 := NW.R.cell 6 rfl
        have cw7 := NW.R.cell 7 rfl
        have cw8 := NW.R.cell 8 rfl
        go_wp2_with fail
        refine (Lw.turn w.heap.size w.heap.size a0 len0 cap0 (k : Int) f d r 1000000 s (i : Int) _ gK k cK (some ⟨gO, 0, none⟩) k cO ks w _ NW.st NW.K NW.x.2.2.1 hd0 (by omega) hr0 (by omega) hk16 hW.bad).mono ?_
        rintro e w4 ⟨⟨gD, cD, gF, gR, cE, cL, aE, aL, rfl, ds, es, ls, fs, rs, ⟨HD, HE, HL, HF, HG⟩, hR⟩, st4, sp4⟩
        clear cw0 cw1 cw2 cw3 cw4 cw5 cw6 cw7 cw8
        replace NW := NW.step st4 sp4
        obtain ⟨gE, cE, eE, hgE, rE⟩ := HE.rows hk0
        cases eE
        obtain ⟨gL, cL, eL, hgL, rL⟩ := HL.rows hk0
        cases eL
        have b5 : Below w4.heap.size w4 (w4.alloc (.cells #[.slice (some ⟨gD, 0, none⟩) k cD, .slice (some ⟨gE, 0, none⟩) k cE, .slice (some ⟨gL, 0, none⟩) k cL, .slice (some ⟨gF, 0, none⟩) k k, .slice (some ⟨gR, 0, none⟩) k k] 37)) := (Below.refl _ w4).alloc (Nat.le_refl _) _
        have NT : Lw.Nt w4.heap.size k gD cD gE cE gL cL gF gR ds es ls fs rs (w4.alloc (.cells #[.slice (some ⟨gD, 0, none⟩) k cD, .slice (some ⟨gE, 0, none⟩) k cE, .slice (some ⟨gL, 0, none⟩) k cL, .slice (some ⟨gF, 0, none⟩) k k, .slice (some ⟨gR, 0, none⟩) k k] 37)) := ⟨Rm.Room.new w4 [.slice (some ⟨gD, 0, none⟩) k cD, .slice (some ⟨gE, 0, none⟩) k cE, .slice (some ⟨gL, 0, none⟩) k cL, .slice (some ⟨gF, 0, none⟩) k k, .slice (some ⟨gR, 0, none⟩) k k] 37, (HD.has.row.later b5 (Nat.le_refl _)).more b5.size, (rE.later b5 (Nat.le_refl _)).more b5.size, (rL.later b5 (Nat.le_refl _)).more b5.size, (HF.row.later b5 (Nat.le_refl _)).more b5.size, (HG.row.later b5 (Nat.le_refl _)).more b5.size⟩
        have hX4 := NW.lt
        have cw0 := NW.R.cell 0 rfl
        have cw1 := NW.R.cell 1 rfl
        have cw2 := NW.R.cell 2 rfl
        have cw3 := NW.R.cell 3 rfl
        have cw4 := NW.R.cell 4 rfl
        have cw5 := NW.R.cell 5 rfl
        have cw6 := NW.R.cell 6 rfl
        have cw7 := NW.R.cell 7 rfl
        have cw8 := NW.R.cell 8 rfl
        clear HD HE HL HF HG rE rL st4 sp4 hgE hgL
        have hf6 : (far + 22 * (i : Int)) ≤ 1000000 := by omega
        have t0 : (0 : Int) ≤ i := by omega
        have t1 : (i : Int) < 1000000 := by omega
        obtain ⟨h0M, hM2, h0K, hKM⟩ := hW.half hR hf6 t0 t1
        have HW2 : Hid (Lw.RW (far + 22 * ((i + 1 : Nat) : Int)) f d r s k (Tu.TK (k : Int) f d r 1000000 s ks k os k (i : Int) ds es ls fs rs k k) (Tu.TF (k : Int) f d r 1000000 s ks k os k (i : Int) ds es ls fs rs k k)) := by have := hW.turned hR (hW.to hR hf6 t0 t1); rwa [show far + 22 * (i : Int) + 22 = far + 22 * ((i + 1 : Nat) : Int) by omega] at this
        obtain ⟨M, EM⟩ : ∃ M, Tu.MS (k : Int) f d r 1000000 s ks k os k (i : Int) ds es ls fs rs k k = M := ⟨_, rfl⟩
        rw [EM] at h0M hM2 hKM
        have HM : Hid (_ = M) := EM
        clear EM
        obtain ⟨KK, EK⟩ : ∃ x, Tu.TK (k : Int) f d r 1000000 s ks k os k (i : Int) ds es ls fs rs k k = x := ⟨_, rfl⟩
        obtain ⟨OO, EO⟩ : ∃ x, Tu.TF (k : Int) f d r 1000000 s ks k os k (i : Int) ds es ls fs rs k k = x := ⟨_, rfl⟩
        rw [EK, EO] at h0K hKM HW2
        have HEK : Hid (_ = KK) := EK
        have HEO : Hid (_ = OO) := EO
        clear EK EO
        obtain ⟨K, EKs⟩ : ∃ x, Wl.SK (k : Int) f d r 1000000 s KK k OO k ((i : Int) + 1) = x := ⟨_, rfl⟩
        rw [EKs] at h0K hKM
        have HK : Hid (_ = K) := EKs
        clear EKs
        obtain ⟨U, eU⟩ : ∃ x, x = M / 2 := ⟨_, rfl⟩
        obtain ⟨P2, eP2⟩ : ∃ x, x = 2 * r := ⟨_, rfl⟩
        obtain ⟨V, eV⟩ : ∃ x, x = U + P2 := ⟨_, rfl⟩
        obtain ⟨V1, eV1⟩ : ∃ x, x = V + 1 := ⟨_, rfl⟩
        have v1 : M.tdiv 2 = U := by rw [Int.tdiv_eq_ediv_of_nonneg h0M, eU]
        have v1b : IntKind.i64.wrap U = U := by rw [IntKind.wrap_i64]; omega
        have v2 : IntKind.i64.wrap (2 * r) = P2 := by rw [IntKind.wrap_i64]; omega
        have v3 : IntKind.i64.wrap (U + P2) = V := by rw [IntKind.wrap_i64]; omega
        have v4 : IntKind.i64.wrap (V + 1) = V1 := by rw [IntKind.wrap_i64]; omega
        have d1 : decide (V1 < K) = false := decide_eq_false (by omega)
        have d2 : decide (K < 0) = false := decide_eq_false (by omega)
        clear h0M hM2 h0K hKM eU eP2 eV eV1
        have HV : Hid (M.tdiv 2 = U ∧ IntKind.i64.wrap U = U ∧ IntKind.i64.wrap (2 * r) = P2 ∧ IntKind.i64.wrap (U + P2) = V ∧ IntKind.i64.wrap (V + 1) = V1) := ⟨v1, v1b, v2, v3, v4⟩
        clear v1 v1b v2 v3 v4
        go_wp2_with fail
        clear cw0 cw1 cw2 cw3 cw4 cw5 cw6 cw7 cw8
        replace NW := NW.below b5
        clear b5
        generalize (w4.alloc (.cells #[.slice (some ⟨gD, 0, none⟩) k cD, .slice (some ⟨gE, 0, none⟩) k cE, .slice (some ⟨gL, 0, none⟩) k cL, .slice (some ⟨gF, 0, none⟩) k k, .slice (some ⟨gR, 0, none⟩) k k] 37)) = wT at NW NT ⊢
        refine (Lw.i_mid NW NT hW hR).mono ?_
        rintro e w5 ⟨rfl, b5⟩
        rw [HM.out]
        replace NW := NW.below b5
        replace NT := NT.below b5
        clear b5
        have cw0 := NW.R.cell 0 rfl
        have cw1 := NW.R.cell 1 rfl
        have cw2 := NW.R.cell 2 rfl
        have cw3 := NW.R.cell 3 rfl
        have cw4 := NW.R.cell 4 rfl
        have cw5 := NW.R.cell 5 rfl
        have cw6 := NW.R.cell 6 rfl
        have cw7 := NW.R.cell 7 rfl
        have cw8 := NW.R.cell 8 rfl
        have ct0 := NT.R.cell 0 rfl
        have ct1 := NT.R.cell 1 rfl
        have ct2 := NT.R.cell 2 rfl
        have ct3 := NT.R.cell 3 rfl
        have ct4 := NT.R.cell 4 rfl
        go_wp2_with fail
        refine (Lw.i_trn NW NT hW hR hf6 t0 t1).mono ?_
        rintro e w6 ⟨⟨gK', cK', gO', cO', rfl, hK', hO', hne'⟩, b6⟩
        rw [HEK.out] at hK'
        rw [HEO.out] at hO'
        clear cw0 cw1 cw2 cw3 cw4 cw5 cw6 cw7 cw8
        clear ct0 ct1 ct2 ct3 ct4
        have gq : (w2.heap.size ≠ gK' ∧ w2.heap.size ≠ gO') ∧ w.heap.size ≠ gK' ∧ w.heap.size ≠ gO' := by have q1 := hK'.2.1; have q3 := hO'.2.1; have hXl := NW.lt; have hpl := NW.st.lt; omega
        replace NW := NW.below b6
        replace NT := NT.below b6
        clear b6
        have cw0 := NW.R.cell 0 rfl
        have cw1 := NW.R.cell 1 rfl
        have cw2 := NW.R.cell 2 rfl
        have cw3 := NW.R.cell 3 rfl
        have cw4 := NW.R.cell 4 rfl
        have cw5 := NW.R.cell 5 rfl
        have cw6 := NW.R.cell 6 rfl
        have cw7 := NW.R.cell 7 rfl
        have cw8 := NW.R.cell 8 rfl
        have ct0 := NT.R.cell 0 rfl
        have ct1 := NT.R.cell 1 rfl
        have ct2 := NT.R.cell 2 rfl
        have ct3 := NT.R.cell 3 rfl
        have ct4 := NT.R.cell 4 rfl
        have hX6 := NW.lt
        have hY6 := NT.R.lt (by simp)
        go_wp2_with fail
        clear cw0 cw1 cw2 cw3 cw4 cw5 cw6 cw7 cw8
        clear ct0 ct1 ct2 ct3 ct4
        have NV : Lw.Nv w6.heap.size k f d r s ((i : Int) + 1) gK' cK' gO' cO' KK OO (w6.alloc (.cells #[.int .i64 k, .int .i64 f, .int .i64 d, .int .i64 r, .int .i64 1000000, .int .i64 s, .slice (some ⟨gK', 0, none⟩) k cK', .slice (some ⟨gO', 0, none⟩) k cO', .int .i64 ((i : Int) + 1)] 31)) := Lw.Nv.make hK' hO' 31
        have b7 : Below w6.heap.size w6 (w6.alloc (.cells #[.int .i64 k, .int .i64 f, .int .i64 d, .int .i64 r, .int .i64 1000000, .int .i64 s, .slice (some ⟨gK', 0, none⟩) k cK', .slice (some ⟨gO', 0, none⟩) k cO', .int .i64 ((i : Int) + 1)] 31)) := (Below.refl _ w6).alloc (Nat.le_refl _) _
        replace NW := NW.below b7
        replace NT := NT.below b7
        clear b7 hK' hO' hne'
        generalize (w6.alloc (.cells #[.int .i64 k, .int .i64 f, .int .i64 d, .int .i64 r, .int .i64 1000000, .int .i64 s, .slice (some ⟨gK', 0, none⟩) k cK', .slice (some ⟨gO', 0, none⟩) k cO', .int .i64 ((i : Int) + 1)] 31)) = w7 at NW NT NV ⊢
        refine (Lw.s_trn NW NT hW hR hf6 t0 t1).mono ?_
        rintro e w8 ⟨⟨gA, cA, gB, cB, rfl, hA, hB, hne'⟩, b8⟩
        rw [HEK.out] at hA
        rw [HEO.out] at hB
        replace NW := NW.below b8
        replace NT := NT.below b8
        replace NV := NV.below b8
        clear b8
        have NY : Lw.Nv w8.heap.size k f d r s ((i : Int) + 1) gA cA gB cB KK OO (w8.alloc (.cells #[.int .i64 k, .int .i64 f, .int .i64 d, .int .i64 r, .int .i64 1000000, .int .i64 s, .slice (some ⟨gA, 0, none⟩) k cA, .slice (some ⟨gB, 0, none⟩) k cB, .int .i64 ((i : Int) + 1)] 31)) := Lw.Nv.make hA hB 31
        have b9 : Below w8.heap.size w8 (w8.alloc (.cells #[.int .i64 k, .int .i64 f, .int .i64 d, .int .i64 r, .int .i64 1000000, .int .i64 s, .slice (some ⟨gA, 0, none⟩) k cA, .slice (some ⟨gB, 0, none⟩) k cB, .int .i64 ((i : Int) + 1)] 31)) := (Below.refl _ w8).alloc (Nat.le_refl _) _
        replace NW := NW.below b9
        replace NT := NT.below b9
        replace NV := NV.below b9
        clear b9 hA hB hne'
        go_wp2_with fail
        generalize (w8.alloc (.cells #[.int .i64 k, .int .i64 f, .int .i64 d, .int .i64 r, .int .i64 1000000, .int .i64 s, .slice (some ⟨gA, 0, none⟩) k cA, .slice (some ⟨gB, 0, none⟩) k cB, .int .i64 ((i : Int) + 1)] 31)) = w9 at NW NT NV NY ⊢
        obtain ⟨v1, v1b, v2, v3, v4⟩ := HV.out
        have nwd := NW.below (Below.refl _ _).drew
        have ntd := NT.below (Below.refl _ _).drew
        have nvd := NV.below (Below.refl _ _).drew
        have nyd := NY.below (Below.refl _ _).drew
        refine wp_region_noPanic ?_
        refine wp_region_held_drew (S := (fun w' => w'.cell? ⟨w2.heap.size, 0, none⟩ = some (.int .i64 k) ∧ w'.cell? ⟨w2.heap.size, 1, none⟩ = some (.int .i64 f) ∧ w'.cell? ⟨w2.heap.size, 2, none⟩ = some (.int .i64 d) ∧ w'.cell? ⟨w2.heap.size, 3, none⟩ = some (.int .i64 r) ∧ w'.cell? ⟨w2.heap.size, 4, none⟩ = some (.int .i64 1000000) ∧ w'.cell? ⟨w2.heap.size, 5, none⟩ = some (.int .i64 s) ∧ w'.cell? ⟨w2.heap.size, 6, none⟩ = some (.slice (some ⟨gK, 0, none⟩) k cK) ∧ w'.cell? ⟨w2.heap.size, 7, none⟩ = some (.slice (some ⟨gO, 0, none⟩) k cO) ∧ w'.cell? ⟨w2.heap.size, 8, none⟩ = some (.int .i64 (i : Int)) ∧ w'.cell? ⟨w4.heap.size, 0, none⟩ = some (.slice (some ⟨gD, 0, none⟩) k cD) ∧ w'.cell? ⟨w4.heap.size, 1, none⟩ = some (.slice (some ⟨gE, 0, none⟩) k cE) ∧ w'.cell? ⟨w4.heap.size, 2, none⟩ = some (.slice (some ⟨gL, 0, none⟩) k cL) ∧ w'.cell? ⟨w4.heap.size, 3, none⟩ = some (.slice (some ⟨gF, 0, none⟩) k k) ∧ w'.cell? ⟨w4.heap.size, 4, none⟩ = some (.slice (some ⟨gR, 0, none⟩) k k) ∧ w'.cell? ⟨w6.heap.size, 0, none⟩ = some (.int .i64 k) ∧ w'.cell? ⟨w6.heap.size, 1, none⟩ = some (.int .i64 f) ∧ w'.cell? ⟨w6.heap.size, 2, none⟩ = some (.int .i64 d) ∧ w'.cell? ⟨w6.heap.size, 3, none⟩ = some (.int .i64 r) ∧ w'.cell? ⟨w6.heap.size, 4, none⟩ = some (.int .i64 1000000) ∧ w'.cell? ⟨w6.heap.size, 5, none⟩ = some (.int .i64 s) ∧ w'.cell? ⟨w6.heap.size, 6, none⟩ = some (.slice (some ⟨gK', 0, none⟩) k cK') ∧ w'.cell? ⟨w6.heap.size, 7, none⟩ = some (.slice (some ⟨gO', 0, none⟩) k cO') ∧ w'.cell? ⟨w6.heap.size, 8, none⟩ = some (.int .i64 ((i : Int) + 1)) ∧ w'.cell? ⟨w8.heap.size, 0, none⟩ = some (.int .i64 k) ∧ w'.cell? ⟨w8.heap.size, 1, none⟩ = some (.int .i64 f) ∧ w'.cell? ⟨w8.heap.size, 2, none⟩ = some (.int .i64 d) ∧ w'.cell? ⟨w8.heap.size, 3, none⟩ = some (.int .i64 r) ∧ w'.cell? ⟨w8.heap.size, 4, none⟩ = some (.int .i64 1000000) ∧ w'.cell? ⟨w8.heap.size, 5, none⟩ = some (.int .i64 s) ∧ w'.cell? ⟨w8.heap.size, 6, none⟩ = some (.slice (some ⟨gA, 0, none⟩) k cA) ∧ w'.cell? ⟨w8.heap.size, 7, none⟩ = some (.slice (some ⟨gB, 0, none⟩) k cB) ∧ w'.cell? ⟨w8.heap.size, 8, none⟩ = some (.int .i64 ((i : Int) + 1)) ∧ Hid (Lw.Nw w w.heap.size w.heap.size a0 len0 cap0 w2.heap.size k f d r s (i : Int) gK cK gO cO ks os w' ∧ Lw.Nt w4.heap.size k gD cD gE cE gL cL gF gR ds es ls fs rs w' ∧ Lw.Nv w6.heap.size k f d r s ((i : Int) + 1) gK' cK' gO' cO' KK OO w' ∧ Lw.Nv w8.heap.size k f d r s ((i : Int) + 1) gA cA gB cB KK OO w'))) (by kernel_rfl) ⟨nwd.R.cell 0 rfl, nwd.R.cell 1 rfl, nwd.R.cell 2 rfl, nwd.R.cell 3 rfl, nwd.R.cell 4 rfl, nwd.R.cell 5 rfl, nwd.R.cell 6 rfl, nwd.R.cell 7 rfl, nwd.R.cell 8 rfl, ntd.R.cell 0 rfl, ntd.R.cell 1 rfl, ntd.R.cell 2 rfl, ntd.R.cell 3 rfl, ntd.R.cell 4 rfl, nvd.R.cell 0 rfl, nvd.R.cell 1 rfl, nvd.R.cell 2 rfl, nvd.R.cell 3 rfl, nvd.R.cell 4 rfl, nvd.R.cell 5 rfl, nvd.R.cell 6 rfl, nvd.R.cell 7 rfl, nvd.R.cell 8 rfl, nyd.R.cell 0 rfl, nyd.R.cell 1 rfl, nyd.R.cell 2 rfl, nyd.R.cell 3 rfl, nyd.R.cell 4 rfl, nyd.R.cell 5 rfl, nyd.R.cell 6 rfl, nyd.R.cell 7 rfl, nyd.R.cell 8 rfl, ⟨nwd, ntd, nvd, nyd⟩⟩ (fun hHeld => ?_)
        refine Tk.W 0 (some 43) (.move (.tmp 9)) 4 none ?_
        refine Tk.W 1 (some 44) (.unOp .not 4 (.tmp 43)) 4 none ?_
        refine Tk.W 2 (some 45) (.move (.tmp 44)) 4 none ?_
        refine Tk.W 3 (some 46) (.move (.tmp 11)) 4 (some (2, false)) ?_
        refine Tk.W 4 (some 47) (.unOp .not 4 (.tmp 46)) 4 (some (2, false)) ?_
        refine Tk.W 5 (some 48) (.pick (.tmp 45) (.const (.bool true)) (.tmp 47)) 4 none ?_
        refine Tk.W 6 (some 49) (.move (.tmp 48)) 4 none ?_
        refine Tk.W 7 (some 50) (.load 31 (.tmp 8)) 31 (some (6, false)) ?_
        refine Tk.W 8 (some 51) (.load 31 (.tmp 10)) 31 (some (6, false)) ?_
        refine Tk.R 9 (some 52) (.call ⟨.value (.func 14), #[.tmp 50, .tmp 51], #[31, 31]⟩) 4 (some (6, false)) (fun K hK => ?_)
        go_simp
        refine (Wl.likeWorld (k : Int) f d r 1000000 s ((i : Int) + 1) _ _ _ _ k _ k _ _ _ KK OO _ hHeld.2.2.2.2.2.2.2.2.2.2.2.2.2.2.2.2.2.2.2.2.2.2.2.2.2.2.2.2.2.2.2.2.out.2.2.1.K.row hHeld.2.2.2.2.2.2.2.2.2.2.2.2.2.2.2.2.2.2.2.2.2.2.2.2.2.2.2.2.2.2.2.2.out.2.2.2.K.row hHeld.2.2.2.2.2.2.2.2.2.2.2.2.2.2.2.2.2.2.2.2.2.2.2.2.2.2.2.2.2.2.2.2.out.2.2.1.O.row hHeld.2.2.2.2.2.2.2.2.2.2.2.2.2.2.2.2.2.2.2.2.2.2.2.2.2.2.2.2.2.2.2.2.out.2.2.2.O.row hk hk).mono ?_
        rintro e vm10 ⟨rfl, b_m10⟩
        have nw_m10 := hHeld.2.2.2.2.2.2.2.2.2.2.2.2.2.2.2.2.2.2.2.2.2.2.2.2.2.2.2.2.2.2.2.2.out.1.below b_m10
        have nt_m10 := hHeld.2.2.2.2.2.2.2.2.2.2.2.2.2.2.2.2.2.2.2.2.2.2.2.2.2.2.2.2.2.2.2.2.out.2.1.below b_m10
        have nv_m10 := hHeld.2.2.2.2.2.2.2.2.2.2.2.2.2.2.2.2.2.2.2.2.2.2.2.2.2.2.2.2.2.2.2.2.out.2.2.1.below b_m10
        have ny_m10 := hHeld.2.2.2.2.2.2.2.2.2.2.2.2.2.2.2.2.2.2.2.2.2.2.2.2.2.2.2.2.2.2.2.2.out.2.2.2.below b_m10
        have kvm10 := Tk.kv hK (w := vm10) ⟨nw_m10.R.cell 0 rfl, nw_m10.R.cell 1 rfl, nw_m10.R.cell 2 rfl, nw_m10.R.cell 3 rfl, nw_m10.R.cell 4 rfl, nw_m10.R.cell 5 rfl, nw_m10.R.cell 6 rfl, nw_m10.R.cell 7 rfl, nw_m10.R.cell 8 rfl, nt_m10.R.cell 0 rfl, nt_m10.R.cell 1 rfl, nt_m10.R.cell 2 rfl, nt_m10.R.cell 3 rfl, nt_m10.R.cell 4 rfl, nv_m10.R.cell 0 rfl, nv_m10.R.cell 1 rfl, nv_m10.R.cell 2 rfl, nv_m10.R.cell 3 rfl, nv_m10.R.cell 4 rfl, nv_m10.R.cell 5 rfl, nv_m10.R.cell 6 rfl, nv_m10.R.cell 7 rfl, nv_m10.R.cell 8 rfl, ny_m10.R.cell 0 rfl, ny_m10.R.cell 1 rfl, ny_m10.R.cell 2 rfl, ny_m10.R.cell 3 rfl, ny_m10.R.cell 4 rfl, ny_m10.R.cell 5 rfl, ny_m10.R.cell 6 rfl, ny_m10.R.cell 7 rfl, ny_m10.R.cell 8 rfl, ⟨nw_m10, nt_m10, nv_m10, ny_m10⟩⟩
        clear nw_m10 nt_m10 nv_m10 ny_m10 b_m10
        try dsimp only
        refine hK.out _ _ kvm10 ?_; clear hK K hHeld; intro hHeld; try simp only [Act.put, List.setIfInBounds_toArray, List.set_cons_zero, List.set_cons_succ]
        refine Tk.W 10 (some 53) (.unOp .not 4 (.tmp 52)) 4 (some (6, false)) ?_
        refine Tk.W 11 (some 54) (.pick (.tmp 49) (.const (.bool true)) (.tmp 53)) 4 none ?_
        refine Tk.W 12 (some 55) (.move (.tmp 54)) 4 none ?_
        refine Tk.W 13 (some 56) (.move (.tmp 7)) 2 (some (12, false)) ?_
        refine Tk.W 14 (some 57) (.load 31 (.tmp 4)) 31 (some (12, false)) ?_
        refine Tk.W 15 (some 58) (.load 37 (.tmp 6)) 37 (some (12, false)) ?_
        refine Tk.R 16 (some 59) (.call ⟨.value (.func 15), #[.tmp 57, .tmp 58], #[31, 37]⟩) 2 (some (12, false)) (fun K hK => ?_)
        go_simp
        refine (Lw.s_mid hHeld.2.2.2.2.2.2.2.2.2.2.2.2.2.2.2.2.2.2.2.2.2.2.2.2.2.2.2.2.2.2.2.2.out.1 hHeld.2.2.2.2.2.2.2.2.2.2.2.2.2.2.2.2.2.2.2.2.2.2.2.2.2.2.2.2.2.2.2.2.out.2.1 hW hR).mono ?_
        rintro e vm17 ⟨rfl, b_m17⟩
        rw [HM.out]
        have nw_m17 := hHeld.2.2.2.2.2.2.2.2.2.2.2.2.2.2.2.2.2.2.2.2.2.2.2.2.2.2.2.2.2.2.2.2.out.1.below b_m17
        have nt_m17 := hHeld.2.2.2.2.2.2.2.2.2.2.2.2.2.2.2.2.2.2.2.2.2.2.2.2.2.2.2.2.2.2.2.2.out.2.1.below b_m17
        have nv_m17 := hHeld.2.2.2.2.2.2.2.2.2.2.2.2.2.2.2.2.2.2.2.2.2.2.2.2.2.2.2.2.2.2.2.2.out.2.2.1.below b_m17
        have ny_m17 := hHeld.2.2.2.2.2.2.2.2.2.2.2.2.2.2.2.2.2.2.2.2.2.2.2.2.2.2.2.2.2.2.2.2.out.2.2.2.below b_m17
        have kvm17 := Tk.kv hK (w := vm17) ⟨nw_m17.R.cell 0 rfl, nw_m17.R.cell 1 rfl, nw_m17.R.cell 2 rfl, nw_m17.R.cell 3 rfl, nw_m17.R.cell 4 rfl, nw_m17.R.cell 5 rfl, nw_m17.R.cell 6 rfl, nw_m17.R.cell 7 rfl, nw_m17.R.cell 8 rfl, nt_m17.R.cell 0 rfl, nt_m17.R.cell 1 rfl, nt_m17.R.cell 2 rfl, nt_m17.R.cell 3 rfl, nt_m17.R.cell 4 rfl, nv_m17.R.cell 0 rfl, nv_m17.R.cell 1 rfl, nv_m17.R.cell 2 rfl, nv_m17.R.cell 3 rfl, nv_m17.R.cell 4 rfl, nv_m17.R.cell 5 rfl, nv_m17.R.cell 6 rfl, nv_m17.R.cell 7 rfl, nv_m17.R.cell 8 rfl, ny_m17.R.cell 0 rfl, ny_m17.R.cell 1 rfl, ny_m17.R.cell 2 rfl, ny_m17.R.cell 3 rfl, ny_m17.R.cell 4 rfl, ny_m17.R.cell 5 rfl, ny_m17.R.cell 6 rfl, ny_m17.R.cell 7 rfl, ny_m17.R.cell 8 rfl, ⟨nw_m17, nt_m17, nv_m17, ny_m17⟩⟩
        clear nw_m17 nt_m17 nv_m17 ny_m17 b_m17
        try dsimp only
        refine hK.out _ _ kvm17 ?_; clear hK K hHeld; intro hHeld; try simp only [Act.put, List.setIfInBounds_toArray, List.set_cons_zero, List.set_cons_succ]
        refine Tk.W 17 (some 60) (.binOp .neq 2 (.tmp 56) (.tmp 59) 2) 4 (some (12, false)) ?_
        refine Tk.W 18 (some 61) (.pick (.tmp 55) (.const (.bool true)) (.tmp 60)) 4 none ?_
        refine Tk.W 19 (some 62) (.move (.tmp 61)) 4 none ?_
        refine Tk.W 20 (some 63) (.load 31 (.tmp 8)) 31 (some (19, false)) ?_
        refine Tk.W 22 (some 65) (.move (.tmp 7)) 2 (some (19, false)) ?_
        refine Tk.W 23 (some 66) (.binOp .quo 2 (.tmp 65) (.const (.int .i64 2)) 2) 2 (some (19, false)) ?_
        refine Tk.W 24 (some 67) (.fieldAddr 31 (.tmp 4) 0) 0 (some (19, false)) ?_
        refine Tk.W 25 (some 68) (.fieldAddr 28 (.tmp 67) 3) 0 (some (19, false)) ?_
        refine Tk.W 26 (some 69) (.load 2 (.tmp 68)) 2 (some (19, false)) ?_
        refine Tk.W 27 (some 70) (.binOp .mul 2 (.const (.int .i64 2)) (.tmp 69) 2) 2 (some (19, false)) ?_
        refine Tk.W 28 (some 71) (.binOp .add 2 (.tmp 66) (.tmp 70) 2) 2 (some (19, false)) ?_
        refine Tk.W 29 (some 72) (.binOp .add 2 (.tmp 71) (.const (.int .i64 1)) 2) 2 (some (19, false)) ?_
        refine Tk.R 21 (some 64) (.call ⟨.value (.func 16), #[.tmp 63], #[31]⟩) 2 (some (19, false)) (fun K hK => ?_)
        go_simp
        refine (Wl.i_SkewOf (k : Int) f d r 1000000 s ((i : Int) + 1) _ _ k cK' k cO' KK OO _ hHeld.2.2.2.2.2.2.2.2.2.2.2.2.2.2.2.2.2.2.2.2.2.2.2.2.2.2.2.2.2.2.2.2.out.2.2.1.K.row hHeld.2.2.2.2.2.2.2.2.2.2.2.2.2.2.2.2.2.2.2.2.2.2.2.2.2.2.2.2.2.2.2.2.out.2.2.1.O.row hk hk).mono ?_
        rintro e vm30 ⟨rfl, b_m30⟩
        rw [HK.out]
        have nw_m30 := hHeld.2.2.2.2.2.2.2.2.2.2.2.2.2.2.2.2.2.2.2.2.2.2.2.2.2.2.2.2.2.2.2.2.out.1.below b_m30
        have nt_m30 := hHeld.2.2.2.2.2.2.2.2.2.2.2.2.2.2.2.2.2.2.2.2.2.2.2.2.2.2.2.2.2.2.2.2.out.2.1.below b_m30
        have nv_m30 := hHeld.2.2.2.2.2.2.2.2.2.2.2.2.2.2.2.2.2.2.2.2.2.2.2.2.2.2.2.2.2.2.2.2.out.2.2.1.below b_m30
        have ny_m30 := hHeld.2.2.2.2.2.2.2.2.2.2.2.2.2.2.2.2.2.2.2.2.2.2.2.2.2.2.2.2.2.2.2.2.out.2.2.2.below b_m30
        have kvm30 := Tk.kv hK (w := vm30) ⟨nw_m30.R.cell 0 rfl, nw_m30.R.cell 1 rfl, nw_m30.R.cell 2 rfl, nw_m30.R.cell 3 rfl, nw_m30.R.cell 4 rfl, nw_m30.R.cell 5 rfl, nw_m30.R.cell 6 rfl, nw_m30.R.cell 7 rfl, nw_m30.R.cell 8 rfl, nt_m30.R.cell 0 rfl, nt_m30.R.cell 1 rfl, nt_m30.R.cell 2 rfl, nt_m30.R.cell 3 rfl, nt_m30.R.cell 4 rfl, nv_m30.R.cell 0 rfl, nv_m30.R.cell 1 rfl, nv_m30.R.cell 2 rfl, nv_m30.R.cell 3 rfl, nv_m30.R.cell 4 rfl, nv_m30.R.cell 5 rfl, nv_m30.R.cell 6 rfl, nv_m30.R.cell 7 rfl, nv_m30.R.cell 8 rfl, ny_m30.R.cell 0 rfl, ny_m30.R.cell 1 rfl, ny_m30.R.cell 2 rfl, ny_m30.R.cell 3 rfl, ny_m30.R.cell 4 rfl, ny_m30.R.cell 5 rfl, ny_m30.R.cell 6 rfl, ny_m30.R.cell 7 rfl, ny_m30.R.cell 8 rfl, ⟨nw_m30, nt_m30, nv_m30, ny_m30⟩⟩
        clear nw_m30 nt_m30 nv_m30 ny_m30 b_m30
        try dsimp only
        refine hK.out _ _ kvm30 ?_; clear hK K hHeld; intro hHeld; try simp only [Act.put, List.setIfInBounds_toArray, List.set_cons_zero, List.set_cons_succ]
        refine Tk.W 30 (some 73) (.binOp .gtr 2 (.tmp 64) (.tmp 72) 2) 4 (some (19, false)) ?_
        refine Tk.W 31 (some 74) (.pick (.tmp 62) (.const (.bool true)) (.tmp 73)) 4 none ?_
        refine Tk.W 32 (some 75) (.move (.tmp 74)) 4 none ?_
        refine Tk.W 33 (some 76) (.load 31 (.tmp 8)) 31 (some (32, false)) ?_
        refine Tk.R 34 (some 77) (.call ⟨.value (.func 16), #[.tmp 76], #[31]⟩) 2 (some (32, false)) (fun K hK => ?_)
        go_simp
        refine (Wl.i_SkewOf (k : Int) f d r 1000000 s ((i : Int) + 1) _ _ k cK' k cO' KK OO _ hHeld.2.2.2.2.2.2.2.2.2.2.2.2.2.2.2.2.2.2.2.2.2.2.2.2.2.2.2.2.2.2.2.2.out.2.2.1.K.row hHeld.2.2.2.2.2.2.2.2.2.2.2.2.2.2.2.2.2.2.2.2.2.2.2.2.2.2.2.2.2.2.2.2.out.2.2.1.O.row hk hk).mono ?_
        rintro e vm35 ⟨rfl, b_m35⟩
        rw [HK.out]
        have nw_m35 := hHeld.2.2.2.2.2.2.2.2.2.2.2.2.2.2.2.2.2.2.2.2.2.2.2.2.2.2.2.2.2.2.2.2.out.1.below b_m35
        have nt_m35 := hHeld.2.2.2.2.2.2.2.2.2.2.2.2.2.2.2.2.2.2.2.2.2.2.2.2.2.2.2.2.2.2.2.2.out.2.1.below b_m35
        have nv_m35 := hHeld.2.2.2.2.2.2.2.2.2.2.2.2.2.2.2.2.2.2.2.2.2.2.2.2.2.2.2.2.2.2.2.2.out.2.2.1.below b_m35
        have ny_m35 := hHeld.2.2.2.2.2.2.2.2.2.2.2.2.2.2.2.2.2.2.2.2.2.2.2.2.2.2.2.2.2.2.2.2.out.2.2.2.below b_m35
        have kvm35 := Tk.kv hK (w := vm35) ⟨nw_m35.R.cell 0 rfl, nw_m35.R.cell 1 rfl, nw_m35.R.cell 2 rfl, nw_m35.R.cell 3 rfl, nw_m35.R.cell 4 rfl, nw_m35.R.cell 5 rfl, nw_m35.R.cell 6 rfl, nw_m35.R.cell 7 rfl, nw_m35.R.cell 8 rfl, nt_m35.R.cell 0 rfl, nt_m35.R.cell 1 rfl, nt_m35.R.cell 2 rfl, nt_m35.R.cell 3 rfl, nt_m35.R.cell 4 rfl, nv_m35.R.cell 0 rfl, nv_m35.R.cell 1 rfl, nv_m35.R.cell 2 rfl, nv_m35.R.cell 3 rfl, nv_m35.R.cell 4 rfl, nv_m35.R.cell 5 rfl, nv_m35.R.cell 6 rfl, nv_m35.R.cell 7 rfl, nv_m35.R.cell 8 rfl, ny_m35.R.cell 0 rfl, ny_m35.R.cell 1 rfl, ny_m35.R.cell 2 rfl, ny_m35.R.cell 3 rfl, ny_m35.R.cell 4 rfl, ny_m35.R.cell 5 rfl, ny_m35.R.cell 6 rfl, ny_m35.R.cell 7 rfl, ny_m35.R.cell 8 rfl, ⟨nw_m35, nt_m35, nv_m35, ny_m35⟩⟩
        clear nw_m35 nt_m35 nv_m35 ny_m35 b_m35
        try dsimp only
        refine hK.out _ _ kvm35 ?_; clear hK K hHeld; intro hHeld; try simp only [Act.put, List.setIfInBounds_toArray, List.set_cons_zero, List.set_cons_succ]
        refine Tk.W 35 (some 78) (.binOp .lss 2 (.tmp 77) (.const (.int .i64 0)) 2) 4 (some (32, false)) ?_
        refine Tk.W 36 (some 79) (.pick (.tmp 75) (.const (.bool true)) (.tmp 78)) 4 none ?_
        refine wpAnyH_done (by kernel_rfl) ?_ _
        refine NoPanic.normal ?_
        clear nwd ntd nvd nyd NW NT NV NY
        obtain ⟨NW, NT, NV, NY⟩ := hHeld.2.2.2.2.2.2.2.2.2.2.2.2.2.2.2.2.2.2.2.2.2.2.2.2.2.2.2.2.2.2.2.2.out
        clear hHeld
        clear d1 d2 HM HK v1 v1b v2 v3 v4
        have NW2 := NW.over (cK' := cK') (cO' := cO') NV.K NV.O (by omega) (by omega) (by omega) (by omega)
        have cw0 := NW.R.cell 0 rfl
        have cw1 := NW.R.cell 1 rfl
        have cw2 := NW.R.cell 2 rfl
        have cw3 := NW.R.cell 3 rfl
        have cw4 := NW.R.cell 4 rfl
        have cw5 := NW.R.cell 5 rfl
        have cw6 := NW.R.cell 6 rfl
        have cw7 := NW.R.cell 7 rfl
        have cw8 := NW.R.cell 8 rfl
        have cf0 := NW.R.froz 0 rfl
        have cf1 := NW.R.froz 1 rfl
        have cf2 := NW.R.froz 2 rfl
        have cf3 := NW.R.froz 3 rfl
        have cf4 := NW.R.froz 4 rfl
        have cf5 := NW.R.froz 5 rfl
        have cf6 := NW.R.froz 6 rfl
        have cf7 := NW.R.froz 7 rfl
        have cf8 := NW.R.froz 8 rfl
        have cx0 := NV.R.cell 0 rfl
        have cx1 := NV.R.cell 1 rfl
        have cx2 := NV.R.cell 2 rfl
        have cx3 := NV.R.cell 3 rfl
        have cx4 := NV.R.cell 4 rfl
        have cx5 := NV.R.cell 5 rfl
        have cx6 := NV.R.cell 6 rfl
        have cx7 := NV.R.cell 7 rfl
        have cx8 := NV.R.cell 8 rfl
        go_wp2_with fail
        go_roundw
        case rel => exact ⟨i + 1, gK', cK', gO', cO', _, _, by omega, by go_num, NW2, HW2⟩
        case measure => simp [intOf]; omega
      · have hi2 : ¬ (i : Int) < 6 := by omega
        go_wp2_with fail
        go_ret
        exact ⟨rfl, NW.st.step.fresh (Nat.le_refl _)⟩
  · go_enter Tryz.func3, Tryz.ntmps3
    go_wp2_with (go_at_call 6; refine (great a0 len0 cap0 hl _).mono ?_; rintro e w' ⟨rfl, rfl⟩)
    go_ret
    exact ⟨rfl, Below.refl _ _⟩

/-! The row. -/
set_option maxRecDepth 100000 in
theorem lifted (os : Os) (started : os.Started) (H : Type) (enc : TypeId × Value → H) :
    ReturnsInHanded {} Tryz.checked os 3 .any (Rows.fnHalfSpec.pre6 enc Tryz.prog Tryz.f3 Rows.fnHalfRow.domain false) (Rows.fnHalfSpec.post enc Tryz.prog Tryz.f3 false true false false) := by
  refine returnsInHanded_of_change (C := Tryz.checked) own started (by kernel_rfl) Tryz.func3
    (ChangeSpec.witness6 (enc := enc) (C := Tryz.checked) false ⟨#[], #[.slice none 0 0], []⟩ 8 (by kernel_rfl) (by kernel_rfl) (by kernel_rfl) (by kernel_rfl)) ?_
  intro W base args ds gs before hval0 hW hcnd _
  have hval : ∀ (j : Nat) t v, Tryz.f3.params[j]? = some t → args[j]? = some v → Value.okWide Tryz.prog W .any base t v := hval0
  have hW' := hW
  obtain ⟨p, q, hA0, hV, rfl, hfz, hnd⟩ := hW
  have hA : DataW.TrodAll enc Tryz.prog W 0 (fun _ => true) true Tryz.f3.params.toList args.toList ds p := hA0
  rw [Tryz.params3] at hA hval
  obtain ⟨v0, vs0, d0, ds0, p0, q0, hargs, rfl, rfl, h0, r0⟩ := trodAll_cons hA
  obtain ⟨rfl, rfl, rfl⟩ := trodAll_nil r0
  obtain rfl : args = #[v0] := by cases args; simp_all
  obtain ⟨rfl, rfl⟩ := trodVars_none hV
  obtain ⟨a0, len0, cap0, rfl⟩ := okWide_slice Tryz.underlying22 (hval 0 22 v0 rfl rfl)
  have k0 := h0
  have lt0 : ∀ x ∈ p0, x.block < W.heap.size := by obtain ⟨m, hm⟩ := k0; exact DataW.trod_lt m _ _ _ hm
  obtain ⟨z0, w0⟩ : ∃ zs, IsRow .u8 W a0 len0 cap0 zs := by
    obtain ⟨fuel, hf⟩ := h0
    rcases open_ints Tryz.underlying22 Tryz.underlying5 (by kernel_rfl) hf with ⟨hcs, _⟩ | ⟨x, l, c, zs, hcs, _, hl, hm, hz, _, hcell, hwz⟩
    · simp [Value.cells] at hcs
      obtain ⟨rfl, rfl, rfl⟩ := hcs
      exact ⟨[], .inl ⟨rfl, rfl, rfl, rfl⟩⟩
    · simp [Value.cells] at hcs
      obtain ⟨rfl, rfl, rfl⟩ := hcs
      exact ⟨zs, .inr ⟨_, rfl, hl, hm, by simpa using hz, hcell, hwz⟩⟩
  clear hA0 hval0
  refine (walk a0 len0 cap0 z0 W w0).mono fun e W' ⟨he, bel⟩ => ?_
  subst he
  exact ⟨_, rfl, _, _, _, [], _, [], hW', trodAll_mk1 (shut_bool Tryz.underlying4 _), (trodAll_cons_mk (Below.trod laidOut (by kernel_rfl) (of_decide_eq_true (by kernel_rfl)) k0 bel lt0) trodAll_mk0), rfl, bel.frame _, fun h => by cases h⟩

theorem over : Rows.fnHalfRow.holds Tryz.pinned (OpenSpec.ofChange Rows.fnHalfSpec) :=
  OpenClaim.holds_of_wide 3 Tryz.f3 rfl rfl rfl rfl rfl rfl rfl ⟨rfl, rfl, rfl, rfl, rfl⟩ rfl rfl rfl rfl rfl (by kernel_rfl) Tryz.func3 (by kernel_rfl)
    (of_decide_eq_true (by kernel_rfl)) (by unfold Func.isWrapper; first | (rw [if_pos (by decide +kernel)]; kernel_rfl) | (rw [if_neg (by decide +kernel)]; exact ⟨rfl, rfl⟩))
    (fun os started H enc _ => lifted os started H enc)

end Go.Proofs.YtloicicgcdfgnaaGreat.fnHalf

namespace Go.Proofs.YtloicicgcdfgnaaGreat
/-- The given statement. -/
theorem fnHalf_holds : Rows.FnHalfSaid := fnHalf.over
#print axioms fnHalf_holds
end Go.Proofs.YtloicicgcdfgnaaGreat
