/-
  FnNear: for every code of bytes handed in, the world that is rolled is near; through twelve right turns that are rolled those that are up stay near and are never more than SkewMost apart in the middle, nobody that is up is put right by more than AdjustMost, and each turn counts one; the call returns true, and nothing that was there ahead of it is written.
-/
import Derived.Test.YtloicicgcdfgnaaRows
import Derived.WalkKit
import Derived.ProofKit
import Derived.OpenShut
import Derived.ShutString
import Derived.ChangeOld
import Derived.Below
import Derived.Test.YtloicicgcdfgnaaNearAll
import Derived.Test.YtloicicgcdfgnaaTk
namespace Go.Proofs.Ytloicicgcdfgnaa.fnNear
open Go.ChangeShapes Go.WideShapes Go.ChangeAt Go.RowKit
open Go.ChangeMaps (open_string shut_string)
set_option linter.unusedVariables false
set_option linter.unusedSimpArgs false

theorem own : ownKnob Try.prog.godebug = none := by kernel_rfl
theorem laidOut : laidOutB Try.prog = true := by kernel_rfl

/-- WHAT THE WALK IS TOLD OF A SLICE OF INTEGERS THAT CAME IN: it is nil; or it leads to a row of 'cap' cells, the numbers 'zs' (the first 'len' are its elements, the rest its spare room), each fitting its kind. -/
def IsRow (k : IntKind) (w : World) (a : Option Addr) (len cap : Nat) (zs : List Int) : Prop :=
  (a = none ∧ len = 0 ∧ cap = 0 ∧ zs = []) ∨
  ∃ x, a = some x ∧ len ≤ cap ∧ cap ≤ maxLen ∧ zs.length = cap ∧ (∀ i, i < zs.length → w.cell? (x.add i) = some (.int k (zs.getD i 0))) ∧ ∀ n ∈ zs, (Lit.int k n).wf = true

theorem code_of {w : World} {a : Option Addr} {len cap : Nat} {zs : List Int} (h : IsRow .u8 w a len cap zs) (hl : len ≤ 4096) : Dr.Code w w.heap.size a len := by
  refine ⟨hl, ?_⟩
  rcases h with ⟨_, h, _, _⟩ | ⟨x, rfl, h1, h2, h3, h4, h5⟩
  · exact .inl h
  · by_cases h0 : len = 0
    · exact .inl h0
    · obtain ⟨b, off, spot⟩ := x
      have hc := h4 0 (by omega)
      have hs : spot = none := by simpa [Addr.add] using World.cell?_spot hc
      subst hs
      have hb := World.block_lt_of_cell? _ _ hc
      refine .inr ⟨b, off, rfl, by simpa [Addr.add] using hb, fun k hk => ⟨zs.getD k 0, ?_, ?_⟩⟩
      · have hk4 := h4 k (by omega)
        by_cases hk0 : k = 0
        · subst hk0; simpa [Addr.add] using hk4
        · simpa [Addr.add, hk0] using hk4
      · have e : zs.getD k 0 = zs[k]'(by omega) := by simp [List.getD, show k < zs.length by omega]
        refine bounds_u8 (h5 _ ?_)
        rw [e]
        exact List.getElem_mem _

theorem small (a : Option Addr) (len cap : Nat) (h : len ≤ 4096) (w : World) : Calls Try.prog 12 #[.slice a len cap] w fun e w' => e = .returned (.bool false) ∧ w' = w := by
  have h' : ¬ (4096 : Int) < len := by omega
  go_enter Try.func12, Try.ntmps12
  go_wp2
  go_ret
  exact ⟨rfl, rfl⟩

theorem great (a : Option Addr) (len cap : Nat) (h : ¬ len ≤ 4096) (w : World) : Calls Try.prog 12 #[.slice a len cap] w fun e w' => e = .returned (.bool true) ∧ w' = w := by
  have h' : (4096 : Int) < len := by omega
  go_enter Try.func12, Try.ntmps12
  go_wp2
  go_ret
  exact ⟨rfl, rfl⟩

/-! The walk. -/
set_option maxHeartbeats 20000000 in
set_option maxRecDepth 100000 in
theorem walk (a0 : Option Addr) (len0 cap0 : Nat) (z0 : List Int) (w : World) (w0 : IsRow .u8 w a0 len0 cap0 z0) :
    Calls Try.prog 3 #[.slice a0 len0 cap0] w fun e w' => e = .returned (.bool true) ∧ Below w.heap.size w w' := by
  by_cases hl : len0 ≤ 4096
  · have code := code_of w0 hl
    clear w0
    go_enter Try.func3, Try.ntmps3
    go_wp2_with fail
    refine (small a0 len0 cap0 hl _).mono ?_
    rintro e w ⟨rfl, rfl⟩
    go_wp2_with fail
    refine (Di.roll w.heap.size a0 len0 cap0 3 w (Nat.le_refl _) code).mono ?_
    rintro e w1 ⟨rfl, st1⟩
    have z1 := st1.lt
    go_wp2_with fail
    refine (Lw.world w.heap.size w.heap.size a0 len0 cap0 1 (by omega) (by omega) w w1 st1).mono ?_
    rintro e w2 ⟨⟨f, d, r, s, k, gK, cK, gO, cO, rfl, ks, os, hK, hO, hne, hW⟩, st2, sp2⟩
    have z2 := sp2.size
    have b3 : Below w2.heap.size w2 (w2.alloc (.cells #[.int .i64 k, .int .i64 f, .int .i64 d, .int .i64 r, .int .i64 1000000, .int .i64 s, .slice (some ⟨gK, 0, none⟩) k cK, .slice (some ⟨gO, 0, none⟩) k cO, .int .i64 0] 31)) := (Below.refl _ w2).alloc (Nat.le_refl _) _
    have NW : Lw.Nw w w.heap.size w.heap.size a0 len0 cap0 w2.heap.size k f d r s 0 gK cK gO cO ks os (w2.alloc (.cells #[.int .i64 k, .int .i64 f, .int .i64 d, .int .i64 r, .int .i64 1000000, .int .i64 s, .slice (some ⟨gK, 0, none⟩) k cK, .slice (some ⟨gO, 0, none⟩) k cO, .int .i64 0] 31)) := by
      have q1 := hK.2.1
      have q2 := hK.2.2.1
      have q3 := hO.2.1
      have q4 := hO.2.2.1
      exact ⟨st2.below b3, Rm.Room.new w2 [.int .i64 k, .int .i64 f, .int .i64 d, .int .i64 r, .int .i64 1000000, .int .i64 s, .slice (some ⟨gK, 0, none⟩) k cK, .slice (some ⟨gO, 0, none⟩) k cO, .int .i64 0] 31, (Lw.has_mono hK (Nat.zero_le _)).later b3 q2, (Lw.has_mono hO (Nat.zero_le _)).later b3 q4, ⟨by omega, by omega⟩, by omega, by omega, by omega, by omega, by omega⟩
    have hk0 := hW.pos
    have hk8 := hW.k8
    have hk : k ≤ 1048576 := by omega
    have q1 : decide ((k : Int) < 1) = false := decide_eq_false (by omega)
    have hN : Lw.Near d r k ks os := fun i j hi _ hj _ => by have := hW.lo i hi; have := hW.lo j hj; have := hW.d0; have := hW.r0; omega
    have HNI : Hid (Wl.NI (k : Int) f d r 1000000 s ks k os k 0 = true) := hW.ni (t := 0) (by omega) (by omega) (by omega) hN
    clear hK hO hne st1 st2 sp2 b3 code
    go_wp2_with fail
    generalize (w2.alloc (.cells #[.int .i64 k, .int .i64 f, .int .i64 d, .int .i64 r, .int .i64 1000000, .int .i64 s, .slice (some ⟨gK, 0, none⟩) k cK, .slice (some ⟨gO, 0, none⟩) k cO, .int .i64 0] 31)) = w3 at NW ⊢
    refine (Wl.i_NearIn (k : Int) f d r 1000000 s 0 _ _ k cK k cO ks os _ NW.K.row NW.O.row hk hk).mono ?_
    rintro e w3b ⟨rfl, b3⟩
    rw [HNI.out]
    replace NW := NW.below b3
    clear b3 HNI q1
    have HW : Hid (Lw.RW 1 f d r s k ks os ∧ Lw.Near d r k ks os) := ⟨hW, hN⟩
    have hd0 := hW.d0
    have hd1 := hW.d1
    have hr0 := hW.r0
    have hr1 := hW.r1
    have hk16 : k ≤ 16 := by omega
    clear hW hN
    go_wp2_with fail
    go_loopw [5] (fun iv wr => ∃ (i gK cK gO cO : Nat) (ks os : List Int), i ≤ 12 ∧ iv = .int .i64 i ∧ Lw.Nw w w.heap.size w.heap.size a0 len0 cap0 w2.heap.size k f d r s (i : Int) gK cK gO cO ks os wr ∧ Hid (Lw.RW (1 + 22 * i) f d r s k ks os ∧ Lw.Near d r k ks os)) (fun iv _ => 12 - (intOf iv).toNat)
    case atStart => exact ⟨0, gK, cK, gO, cO, ks, os, Nat.zero_le _, rfl, NW, HW⟩
    case round =>
      clear NW HW
      obtain ⟨i, gK, cK, gO, cO, ks, os, hi, rfl, NW, HW⟩ := hrel
      by_cases hlt : i < 12
      · have hi2 : (i : Int) < 12 := by omega
        have ⟨hW, hN⟩ := HW.out
        have cw0 := NW.R.cell 0 rfl
        have cw1 := NW.R.cell 1 rfl
        have cw2 := NW.R.cell 2 rfl
        have cw3 := NW.R.cell 3 rfl
        have cw4 := NW.R.cell 4 rfl
        have cw5 := NW.R.cell 5 rfl
        have cw6 := NW.R.cell 6 rfl
        have cw7 := NW.R.cell 7 rfl
        have cw8 := NW.R.cell 8 rfl
        go_wp2_with fail
        refine (Lw.turn w.heap.size w.heap.size a0 len0 cap0 (k : Int) f d r 1000000 s (i : Int) _ gK k cK (some ⟨gO, 0, none⟩) k cO ks w _ NW.st NW.K NW.x.2.2.1 hd0 (by omega) hr0 (by omega) hk16 hW.bad).mono ?_
        rintro e w4 ⟨⟨gD, cD, gF, gR, cE, cL, aE, aL, rfl, ds, es, ls, fs, rs, ⟨HD, HE, HL, HF, HG⟩, hR⟩, st4, sp4⟩
        clear cw0 cw1 cw2 cw3 cw4 cw5 cw6 cw7 cw8
        replace NW := NW.step st4 sp4
        obtain ⟨gE, cE, eE, hgE, rE⟩ := HE.rows hk0
        cases eE
        obtain ⟨gL, cL, eL, hgL, rL⟩ := HL.rows hk0
        cases eL
        have b5 : Below w4.heap.size w4 (w4.alloc (.cells #[.slice (some ⟨gD, 0, none⟩) k cD, .slice (some ⟨gE, 0, none⟩) k cE, .slice (some ⟨gL, 0, none⟩) k cL, .slice (some ⟨gF, 0, none⟩) k k, .slice (some ⟨gR, 0, none⟩) k k] 37)) := (Below.refl _ w4).alloc (Nat.le_refl _) _
        have NT : Lw.Nt w4.heap.size k gD cD gE cE gL cL gF gR ds es ls fs rs (w4.alloc (.cells #[.slice (some ⟨gD, 0, none⟩) k cD, .slice (some ⟨gE, 0, none⟩) k cE, .slice (some ⟨gL, 0, none⟩) k cL, .slice (some ⟨gF, 0, none⟩) k k, .slice (some ⟨gR, 0, none⟩) k k] 37)) := ⟨Rm.Room.new w4 [.slice (some ⟨gD, 0, none⟩) k cD, .slice (some ⟨gE, 0, none⟩) k cE, .slice (some ⟨gL, 0, none⟩) k cL, .slice (some ⟨gF, 0, none⟩) k k, .slice (some ⟨gR, 0, none⟩) k k] 37, (HD.has.row.later b5 (Nat.le_refl _)).more b5.size, (rE.later b5 (Nat.le_refl _)).more b5.size, (rL.later b5 (Nat.le_refl _)).more b5.size, (HF.row.later b5 (Nat.le_refl _)).more b5.size, (HG.row.later b5 (Nat.le_refl _)).more b5.size⟩
        have hXY : w2.heap.size < w4.heap.size := NW.lt
        replace NW := NW.below b5
        clear HD HE HL HF HG rE rL st4 sp4 b5 hgE hgL
        have hf6 : (1 + 22 * (i : Int)) ≤ 1000000 := by omega
        have t0 : (0 : Int) ≤ i := by omega
        have t1 : (i : Int) < 1000000 := by omega
        obtain ⟨hS, hC, hN2⟩ := hW.near hR hf6 t0 t1 hN
        have h0M := (hW.half hR hf6 t0 t1).1
        obtain ⟨M, EM⟩ : ∃ M, Tu.MS (k : Int) f d r 1000000 s ks k os k (i : Int) ds es ls fs rs k k = M := ⟨_, rfl⟩
        rw [EM] at hS h0M
        have HM : Hid (_ = M) := EM
        clear EM
        obtain ⟨SMv, eSM⟩ : ∃ x, x = 4 * d + 4 * r + 2 := ⟨_, rfl⟩
        have HSM : Hid (Cf.SM (k : Int) f d r s = SMv) := by unfold Hid; rw [hW.sm, eSM]
        obtain ⟨AMv, eAM⟩ : ∃ x, x = 4 * d + 5 * r + 2 := ⟨_, rfl⟩
        have HAM : Hid (Cf.AM (k : Int) f d r s = AMv) := by unfold Hid; rw [hW.am, eAM]
        have hAMb : AMv ≤ 200 := by omega
        have HC : Hid (∀ z, z < k → Ls.el (Tu.FK ks fs) z = 0 → -AMv ≤ Tu.CV (k : Int) f d r 1000000 s ks k os k (i : Int) ds es ls fs rs k k z ∧ Tu.CV (k : Int) f d r 1000000 s ks k os k (i : Int) ds es ls fs rs k k z ≤ AMv) := by rw [eAM]; exact hC
        have d1 : decide (SMv < M) = false := decide_eq_false (by omega)
        have d2 : decide (M < 0) = false := decide_eq_false (by omega)
        have HW2 : Hid (Lw.RW (1 + 22 * ((i + 1 : Nat) : Int)) f d r s k (Tu.TK (k : Int) f d r 1000000 s ks k os k (i : Int) ds es ls fs rs k k) (Tu.TF (k : Int) f d r 1000000 s ks k os k (i : Int) ds es ls fs rs k k) ∧ Lw.Near d r k (Tu.TK (k : Int) f d r 1000000 s ks k os k (i : Int) ds es ls fs rs k k) (Tu.TF (k : Int) f d r 1000000 s ks k os k (i : Int) ds es ls fs rs k k)) := ⟨by have := hW.turned hR (hW.to hR hf6 t0 t1); rwa [show (1 : Int) + 22 * (i : Int) + 22 = 1 + 22 * ((i + 1 : Nat) : Int) by omega] at this, hN2⟩
        have HNI : Hid (Wl.NI (k : Int) f d r 1000000 s (Tu.TK (k : Int) f d r 1000000 s ks k os k (i : Int) ds es ls fs rs k k) k (Tu.TF (k : Int) f d r 1000000 s ks k os k (i : Int) ds es ls fs rs k k) k ((i : Int) + 1) = true) := HW2.out.1.ni (t := (i : Int) + 1) (by omega) (by omega) (by omega) hN2
        have HTO : Hid (Tu.TO (k : Int) f d r 1000000 s ks k os k (i : Int) ds es ls fs rs k k = true) := hW.to hR hf6 t0 t1
        clear hS hC hN2 hN h0M eSM eAM
        go_wp2_with fail
        generalize (w4.alloc (.cells #[.slice (some ⟨gD, 0, none⟩) k cD, .slice (some ⟨gE, 0, none⟩) k cE, .slice (some ⟨gL, 0, none⟩) k cL, .slice (some ⟨gF, 0, none⟩) k k, .slice (some ⟨gR, 0, none⟩) k k] 37)) = wT at NW NT ⊢
        have nwd := NW.below (Below.refl _ _).drew
        have ntd := NT.below (Below.refl _ _).drew
        refine wp_region_noPanic ?_
        refine wp_region_held_drew (S := (fun w' => w'.cell? ⟨w2.heap.size, 0, none⟩ = some (.int .i64 k) ∧ w'.cell? ⟨w2.heap.size, 1, none⟩ = some (.int .i64 f) ∧ w'.cell? ⟨w2.heap.size, 2, none⟩ = some (.int .i64 d) ∧ w'.cell? ⟨w2.heap.size, 3, none⟩ = some (.int .i64 r) ∧ w'.cell? ⟨w2.heap.size, 4, none⟩ = some (.int .i64 1000000) ∧ w'.cell? ⟨w2.heap.size, 5, none⟩ = some (.int .i64 s) ∧ w'.cell? ⟨w2.heap.size, 6, none⟩ = some (.slice (some ⟨gK, 0, none⟩) k cK) ∧ w'.cell? ⟨w2.heap.size, 7, none⟩ = some (.slice (some ⟨gO, 0, none⟩) k cO) ∧ w'.cell? ⟨w2.heap.size, 8, none⟩ = some (.int .i64 (i : Int)) ∧ w'.cell? ⟨w4.heap.size, 0, none⟩ = some (.slice (some ⟨gD, 0, none⟩) k cD) ∧ w'.cell? ⟨w4.heap.size, 1, none⟩ = some (.slice (some ⟨gE, 0, none⟩) k cE) ∧ w'.cell? ⟨w4.heap.size, 2, none⟩ = some (.slice (some ⟨gL, 0, none⟩) k cL) ∧ w'.cell? ⟨w4.heap.size, 3, none⟩ = some (.slice (some ⟨gF, 0, none⟩) k k) ∧ w'.cell? ⟨w4.heap.size, 4, none⟩ = some (.slice (some ⟨gR, 0, none⟩) k k) ∧ Hid (Lw.Nw w w.heap.size w.heap.size a0 len0 cap0 w2.heap.size k f d r s (i : Int) gK cK gO cO ks os w' ∧ Lw.Nt w4.heap.size k gD cD gE cE gL cL gF gR ds es ls fs rs w'))) (by kernel_rfl) ⟨nwd.R.cell 0 rfl, nwd.R.cell 1 rfl, nwd.R.cell 2 rfl, nwd.R.cell 3 rfl, nwd.R.cell 4 rfl, nwd.R.cell 5 rfl, nwd.R.cell 6 rfl, nwd.R.cell 7 rfl, nwd.R.cell 8 rfl, ntd.R.cell 0 rfl, ntd.R.cell 1 rfl, ntd.R.cell 2 rfl, ntd.R.cell 3 rfl, ntd.R.cell 4 rfl, ⟨nwd, ntd⟩⟩ (fun hHeld => ?_)
        refine Tk.W 0 (some 35) (.load 31 (.tmp 4)) 31 none ?_
        refine Tk.W 1 (some 36) (.load 37 (.tmp 6)) 37 none ?_
        refine Tk.W 3 (some 38) (.fieldAddr 31 (.tmp 4) 0) 0 none ?_
        refine Tk.W 4 (some 39) (.load 28 (.tmp 38)) 28 none ?_
        refine Tk.R 2 (some 37) (.call ⟨.value (.func 17), #[.tmp 35, .tmp 36], #[31, 37]⟩) 2 none (fun K hK => ?_)
        go_simp
        refine ((Lw.i_mid hHeld.2.2.2.2.2.2.2.2.2.2.2.2.2.2.out.1 hHeld.2.2.2.2.2.2.2.2.2.2.2.2.2.2.out.2 hW hR)).mono ?_
        rintro e vm5 ⟨rfl, b_m5⟩
        rw [HM.out]
        have nw_m5 := hHeld.2.2.2.2.2.2.2.2.2.2.2.2.2.2.out.1.below b_m5
        have nt_m5 := hHeld.2.2.2.2.2.2.2.2.2.2.2.2.2.2.out.2.below b_m5
        have kvm5 := Tk.kv hK (w := vm5) ⟨nw_m5.R.cell 0 rfl, nw_m5.R.cell 1 rfl, nw_m5.R.cell 2 rfl, nw_m5.R.cell 3 rfl, nw_m5.R.cell 4 rfl, nw_m5.R.cell 5 rfl, nw_m5.R.cell 6 rfl, nw_m5.R.cell 7 rfl, nw_m5.R.cell 8 rfl, nt_m5.R.cell 0 rfl, nt_m5.R.cell 1 rfl, nt_m5.R.cell 2 rfl, nt_m5.R.cell 3 rfl, nt_m5.R.cell 4 rfl, ⟨nw_m5, nt_m5⟩⟩
        clear nw_m5 nt_m5 b_m5
        try dsimp only
        refine hK.out _ _ kvm5 ?_; clear hK K hHeld; intro hHeld; try simp only [Act.put, List.setIfInBounds_toArray, List.set_cons_zero, List.set_cons_succ]
        refine Tk.R 5 (some 40) (.call ⟨.value (.func 18), #[.tmp 39], #[28]⟩) 2 none (fun K hK => ?_)
        go_simp
        refine (Cf.i_SkewMost (k : Int) f d r 1000000 s _).mono ?_
        rintro e vm6 ⟨rfl, b_m6⟩
        rw [HSM.out]
        have nw_m6 := hHeld.2.2.2.2.2.2.2.2.2.2.2.2.2.2.out.1.below b_m6
        have nt_m6 := hHeld.2.2.2.2.2.2.2.2.2.2.2.2.2.2.out.2.below b_m6
        have kvm6 := Tk.kv hK (w := vm6) ⟨nw_m6.R.cell 0 rfl, nw_m6.R.cell 1 rfl, nw_m6.R.cell 2 rfl, nw_m6.R.cell 3 rfl, nw_m6.R.cell 4 rfl, nw_m6.R.cell 5 rfl, nw_m6.R.cell 6 rfl, nw_m6.R.cell 7 rfl, nw_m6.R.cell 8 rfl, nt_m6.R.cell 0 rfl, nt_m6.R.cell 1 rfl, nt_m6.R.cell 2 rfl, nt_m6.R.cell 3 rfl, nt_m6.R.cell 4 rfl, ⟨nw_m6, nt_m6⟩⟩
        clear nw_m6 nt_m6 b_m6
        try dsimp only
        refine hK.out _ _ kvm6 ?_; clear hK K hHeld; intro hHeld; try simp only [Act.put, List.setIfInBounds_toArray, List.set_cons_zero, List.set_cons_succ]
        refine Tk.W 6 (some 41) (.binOp .gtr 2 (.tmp 37) (.tmp 40) 2) 4 none ?_
        refine Tk.W 7 (some 42) (.move (.tmp 41)) 4 none ?_
        refine Tk.W 8 (some 43) (.load 31 (.tmp 4)) 31 (some (7, false)) ?_
        refine Tk.W 9 (some 44) (.load 37 (.tmp 6)) 37 (some (7, false)) ?_
        refine Tk.R 10 (some 45) (.call ⟨.value (.func 17), #[.tmp 43, .tmp 44], #[31, 37]⟩) 2 (some (7, false)) (fun K hK => ?_)
        go_simp
        refine ((Lw.i_mid hHeld.2.2.2.2.2.2.2.2.2.2.2.2.2.2.out.1 hHeld.2.2.2.2.2.2.2.2.2.2.2.2.2.2.out.2 hW hR)).mono ?_
        rintro e vm11 ⟨rfl, b_m11⟩
        rw [HM.out]
        have nw_m11 := hHeld.2.2.2.2.2.2.2.2.2.2.2.2.2.2.out.1.below b_m11
        have nt_m11 := hHeld.2.2.2.2.2.2.2.2.2.2.2.2.2.2.out.2.below b_m11
        have kvm11 := Tk.kv hK (w := vm11) ⟨nw_m11.R.cell 0 rfl, nw_m11.R.cell 1 rfl, nw_m11.R.cell 2 rfl, nw_m11.R.cell 3 rfl, nw_m11.R.cell 4 rfl, nw_m11.R.cell 5 rfl, nw_m11.R.cell 6 rfl, nw_m11.R.cell 7 rfl, nw_m11.R.cell 8 rfl, nt_m11.R.cell 0 rfl, nt_m11.R.cell 1 rfl, nt_m11.R.cell 2 rfl, nt_m11.R.cell 3 rfl, nt_m11.R.cell 4 rfl, ⟨nw_m11, nt_m11⟩⟩
        clear nw_m11 nt_m11 b_m11
        try dsimp only
        refine hK.out _ _ kvm11 ?_; clear hK K hHeld; intro hHeld; try simp only [Act.put, List.setIfInBounds_toArray, List.set_cons_zero, List.set_cons_succ]
        refine Tk.W 11 (some 46) (.binOp .lss 2 (.tmp 45) (.const (.int .i64 0)) 2) 4 (some (7, false)) ?_
        refine Tk.W 12 (some 47) (.pick (.tmp 42) (.const (.bool true)) (.tmp 46)) 4 none ?_
        refine wpAnyH_done (by kernel_rfl) ?_ _
        refine NoPanic.normal ?_
        clear nwd ntd NW NT
        obtain ⟨NW, NT⟩ := hHeld.2.2.2.2.2.2.2.2.2.2.2.2.2.2.out
        clear hHeld
        clear d1 d2 HM HSM
        go_wp2_with fail
        go_loopw [7] (fun qv wq => ∃ q : Nat, q ≤ k ∧ qv = .int .i64 q ∧ Lw.Nw w w.heap.size w.heap.size a0 len0 cap0 w2.heap.size k f d r s (i : Int) gK cK gO cO ks os wq ∧ Lw.Nt w4.heap.size k gD cD gE cE gL cL gF gR ds es ls fs rs wq) (fun qv _ => k - (intOf qv).toNat)
        case atStart => exact ⟨0, Nat.zero_le _, rfl, NW, NT⟩
        case round =>
          clear NW NT
          obtain ⟨q, hq, rfl, NW, NT⟩ := hrel
          by_cases hql : q < k
          · have hq2 : (q : Int) < (k : Int) := by omega
            have cw0 := NW.R.cell 0 rfl
            have cw1 := NW.R.cell 1 rfl
            have cw2 := NW.R.cell 2 rfl
            have cw3 := NW.R.cell 3 rfl
            have cw4 := NW.R.cell 4 rfl
            have cw5 := NW.R.cell 5 rfl
            have cw6 := NW.R.cell 6 rfl
            have cw7 := NW.R.cell 7 rfl
            have cw8 := NW.R.cell 8 rfl
            have ct0 := NT.R.cell 0 rfl
            have ct1 := NT.R.cell 1 rfl
            have ct2 := NT.R.cell 2 rfl
            have ct3 := NT.R.cell 3 rfl
            have ct4 := NT.R.cell 4 rfl
            go_wp2_with fail
            refine (Lw.i_cor NW NT hW hR q).mono ?_
            rintro e w6 ⟨rfl, b6⟩
            replace NW := NW.below b6
            replace NT := NT.below b6
            clear b6
            clear cw0 cw1 cw2 cw3 cw4 cw5 cw6 cw7 cw8
            clear ct0 ct1 ct2 ct3 ct4
            have hCB := Tu.cb_is HTO.out hql
            obtain ⟨e1, e2, e3⟩ := hR.kinds hW.kz hql
            obtain ⟨Nn, EN⟩ : ∃ x, Tu.CV (k : Int) f d r 1000000 s ks k os k (i : Int) ds es ls fs rs k k q = x := ⟨_, rfl⟩
            have HCq := HC.out q hql
            rw [EN] at HCq ⊢
            clear EN
            have ck := NW.kind hql
            have cf := NT.falls hql
            have cg := NT.rises hql
            have cw0 := NW.R.cell 0 rfl
            have cw1 := NW.R.cell 1 rfl
            have cw2 := NW.R.cell 2 rfl
            have cw3 := NW.R.cell 3 rfl
            have cw4 := NW.R.cell 4 rfl
            have cw5 := NW.R.cell 5 rfl
            have cw6 := NW.R.cell 6 rfl
            have cw7 := NW.R.cell 7 rfl
            have cw8 := NW.R.cell 8 rfl
            have ct0 := NT.R.cell 0 rfl
            have ct1 := NT.R.cell 1 rfl
            have ct2 := NT.R.cell 2 rfl
            have ct3 := NT.R.cell 3 rfl
            have ct4 := NT.R.cell 4 rfl
            by_cases h0 : Ls.el ks q = 0
            · cases hf : Bo.eb fs q with
              | true =>
                have hr : Bo.eb rs q = false := by cases hr : Bo.eb rs q with | false => rfl | true => have := e3 hr; omega
                have hz : Ls.el (Tu.FK ks fs) q = 1 := by rw [e1, hf]; rfl
                rw [hz, hr] at hCB
                have hCB2 : Tu.CB (k : Int) f d r 1000000 s ks k os k (i : Int) ds es ls fs rs k k q = false := hCB
                rw [hCB2]
                rw [h0] at ck
                rw [hf] at cf
                rw [hr] at cg
                clear HCq hz hCB hCB2 e1 e2 e3 h0 hf hr
                go_wp2_with fail
                go_roundw
                case rel => exact ⟨q + 1, by omega, by go_num, NW, NT⟩
                case measure => simp [intOf]; omega
              | false =>
                have hz : Ls.el (Tu.FK ks fs) q = 0 := by rw [e1, hf]; simpa using h0
                rw [hz] at hCB
                rw [hCB]
                obtain ⟨n1, n2⟩ := HCq hz
                rw [h0] at ck
                rw [hf] at cf
                clear HCq hz hCB e1 e2 e3 h0 hf
                have w1_ : IntKind.i64.wrap (-Nn) = -Nn := by rw [IntKind.wrap_i64]; omega
                have d3 : decide (AMv < Nn) = false := decide_eq_false (by omega)
                have d4 : decide (AMv < -Nn) = false := decide_eq_false (by omega)
                go_wp2_with fail
                refine (Cf.i_AdjustMost (k : Int) f d r 1000000 s _).mono ?_
                rintro e w7 ⟨rfl, b7⟩
                rw [HAM.out]
                replace NW := NW.below b7
                replace NT := NT.below b7
                clear b7 ck cf cg
                clear cw0 cw1 cw2 cw3 cw4 cw5 cw6 cw7 cw8
                clear ct0 ct1 ct2 ct3 ct4
                have cw0 := NW.R.cell 0 rfl
                have cw1 := NW.R.cell 1 rfl
                have cw2 := NW.R.cell 2 rfl
                have cw3 := NW.R.cell 3 rfl
                have cw4 := NW.R.cell 4 rfl
                have cw5 := NW.R.cell 5 rfl
                have cw6 := NW.R.cell 6 rfl
                have cw7 := NW.R.cell 7 rfl
                have cw8 := NW.R.cell 8 rfl
                have ct0 := NT.R.cell 0 rfl
                have ct1 := NT.R.cell 1 rfl
                have ct2 := NT.R.cell 2 rfl
                have ct3 := NT.R.cell 3 rfl
                have ct4 := NT.R.cell 4 rfl
                go_wp2_with fail
                refine (Cf.i_AdjustMost (k : Int) f d r 1000000 s _).mono ?_
                rintro e w8 ⟨rfl, b8⟩
                rw [HAM.out]
                replace NW := NW.below b8
                replace NT := NT.below b8
                clear b8
                clear cw0 cw1 cw2 cw3 cw4 cw5 cw6 cw7 cw8
                clear ct0 ct1 ct2 ct3 ct4
                go_wp2_with fail
                go_roundw
                case rel => exact ⟨q + 1, by omega, by go_num, NW, NT⟩
                case measure => simp [intOf]; omega
            · have hf : Bo.eb fs q = false := by cases hf : Bo.eb fs q with | false => rfl | true => exact (h0 (e2 hf)).elim
              have hz : ¬ Ls.el (Tu.FK ks fs) q = 0 := by rw [e1, hf]; simpa using h0
              rw [decide_eq_false hz, Bool.false_or] at hCB
              rw [hCB]
              have h9 : (Ls.el ks q == 0) = false := by simp [h0]
              clear HCq hz hCB e1 e2 e3 hf h0
              cases hr : Bo.eb rs q with
              | true =>
                rw [hr] at cg
                clear hr
                go_wp2_with fail
                go_roundw
                case rel => exact ⟨q + 1, by omega, by go_num, NW, NT⟩
                case measure => simp [intOf]; omega
              | false =>
                rw [hr] at cg
                clear hr
                go_wp2_with fail
                go_roundw
                case rel => exact ⟨q + 1, by omega, by go_num, NW, NT⟩
                case measure => simp [intOf]; omega
          · obtain rfl : k = q := by omega
            have hq3 : ¬ (k : Int) < (k : Int) := by omega
            have cw0 := NW.R.cell 0 rfl
            have cw1 := NW.R.cell 1 rfl
            have cw2 := NW.R.cell 2 rfl
            have cw3 := NW.R.cell 3 rfl
            have cw4 := NW.R.cell 4 rfl
            have cw5 := NW.R.cell 5 rfl
            have cw6 := NW.R.cell 6 rfl
            have cw7 := NW.R.cell 7 rfl
            have cw8 := NW.R.cell 8 rfl
            have ct0 := NT.R.cell 0 rfl
            have ct1 := NT.R.cell 1 rfl
            have ct2 := NT.R.cell 2 rfl
            have ct3 := NT.R.cell 3 rfl
            have ct4 := NT.R.cell 4 rfl
            go_wp2_with fail
            refine (Lw.i_trn NW NT hW hR hf6 t0 t1).mono ?_
            rintro e w6 ⟨⟨gK', cK', gO', cO', rfl, hK', hO', hne'⟩, b6⟩
            have q1 := hK'.2.1
            have q2 := hK'.2.2.1
            have q3 := hO'.2.1
            have q4 := hO'.2.2.1
            have hXl := NW.lt
            have hpl := NW.st.lt
            replace NW := NW.below b6
            replace NT := NT.below b6
            clear b6
            clear cw0 cw1 cw2 cw3 cw4 cw5 cw6 cw7 cw8
            clear ct0 ct1 ct2 ct3 ct4
            clear NT
            have b7 : Below w6.heap.size w6 (w6.alloc (.cells #[.int .i64 k, .int .i64 f, .int .i64 d, .int .i64 r, .int .i64 1000000, .int .i64 s, .slice (some ⟨gK', 0, none⟩) k cK', .slice (some ⟨gO', 0, none⟩) k cO', .int .i64 ((i : Int) + 1)] 31)) := (Below.refl _ w6).alloc (Nat.le_refl _) _
            have RX := Rm.Room.new w6 [.int .i64 k, .int .i64 f, .int .i64 d, .int .i64 r, .int .i64 1000000, .int .i64 s, .slice (some ⟨gK', 0, none⟩) k cK', .slice (some ⟨gO', 0, none⟩) k cO', .int .i64 ((i : Int) + 1)] 31
            replace NW := NW.below b7
            replace hK' := (Lw.has_mono hK' (Nat.zero_le _)).later b7 q2
            replace hO' := (Lw.has_mono hO' (Nat.zero_le _)).later b7 q4
            clear b7
            go_wp2_with fail
            generalize (w6.alloc (.cells #[.int .i64 k, .int .i64 f, .int .i64 d, .int .i64 r, .int .i64 1000000, .int .i64 s, .slice (some ⟨gK', 0, none⟩) k cK', .slice (some ⟨gO', 0, none⟩) k cO', .int .i64 ((i : Int) + 1)] 31)) = w7 at NW RX hK' hO' ⊢
            refine (Wl.i_NearIn (k : Int) f d r 1000000 s ((i : Int) + 1) _ _ k cK' k cO' _ _ _ hK'.row hO'.row hk hk).mono ?_
            rintro e w8 ⟨rfl, b8⟩
            rw [HNI.out]
            replace NW := NW.below b8
            replace RX := RX.below b8
            replace hK' := hK'.later b8 hK'.2.2.1
            replace hO' := hO'.later b8 hO'.2.2.1
            clear b8
            have NW2 := NW.over (cK' := cK') (cO' := cO') hK' hO' (by omega) (by omega) (by omega) (by omega)
            have cw0 := NW.R.cell 0 rfl
            have cw1 := NW.R.cell 1 rfl
            have cw2 := NW.R.cell 2 rfl
            have cw3 := NW.R.cell 3 rfl
            have cw4 := NW.R.cell 4 rfl
            have cw5 := NW.R.cell 5 rfl
            have cw6 := NW.R.cell 6 rfl
            have cw7 := NW.R.cell 7 rfl
            have cw8 := NW.R.cell 8 rfl
            have cf0 := NW.R.froz 0 rfl
            have cf1 := NW.R.froz 1 rfl
            have cf2 := NW.R.froz 2 rfl
            have cf3 := NW.R.froz 3 rfl
            have cf4 := NW.R.froz 4 rfl
            have cf5 := NW.R.froz 5 rfl
            have cf6 := NW.R.froz 6 rfl
            have cf7 := NW.R.froz 7 rfl
            have cf8 := NW.R.froz 8 rfl
            have cx0 := RX.cell 0 rfl
            have cx1 := RX.cell 1 rfl
            have cx2 := RX.cell 2 rfl
            have cx3 := RX.cell 3 rfl
            have cx4 := RX.cell 4 rfl
            have cx5 := RX.cell 5 rfl
            have cx6 := RX.cell 6 rfl
            have cx7 := RX.cell 7 rfl
            have cx8 := RX.cell 8 rfl
            have v1 : IntKind.i64.wrap ((i : Int) + 1) = (i : Int) + 1 := by rw [IntKind.wrap_i64]; omega
            clear HNI HTO HC HAM
            go_wp2_with fail
            go_roundw
            case rel => exact ⟨i + 1, gK', cK', gO', cO', _, _, by omega, by go_num, NW2, HW2⟩
            case measure => simp [intOf]; omega
      · have hi2 : ¬ (i : Int) < 12 := by omega
        go_wp2_with fail
        go_ret
        exact ⟨rfl, NW.st.step.fresh (Nat.le_refl _)⟩
  · go_enter Try.func3, Try.ntmps3
    go_wp2_with (go_at_call 12; refine (great a0 len0 cap0 hl _).mono ?_; rintro e w' ⟨rfl, rfl⟩)
    go_ret
    exact ⟨rfl, Below.refl _ _⟩

/-! The row. -/
set_option maxRecDepth 100000 in
theorem lifted (os : Os) (started : os.Started) (H : Type) (enc : TypeId × Value → H) :
    ReturnsInHanded {} Try.checked os 3 .any (Rows.fnNearSpec.pre6 enc Try.prog Try.f3 Rows.fnNearRow.domain false) (Rows.fnNearSpec.post enc Try.prog Try.f3 false true false false) := by
  refine returnsInHanded_of_change (C := Try.checked) own started (by kernel_rfl) Try.func3
    (ChangeSpec.witness6 (enc := enc) (C := Try.checked) false ⟨#[], #[.slice none 0 0], []⟩ 8 (by kernel_rfl) (by kernel_rfl) (by kernel_rfl) (by kernel_rfl)) ?_
  intro W base args ds gs before hval0 hW hcnd _
  have hval : ∀ (j : Nat) t v, Try.f3.params[j]? = some t → args[j]? = some v → Value.okWide Try.prog W .any base t v := hval0
  have hW' := hW
  obtain ⟨p, q, hA0, hV, rfl, hfz, hnd⟩ := hW
  have hA : DataW.TrodAll enc Try.prog W 0 (fun _ => true) true Try.f3.params.toList args.toList ds p := hA0
  rw [Try.params3] at hA hval
  obtain ⟨v0, vs0, d0, ds0, p0, q0, hargs, rfl, rfl, h0, r0⟩ := trodAll_cons hA
  obtain ⟨rfl, rfl, rfl⟩ := trodAll_nil r0
  obtain rfl : args = #[v0] := by cases args; simp_all
  obtain ⟨rfl, rfl⟩ := trodVars_none hV
  obtain ⟨a0, len0, cap0, rfl⟩ := okWide_slice Try.underlying22 (hval 0 22 v0 rfl rfl)
  have k0 := h0
  have lt0 : ∀ x ∈ p0, x.block < W.heap.size := by obtain ⟨m, hm⟩ := k0; exact DataW.trod_lt m _ _ _ hm
  obtain ⟨z0, w0⟩ : ∃ zs, IsRow .u8 W a0 len0 cap0 zs := by
    obtain ⟨fuel, hf⟩ := h0
    rcases open_ints Try.underlying22 Try.underlying5 (by kernel_rfl) hf with ⟨hcs, _⟩ | ⟨x, l, c, zs, hcs, _, hl, hm, hz, _, hcell, hwz⟩
    · simp [Value.cells] at hcs
      obtain ⟨rfl, rfl, rfl⟩ := hcs
      exact ⟨[], .inl ⟨rfl, rfl, rfl, rfl⟩⟩
    · simp [Value.cells] at hcs
      obtain ⟨rfl, rfl, rfl⟩ := hcs
      exact ⟨zs, .inr ⟨_, rfl, hl, hm, by simpa using hz, hcell, hwz⟩⟩
  clear hA0 hval0
  refine (walk a0 len0 cap0 z0 W w0).mono fun e W' ⟨he, bel⟩ => ?_
  subst he
  exact ⟨_, rfl, _, _, _, [], _, [], hW', trodAll_mk1 (shut_bool Try.underlying4 _), (trodAll_cons_mk (Below.trod laidOut (by kernel_rfl) (of_decide_eq_true (by kernel_rfl)) k0 bel lt0) trodAll_mk0), rfl, bel.frame _, fun h => by cases h⟩

theorem over : Rows.fnNearRow.holds Try.pinned (OpenSpec.ofChange Rows.fnNearSpec) :=
  OpenClaim.holds_of_wide 3 Try.f3 rfl rfl rfl rfl rfl rfl rfl ⟨rfl, rfl, rfl, rfl, rfl⟩ rfl rfl rfl rfl rfl (by kernel_rfl) Try.func3 (by kernel_rfl)
    (of_decide_eq_true (by kernel_rfl)) (by unfold Func.isWrapper; first | (rw [if_pos (by decide +kernel)]; kernel_rfl) | (rw [if_neg (by decide +kernel)]; exact ⟨rfl, rfl⟩))
    (fun os started H enc _ => lifted os started H enc)

end Go.Proofs.Ytloicicgcdfgnaa.fnNear

namespace Go.Proofs.Ytloicicgcdfgnaa
/-- The given statement. -/
theorem fnNear_holds : Rows.FnNearSaid := fnNear.over
#print axioms fnNear_holds
end Go.Proofs.Ytloicicgcdfgnaa
