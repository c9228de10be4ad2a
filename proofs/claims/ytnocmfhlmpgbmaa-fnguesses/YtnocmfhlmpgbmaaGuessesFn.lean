/-
  FnGuesses holds at every code: a guess about one that is up is off by at most Err, the correction lies within the guesses about these, and somebody asks. No condition.
-/
import Derived.Test.YtnocmfhlmpgbmaaRows
import Derived.WalkKit
import Derived.ProofKit
import Derived.OpenShut
import Derived.ShutString
import Derived.ChangeOld
import Derived.Below
import Derived.Test.YtnocmfhlmpgbmaaPlain
namespace Go.Proofs.Ytnocmfhlmpgbmaa.fnGuesses
open Go.ChangeShapes Go.WideShapes Go.ChangeAt Go.RowKit
open Go.ChangeMaps (open_string shut_string)
set_option linter.unusedVariables false
set_option linter.unusedSimpArgs false

theorem own : ownKnob Try.prog.godebug = none := by kernel_rfl
theorem laidOut : laidOutB Try.prog = true := by kernel_rfl

/-- WHAT THE WALK IS TOLD OF A SLICE OF INTEGERS THAT CAME IN: it is nil; or it leads to a row of 'cap' cells, the numbers 'zs' (the first 'len' are its elements, the rest its spare room), each fitting its kind. -/
def IsRow (k : IntKind) (w : World) (a : Option Addr) (len cap : Nat) (zs : List Int) : Prop :=
  (a = none ∧ len = 0 ∧ cap = 0 ∧ zs = []) ∨
  ∃ x, a = some x ∧ len ≤ cap ∧ cap ≤ maxLen ∧ zs.length = cap ∧ (∀ i, i < zs.length → w.cell? (x.add i) = some (.int k (zs.getD i 0))) ∧ ∀ n ∈ zs, (Lit.int k n).wf = true

open Ls (el Row)
open Ow (Has Own ints)
open Rd (Flags)
open Bo (eb HasB)
open Wl (KL bad z9 c9 wld WO)
open Tu (trn FK FR R1 RS TO GO GL GS CB CV MM)
open Tr (TT MV)
open Hu (mnK mxK tmK)
open Ss (RowsAt ln rw_ tot)
open Lw
theorem code_of {w : World} {a : Option Addr} {len cap : Nat} {zs : List Int} (h : IsRow .u8 w a len cap zs) (hl : len ≤ 4096) : Dr.Code w w.heap.size a len := by
  refine ⟨hl, ?_⟩
  rcases h with ⟨_, h, _, _⟩ | ⟨x, rfl, h1, h2, h3, h4, h5⟩
  · exact .inl h
  · by_cases h0 : len = 0
    · exact .inl h0
    · obtain ⟨b, off, spot⟩ := x
      have hc := h4 0 (by omega)
      have hs : spot = none := by simpa [Addr.add] using World.cell?_spot hc
      subst hs
      have hb := World.block_lt_of_cell? _ _ hc
      refine .inr ⟨b, off, rfl, by simpa [Addr.add] using hb, fun k hk => ⟨zs.getD k 0, ?_, ?_⟩⟩
      · have hk4 := h4 k (by omega)
        by_cases hk0 : k = 0
        · subst hk0; simpa [Addr.add] using hk4
        · simpa [Addr.add, hk0] using hk4
      · have e : zs.getD k 0 = zs[k]'(by omega) := by simp [List.getD, show k < zs.length by omega]
        refine bounds_u8 (h5 _ ?_)
        rw [e]
        exact List.getElem_mem _

theorem small (a : Option Addr) (len cap : Nat) (h : len ≤ 4096) (w : World) : Calls Try.prog 7 #[.slice a len cap] w fun e w' => e = .returned (.bool false) ∧ w' = w := by
  have h' : ¬ (4096 : Int) < len := by omega
  go_enter Try.func7, Try.ntmps7
  go_wp2
  go_ret
  exact ⟨rfl, rfl⟩

theorem great (a : Option Addr) (len cap : Nat) (h : ¬ len ≤ 4096) (w : World) : Calls Try.prog 7 #[.slice a len cap] w fun e w' => e = .returned (.bool true) ∧ w' = w := by
  have h' : (4096 : Int) < len := by omega
  go_enter Try.func7, Try.ntmps7
  go_wp2
  go_ret
  exact ⟨rfl, rfl⟩

/-! The walk. -/
set_option maxHeartbeats 20000000 in
set_option maxRecDepth 100000 in
theorem walk (a0 : Option Addr) (len0 cap0 : Nat) (z0 : List Int) (w : World) (w0 : IsRow .u8 w a0 len0 cap0 z0) :
    Calls Try.prog 3 #[.slice a0 len0 cap0] w fun e w' => e = .returned (.bool true) ∧ Below w.heap.size w w' := by
  by_cases hl : len0 ≤ 4096
  · have code := code_of w0 hl
    clear w0
    go_enter Try.func3, Try.ntmps3
    go_wp2_with fail
    refine (small a0 len0 cap0 hl _).mono ?_
    rintro e w ⟨rfl, rfl⟩
    go_wp2_with fail
    refine (Di.roll w.heap.size a0 len0 cap0 4 w (Nat.le_refl _) code).mono ?_
    rintro e w1 ⟨rfl, st1⟩
    have z1 := st1.lt
    go_wp2_with fail
    refine (Lw.world w.heap.size w.heap.size a0 len0 cap0 200 (by omega) (by omega) w w1 st1).mono ?_
    rintro e w2 ⟨⟨f, d, r, s, k, gK, cK, gO, cO, rfl, ks, os, hK, hO, hne, hW⟩, st2, sp2⟩
    have z2 := sp2.size
    have lK := hK.2.1
    have lO := hO.2.1
    have uK := hK.2.2.1
    have uO := hO.2.2.1
    have RW := Rm.Room.new w2 [.int .i64 k, .int .i64 f, .int .i64 d, .int .i64 r, .int .i64 1000000, .int .i64 s, .slice (some ⟨gK, 0, none⟩) k cK, .slice (some ⟨gO, 0, none⟩) k cO, .int .i64 0] 31
    have b3 : Below w2.heap.size w2 (w2.alloc (.cells #[.int .i64 k, .int .i64 f, .int .i64 d, .int .i64 r, .int .i64 1000000, .int .i64 s, .slice (some ⟨gK, 0, none⟩) k cK, .slice (some ⟨gO, 0, none⟩) k cO, .int .i64 0] 31)) := (Below.refl _ w2).alloc (Nat.le_refl _) _
    have st3 := st2.below b3
    replace hK := hK.later b3 uK
    replace hO := hO.later b3 uO
    have hz3 := b3.size
    have hlW : w2.heap.size < (w2.alloc (.cells #[.int .i64 k, .int .i64 f, .int .i64 d, .int .i64 r, .int .i64 1000000, .int .i64 s, .slice (some ⟨gK, 0, none⟩) k cK, .slice (some ⟨gO, 0, none⟩) k cO, .int .i64 0] 31)).heap.size := RW.lt (by simp)
    go_wp2_with fail
    generalize (w2.alloc (.cells #[.int .i64 k, .int .i64 f, .int .i64 d, .int .i64 r, .int .i64 1000000, .int .i64 s, .slice (some ⟨gK, 0, none⟩) k cK, .slice (some ⟨gO, 0, none⟩) k cO, .int .i64 0] 31)) = w3 at RW st3 hK hO b3 hz3 hlW ⊢
    clear st2 sp2 b3
    refine (Lw.turn w.heap.size w.heap.size a0 len0 cap0 (k : Int) f d r 1000000 s 0 _ gK k cK (some ⟨gO, 0, none⟩) k cO ks w w3 st3 hK (by omega) hW.d0 (by have := hW.d1; omega) hW.r0 (by have := hW.r1; omega) (by have := hW.k1; have := hW.f1; omega) hW.bad).mono ?_
    rintro e w4 ⟨⟨gD, cD, gF, gR, cE, cL, aE, aL, rfl, ds, es, ls, fs, rs, HT, hR⟩, st4, sp4⟩
    have z4 := sp4.size
    have hk0 : 0 < k := by have := hW.k0; have := hW.f0; omega
    have hk8 : k ≤ 8 := by have := hW.k1; have := hW.f1; omega
    have hk : k ≤ 1048576 := by omega
    replace RW := rm_step RW sp4 (by omega) (by simp)
    replace hK := has_step hK sp4 (by omega)
    replace hO := has_step hO sp4 (by omega)
    have hbase : Below w.heap.size w w4 := st4.step.fresh (Nat.le_refl _)
    obtain ⟨HD, HE, HL, HF, HRr⟩ := HT
    obtain ⟨gE, cE, eE, hgE, rE⟩ := HE.rows hk0
    cases eE
    obtain ⟨gL, cL, eL, hgL, rL⟩ := HL.rows hk0
    cases eL
    have hTO : Tu.TO (k : Int) f d r 1000000 s ks k os k 0 ds es ls fs rs k k = true := hR.to (hW.wo (by omega) 0 (by omega) (by omega)) hW.d0 (by have := hW.d1; omega) hW.r0 (by have := hW.r1; omega)
    have htE : tot es k ≤ 1048576 := Nat.le_trans (tot_small (q := 8) k (fun i hi => by have := (hR.er.2 i hi).1; unfold ln; omega)) (by omega)
    have htL : tot ls k ≤ 1048576 := Nat.le_trans (tot_small (q := 8) k (fun i hi => by have := (hR.lr.2 i hi).1; unfold ln; omega)) (by omega)
    have RT := Rm.Room.new w4 [.slice (some ⟨gD, 0, none⟩) k cD, .slice (some ⟨gE, 0, none⟩) k cE, .slice (some ⟨gL, 0, none⟩) k cL, .slice (some ⟨gF, 0, none⟩) k k, .slice (some ⟨gR, 0, none⟩) k k] 36
    have b5 : Below w4.heap.size w4 (w4.alloc (.cells #[.slice (some ⟨gD, 0, none⟩) k cD, .slice (some ⟨gE, 0, none⟩) k cE, .slice (some ⟨gL, 0, none⟩) k cL, .slice (some ⟨gF, 0, none⟩) k k, .slice (some ⟨gR, 0, none⟩) k k] 36)) := (Below.refl _ w4).alloc (Nat.le_refl _) _
    have uD := HD.lt
    replace RW := RW.below b5
    replace hK := hK.later b5 hK.2.2.1
    replace hO := hO.later b5 hO.2.2.1
    replace HD := HD.later b5 uD
    replace rE := (rE.later b5 (Nat.le_refl _)).more b5.size
    replace rL := (rL.later b5 (Nat.le_refl _)).more b5.size
    replace HF := HF.later b5 HF.2.2.1
    replace HRr := HRr.later b5 HRr.2.2.1
    replace hbase := hbase.trans (b5.mono (by omega))
    go_wp2_with fail
    generalize (w4.alloc (.cells #[.slice (some ⟨gD, 0, none⟩) k cD, .slice (some ⟨gE, 0, none⟩) k cE, .slice (some ⟨gL, 0, none⟩) k cL, .slice (some ⟨gF, 0, none⟩) k k, .slice (some ⟨gR, 0, none⟩) k k] 36)) = wT at RW RT hK hO HD rE rL HF HRr hbase b5 ⊢
    obtain ⟨iI, hiI, hI0, hI1, hI2⟩ := info_parts Ls.info
    have rO := hO.row
    have rD := HD.has.row
    have rF := HF.row
    have rR := HRr.row
    have lRW := RW.lt (by simp)
    have lRT := RT.lt (by simp)
    have lK2 := hK.2.2.1
    have lO2 := hO.2.2.1
    have lD2 := HD.lt
    have lF2 := HF.2.2.1
    clear st4 sp4 b5 st3 z4 hz3
    go_loopw [6, 7] (fun sv iv wr => ∃ j : Nat, j ≤ k ∧ iv = .int .i64 j ∧ sv = .bool (SN (k : Int) f d r 1000000 s ks k os k 0 ds es ls fs rs k k j) ∧ Below wT.heap.size wT wr) (fun _ iv _ => k - (intOf iv).toNat)
    case atStart => exact ⟨0, Nat.zero_le _, rfl, rfl, Below.refl _ _⟩
    case round =>
      obtain ⟨j, hj, rfl, rfl, hb⟩ := hrel
      by_cases hlt : j < k
      · have hi' : (j : Int) < (k : Int) := by omega
        have cw0 := (RW.below hb).cell 0 rfl
        have cw1 := (RW.below hb).cell 1 rfl
        have cw2 := (RW.below hb).cell 2 rfl
        have cw3 := (RW.below hb).cell 3 rfl
        have cw4 := (RW.below hb).cell 4 rfl
        have cw5 := (RW.below hb).cell 5 rfl
        have cw6 := (RW.below hb).cell 6 rfl
        have cw7 := (RW.below hb).cell 7 rfl
        have cw8 := (RW.below hb).cell 8 rfl
        have ct0 := (RT.below hb).cell 0 rfl
        have ct1 := (RT.below hb).cell 1 rfl
        have ct2 := (RT.below hb).cell 2 rfl
        have ct3 := (RT.below hb).cell 3 rfl
        have ct4 := (RT.below hb).cell 4 rfl
        go_wp2_with fail
        refine (Tu.i_GuessesOf (k : Int) f d r 1000000 s 0 gK 0 k cK (some ⟨gO, 0, none⟩) k cO (some ⟨gD, 0, none⟩) (some ⟨gE, 0, none⟩) (some ⟨gL, 0, none⟩) (some ⟨gF, 0, none⟩) (some ⟨gR, 0, none⟩) k cD k cE k cL k k k k ks os ds es ls fs rs _ (hK.later hb hK.2.2.1).1 (hK.later hb hK.2.2.1).2.2.2.1 (hK.later hb hK.2.2.1).2.2.1 ((rO.later hb (Nat.le_refl _)).more hb.size) ((rD.later hb (Nat.le_refl _)).more hb.size) ((rE.later hb (Nat.le_refl _)).more hb.size) ((rL.later hb (Nat.le_refl _)).more hb.size) ((rF.later hb (Nat.le_refl _)).more hb.size) ((rR.later hb (Nat.le_refl _)).more hb.size) hk hk hk hk hk hk hk htE htL (j : Int)).mono ?_
        rintro e w6 ⟨⟨gG, cG, rfl, oG⟩, b6⟩
        have ⟨hCB, hGL⟩ := go_pos hTO hlt
        obtain ⟨L, EL⟩ : ∃ L, Hid ((Tu.GO (k : Int) f d r 1000000 s ks k os k 0 ds es ls fs rs k k (j : Int)) = L) := ⟨_, rfl⟩
        rw [EL.out] at oG hCB hGL ⊢
        have HGL : Hid (0 < L.length → L = Tu.GL (Tu.FK ks fs) os ds es ls j k) := hGL
        clear hGL
        obtain ⟨bb, hbb⟩ : ∃ x, x = decide (0 < L.length) := ⟨_, rfl⟩
        have hgt : decide (0 < L.length) = bb := hbb.symm
        have hTT : Tr.TT L L.length f = bb := by rw [hbb, ← hCB]; unfold Tu.CB; rw [EL.out]
        obtain ⟨NN, EN⟩ : ∃ x, Hid (Tu.CV (k : Int) f d r 1000000 s ks k os k 0 ds es ls fs rs k k j = x) := ⟨_, rfl⟩
        have hMV : Tr.MV L L.length f = NN := by rw [← EN.out]; unfold Tu.CV; rw [EL.out]
        have HBB : Hid (bb = decide (0 < L.length)) := hbb
        have HCB : Hid (Tu.CB (k : Int) f d r 1000000 s ks k os k 0 ds es ls fs rs k k j = bb) := by unfold Hid; rw [hCB, hbb]
        clear hbb hCB
        have hLk : L.length ≤ k := by rw [← EL.out]; exact Tu.go_len _ _ _ _ _ _ _ _ _ _ _ _ _ _ _ _ _ _ _
        have uG := oG.lt
        clear cw0 cw1 cw2 cw3 cw4 cw5 cw6 cw7 cw8 ct0 ct1 ct2 ct3 ct4
        have hb6 := hb.trans (b6.mono hb.size)
        clear b6
        have cw0 := (RW.below hb6).cell 0 rfl
        have cw1 := (RW.below hb6).cell 1 rfl
        have cw2 := (RW.below hb6).cell 2 rfl
        have cw3 := (RW.below hb6).cell 3 rfl
        have cw4 := (RW.below hb6).cell 4 rfl
        have cw5 := (RW.below hb6).cell 5 rfl
        have cw6 := (RW.below hb6).cell 6 rfl
        have cw7 := (RW.below hb6).cell 7 rfl
        have cw8 := (RW.below hb6).cell 8 rfl
        have ct0 := (RT.below hb6).cell 0 rfl
        have ct1 := (RT.below hb6).cell 1 rfl
        have ct2 := (RT.below hb6).cell 2 rfl
        have ct3 := (RT.below hb6).cell 3 rfl
        have ct4 := (RT.below hb6).cell 4 rfl
        go_wp2_with fail
        refine (Tu.i_CorrectionOf (k : Int) f d r 1000000 s 0 gK 0 k cK (some ⟨gO, 0, none⟩) k cO (some ⟨gD, 0, none⟩) (some ⟨gE, 0, none⟩) (some ⟨gL, 0, none⟩) (some ⟨gF, 0, none⟩) (some ⟨gR, 0, none⟩) k cD k cE k cL k k k k ks os ds es ls fs rs _ (hK.later hb6 hK.2.2.1).1 (hK.later hb6 hK.2.2.1).2.2.2.1 (hK.later hb6 hK.2.2.1).2.2.1 ((rO.later hb6 (Nat.le_refl _)).more hb6.size) ((rD.later hb6 (Nat.le_refl _)).more hb6.size) ((rE.later hb6 (Nat.le_refl _)).more hb6.size) ((rL.later hb6 (Nat.le_refl _)).more hb6.size) ((rF.later hb6 (Nat.le_refl _)).more hb6.size) ((rR.later hb6 (Nat.le_refl _)).more hb6.size) hk hk hk hk hk hk hk htE htL (j : Int)).mono ?_
        rintro e w7 ⟨rfl, b7⟩
        rw [EL.out, hTT, hMV]
        clear hTT hMV
        clear cw0 cw1 cw2 cw3 cw4 cw5 cw6 cw7 cw8 ct0 ct1 ct2 ct3 ct4
        replace oG := oG.later b7 uG
        replace uG := oG.lt
        have hb7 := hb6.trans (b7.mono hb6.size)
        clear b7 hb6
        have cw0 := (RW.below hb7).cell 0 rfl
        have cw1 := (RW.below hb7).cell 1 rfl
        have cw2 := (RW.below hb7).cell 2 rfl
        have cw3 := (RW.below hb7).cell 3 rfl
        have cw4 := (RW.below hb7).cell 4 rfl
        have cw5 := (RW.below hb7).cell 5 rfl
        have cw6 := (RW.below hb7).cell 6 rfl
        have cw7 := (RW.below hb7).cell 7 rfl
        have cw8 := (RW.below hb7).cell 8 rfl
        have ct0 := (RT.below hb7).cell 0 rfl
        have ct1 := (RT.below hb7).cell 1 rfl
        have ct2 := (RT.below hb7).cell 2 rfl
        have ct3 := (RT.below hb7).cell 3 rfl
        have ct4 := (RT.below hb7).cell 4 rfl
        go_wp2_with fail
        refine (Tu.s_GuessesOf (k : Int) f d r 1000000 s 0 gK 0 k cK (some ⟨gO, 0, none⟩) k cO (some ⟨gD, 0, none⟩) (some ⟨gE, 0, none⟩) (some ⟨gL, 0, none⟩) (some ⟨gF, 0, none⟩) (some ⟨gR, 0, none⟩) k cD k cE k cL k k k k ks os ds es ls fs rs _ (hK.later hb7 hK.2.2.1).1 (hK.later hb7 hK.2.2.1).2.2.2.1 (hK.later hb7 hK.2.2.1).2.2.1 ((rO.later hb7 (Nat.le_refl _)).more hb7.size) ((rD.later hb7 (Nat.le_refl _)).more hb7.size) ((rE.later hb7 (Nat.le_refl _)).more hb7.size) ((rL.later hb7 (Nat.le_refl _)).more hb7.size) ((rF.later hb7 (Nat.le_refl _)).more hb7.size) ((rR.later hb7 (Nat.le_refl _)).more hb7.size) hk hk hk hk (j : Int)).mono ?_
        rintro e w8 ⟨⟨gS, cS, rfl, oS⟩, b8⟩
        rw [EL.out] at oS ⊢
        clear cw0 cw1 cw2 cw3 cw4 cw5 cw6 cw7 cw8 ct0 ct1 ct2 ct3 ct4
        replace oG := oG.later b8 uG
        replace uG := oG.lt
        have hb8 := hb7.trans (b8.mono hb7.size)
        clear b8 hb7
        go_wp2_with fail
        refine (Ls.likeInts _ _ _ _ _ L _ oG.has.row oS.has.row (by omega)).mono ?_
        rintro e w9 ⟨rfl, b9⟩
        clear oS
        replace oG := oG.later b9 uG
        replace uG := oG.lt
        have hb9 := hb8.trans (b9.mono hb8.size)
        clear b9 hb8 hgt
        go_wp2_with fail
        have bA : Below w9.heap.size w9 (w9.alloc (.cells #[] 2)) := (Below.refl _ w9).alloc (Nat.le_refl _) _
        go_loopw [11, 12] (fun gv kv wr => ∃ (q g c : Nat), q ≤ L.length ∧ kv = .int .i64 q ∧ gv = .slice (some ⟨g, 0, none⟩) (GD (Tu.FK ks fs) os ds es ls j q).length c ∧ Ow.Own wr w9.heap.size g (GD (Tu.FK ks fs) os ds es ls j q).length c (GD (Tu.FK ks fs) os ds es ls j q) ∧ Below w9.heap.size w9 wr) (fun _ kv _ => L.length - (intOf kv).toNat)
        case atStart => exact ⟨0, _, _, Nat.zero_le _, rfl, rfl, World.ownsRow_made w9 #[] 0 (Nat.le_refl _) (by unfold maxLen; omega) rfl, bA⟩
        case round =>
          obtain ⟨q, g, c, hq, rfl, rfl, ho, hbi⟩ := hrel
          have hbr := hb9.trans (hbi.mono hb9.size)
          have oGr := oG.later hbi uG
          have hgB := ho.data.2.1
          by_cases hql : q < L.length
          · have hi2 : (q : Int) < (L.length : Int) := by omega
            have HLG : Hid (L = Tu.GL (Tu.FK ks fs) os ds es ls j k) := HGL.out (by omega)
            have hqk : q < k := by omega
            have HFK : Hid (el (Tu.FK ks fs) q = if eb fs q = true then 1 else el ks q) := fk_at ks fs q (by have := hK.1; omega)
            have ck := (hK.later hbr lK2).2.2.2.1 q hqk
            have cf := (HF.later hbr lF2).2.2.2.1 q hqk
            rw [Nat.zero_add] at ck cf
            have cw6 := (RW.below hbr).cell 6 rfl
            have ct3 := (RT.below hbr).cell 3 rfl
            by_cases h0 : el ks q = 0
            · rw [h0] at ck
              cases hf : eb fs q with
              | true =>
                rw [hf] at cf
                have hs : Hid (GD (Tu.FK ks fs) os ds es ls j (q + 1) = GD (Tu.FK ks fs) os ds es ls j q) := by unfold Hid; rw [GD, if_neg (by rw [HFK.out, hf]; simp)]
                go_wp2_with fail
                clear ck cf cw6 ct3
                go_roundw
                case rel => exact ⟨q + 1, g, c, by omega, by go_num, by rw [hs.out], by rw [hs.out]; exact ho, hbi⟩
                case measure => simp [intOf]; omega
              | false =>
                rw [hf] at cf
                have hz0 : el (Tu.FK ks fs) q = 0 := by rw [HFK.out, hf, h0]; rfl
                obtain ⟨g1, g2⟩ := Tu.guess_err hTO hlt hqk hz0
                have hGq : el L q = Tu.GS (Tu.FK ks fs) os ds es ls j q := by rw [HLG.out]; exact Tu.gl_el _ _ _ _ _ _ hqk
                rw [← hGq] at g1 g2
                have hs : Hid (GD (Tu.FK ks fs) os ds es ls j (q + 1) = GD (Tu.FK ks fs) os ds es ls j q ++ [el L q]) := by unfold Hid; rw [GD, if_pos hz0, hGq]
                unfold Tu.MM at g1 g2
                have o1 := hW.lo q hqk
                have o2 := hW.lo j hlt
                have e1 := hR.d1 _ (el_mem (by rw [hR.dl]; exact hqk))
                have e2 := hR.d1 _ (el_mem (by rw [hR.dl]; exact hlt))
                have qd0 := hW.d0
                have qd1 := hW.d1
                have qr0 := hW.r0
                have qr1 := hW.r1
                have co := (hO.later hbr lO2).2.2.2.1 q hqk
                have co2 := (hO.later hbr lO2).2.2.2.1 j hlt
                have cd := (HD.later hbr lD2).has.2.2.2.1 q hqk
                have cd2 := (HD.later hbr lD2).has.2.2.2.1 j hlt
                have cg := oGr.has.2.2.2.1 q hql
                rw [Nat.zero_add] at co co2 cd cd2 cg
                clear hGq
                generalize el os q = A at g1 g2 o1 co
                generalize el ds q = D at g1 g2 e1 cd
                generalize hA0 : el os j = A0 at g1 g2 o2 co2
                generalize hD0 : el ds j = D0 at g1 g2 e2 cd2
                generalize hG : el L q = G at g1 g2 cg hs
                clear hA0 hD0 hG
                obtain ⟨X1, qX1⟩ : ∃ x : Int, x = A + D := ⟨_, rfl⟩
                have vX1 : IntKind.i64.wrap (A + D) = X1 := by rw [IntKind.wrap_i64]; omega
                obtain ⟨X2, qX2⟩ : ∃ x : Int, x = X1 - A0 := ⟨_, rfl⟩
                have vX2 : IntKind.i64.wrap (X1 - A0) = X2 := by rw [IntKind.wrap_i64]; omega
                obtain ⟨X3, qX3⟩ : ∃ x : Int, x = X2 - D0 := ⟨_, rfl⟩
                have vX3 : IntKind.i64.wrap (X2 - D0) = X3 := by rw [IntKind.wrap_i64]; omega
                obtain ⟨X4, qX4⟩ : ∃ x : Int, x = G - X3 := ⟨_, rfl⟩
                have vX4 : IntKind.i64.wrap (G - X3) = X4 := by rw [IntKind.wrap_i64]; omega
                obtain ⟨X5, qX5⟩ : ∃ x : Int, x = X3 - G := ⟨_, rfl⟩
                have vX5 : IntKind.i64.wrap (X3 - G) = X5 := by rw [IntKind.wrap_i64]; omega
                have c4 : decide (r < X4) = false := decide_eq_false (by omega)
                have c5 : decide (r < X5) = false := decide_eq_false (by omega)
                clear g1 g2 qX1 qX2 qX3 qX4 qX5
                have cw2 := (RW.below hbr).cell 7 rfl
                have ct0 := (RT.below hbr).cell 0 rfl
                have cwr := (RW.below hbr).cell 3 rfl
                go_wp2_with fail
                go_quiet (fail)
                go_wp2_with fail
                go_quiet (fail)
                go_wp2_with (at_builtin; refine wpList_append_own _ rfl (.tmp 122) (.tmp 127) 29 rfl w9.heap.size 2 iI (.int .i64 0) 1 8 Try.underlying29 hiI hI0 hI1 hI2 rfl (by decide) _ _ _ rfl (World.ownsRow.alloc (w := _) ho _) ⟨wr.heap.size, 0, none⟩ 1 1 (ints [G]) rfl rfl (Ow.one_new _ G _ _ rfl) (Ow.one _) (by have := gd_le (Tu.FK ks fs) os ds es ls j q; unfold maxLen; omega) (by have := gd_le (Tu.FK ks fs) os ds es ls j q; omega) (by have := hbi.size; simp; omega) ?_; intro v2 w10 hx2 hg2 hn2)
                obtain ⟨g2, c2, rfl, ho2⟩ := Rw.more (w1 := wr) (g := g) (c := c) hx2 (Ow.no_nil hn2 rfl)
                replace hg2 : World.grownBy _ w10 (some g) := hg2
                have hbx : Below w9.heap.size w9 w10 := ((below_drewN hbi _).alloc (by have := hbi.size; exact this) _).grown hg2 (by have := hbi.size; simp; omega) (by intro y hy; cases hy; exact hgB)
                clear hx2 hg2 hn2
                go_wp2_with fail
                go_roundw
                case rel => exact ⟨q + 1, g2, c2, by omega, by go_num, by rw [hs.out, List.length_append]; rfl, by rw [hs.out, List.length_append]; exact ho2, hbx⟩
                case measure => simp [intOf]; omega
            · have hne0 : (el ks q != 0) = true := by simp [h0]
              have hs : Hid (GD (Tu.FK ks fs) os ds es ls j (q + 1) = GD (Tu.FK ks fs) os ds es ls j q) := by unfold Hid; rw [GD, if_neg (by rw [HFK.out]; split <;> simp [h0])]
              go_wp2_with fail
              clear ck cf cw6 ct3
              go_roundw
              case rel => exact ⟨q + 1, g, c, by omega, by go_num, by rw [hs.out], by rw [hs.out]; exact ho, hbi⟩
              case measure => simp [intOf]; omega
          · have e : L.length = q := by omega
            subst e
            have hi2 : ¬ (L.length : Int) < (L.length : Int) := by omega
            cases hB : bb with
            | false =>
              have hsn : Hid (SN (k : Int) f d r 1000000 s ks k os k 0 ds es ls fs rs k k (j + 1) = SN (k : Int) f d r 1000000 s ks k os k 0 ds es ls fs rs k k j) := by unfold Hid; rw [SN, HCB.out, hB]; simp
              go_wp2_with fail
              go_roundw
              case rel => exact ⟨j + 1, by omega, by go_num, by rw [hsn.out], hbr⟩
              case measure => simp [intOf]; omega
            | true =>
              have hsn : Hid (SN (k : Int) f d r 1000000 s ks k os k 0 ds es ls fs rs k k (j + 1) = true) := by unfold Hid; rw [SN, HCB.out, hB]; simp
              have hpos : 0 < L.length := of_decide_eq_true (by rw [← HBB.out]; exact hB)
              have HLG : Hid (L = Tu.GL (Tu.FK ks fs) os ds es ls j k) := HGL.out hpos
              have hkL : Hid (L.length = k) := by unfold Hid; rw [HLG.out, Tu.gl_len]
              obtain ⟨go1, go2⟩ := good_in hTO hlt (HCB.out.trans hB)
              rw [EN.out] at go1
              obtain ⟨Z, hZ⟩ : ∃ Z, (GD (Tu.FK ks fs) os ds es ls j k) = Z := ⟨_, rfl⟩
              have hZl := gd_le (Tu.FK ks fs) os ds es ls j k
              rw [hZ] at go1 go2 hZl
              have hZ2 : (GD (Tu.FK ks fs) os ds es ls j L.length) = Z := by rw [hkL.out]; exact hZ
              rw [hZ2] at ho ⊢
              clear hZ hZ2
              go_wp2_with fail
              refine (Hu.s_Hull _ Z.length c Z _ ho.has.row (by omega)).mono ?_
              rintro e w11 ⟨rfl, b11⟩
              rw [go2]
              simp only [Sp.pk_t]
              obtain ⟨lo, elo⟩ : ∃ x, x = Hu.mnK Z Z.length := ⟨_, rfl⟩
              obtain ⟨hi, ehi⟩ : ∃ x, x = Hu.mxK Z Z.length := ⟨_, rfl⟩
              rw [← elo, ← ehi] at go1 ⊢
              clear elo ehi
              have d1 : decide (NN < lo) = false := decide_eq_false (by omega)
              have d2 : decide (hi < NN) = false := decide_eq_false (by omega)
              clear go1
              have hb11 := hbr.trans (b11.mono hbr.size)
              have bS : Below w11.heap.size w11 (w11.alloc (.cells #[.int .i64 lo, .int .i64 hi] 43)) := (Below.refl _ w11).alloc (Nat.le_refl _) _
              go_wp2_with fail
              go_roundw
              case rel => exact ⟨j + 1, by omega, by go_num, by rw [hsn.out], hb11.trans (bS.mono hb11.size)⟩
              case measure => simp [intOf]; omega
      · have e : k = j := by omega
        subst e
        have hi' : ¬ (k : Int) < (k : Int) := by omega
        have cw0 := (RW.below hb).cell 0 rfl
        have cw1 := (RW.below hb).cell 1 rfl
        have cw2 := (RW.below hb).cell 2 rfl
        have cw3 := (RW.below hb).cell 3 rfl
        have cw4 := (RW.below hb).cell 4 rfl
        have cw5 := (RW.below hb).cell 5 rfl
        have cw6 := (RW.below hb).cell 6 rfl
        have cw7 := (RW.below hb).cell 7 rfl
        have cw8 := (RW.below hb).cell 8 rfl
        rw [sn_all hTO]
        go_wp2_with fail
        go_ret
        exact ⟨rfl, hbase.trans (hb.mono (by omega))⟩
  · go_enter Try.func3, Try.ntmps3
    go_wp2_with (go_at_call 7; refine (great a0 len0 cap0 hl _).mono ?_; rintro e w' ⟨rfl, rfl⟩)
    go_ret
    exact ⟨rfl, Below.refl _ _⟩

/-! The row. -/
set_option maxRecDepth 100000 in
theorem lifted (os : Os) (started : os.Started) (H : Type) (enc : TypeId × Value → H) :
    ReturnsInHanded {} Try.checked os 3 .any (Rows.fnGuessesSpec.pre6 enc Try.prog Try.f3 Rows.fnGuessesRow.domain false) (Rows.fnGuessesSpec.post enc Try.prog Try.f3 false true false false) := by
  refine returnsInHanded_of_change (C := Try.checked) own started (by kernel_rfl) Try.func3
    (ChangeSpec.witness6 (enc := enc) (C := Try.checked) false ⟨#[], #[.slice none 0 0], []⟩ 8 (by kernel_rfl) (by kernel_rfl) (by kernel_rfl) (by kernel_rfl)) ?_
  intro W base args ds gs before hval0 hW hcnd _
  have hval : ∀ (j : Nat) t v, Try.f3.params[j]? = some t → args[j]? = some v → Value.okWide Try.prog W .any base t v := hval0
  have hW' := hW
  obtain ⟨p, q, hA0, hV, rfl, hfz, hnd⟩ := hW
  have hA : DataW.TrodAll enc Try.prog W 0 (fun _ => true) true Try.f3.params.toList args.toList ds p := hA0
  rw [Try.params3] at hA hval
  obtain ⟨v0, vs0, d0, ds0, p0, q0, hargs, rfl, rfl, h0, r0⟩ := trodAll_cons hA
  obtain ⟨rfl, rfl, rfl⟩ := trodAll_nil r0
  obtain rfl : args = #[v0] := by cases args; simp_all
  obtain ⟨rfl, rfl⟩ := trodVars_none hV
  obtain ⟨a0, len0, cap0, rfl⟩ := okWide_slice Try.underlying22 (hval 0 22 v0 rfl rfl)
  have k0 := h0
  have lt0 : ∀ x ∈ p0, x.block < W.heap.size := by obtain ⟨m, hm⟩ := k0; exact DataW.trod_lt m _ _ _ hm
  obtain ⟨z0, w0⟩ : ∃ zs, IsRow .u8 W a0 len0 cap0 zs := by
    obtain ⟨fuel, hf⟩ := h0
    rcases open_ints Try.underlying22 Try.underlying5 (by kernel_rfl) hf with ⟨hcs, _⟩ | ⟨x, l, c, zs, hcs, _, hl, hm, hz, _, hcell, hwz⟩
    · simp [Value.cells] at hcs
      obtain ⟨rfl, rfl, rfl⟩ := hcs
      exact ⟨[], .inl ⟨rfl, rfl, rfl, rfl⟩⟩
    · simp [Value.cells] at hcs
      obtain ⟨rfl, rfl, rfl⟩ := hcs
      exact ⟨zs, .inr ⟨_, rfl, hl, hm, by simpa using hz, hcell, hwz⟩⟩
  clear hA0 hval0
  refine (walk a0 len0 cap0 z0 W w0).mono fun e W' ⟨he, bel⟩ => ?_
  subst he
  exact ⟨_, rfl, _, _, _, [], _, [], hW', trodAll_mk1 (shut_bool Try.underlying4 _), (trodAll_cons_mk (Below.trod laidOut (by kernel_rfl) (of_decide_eq_true (by kernel_rfl)) k0 bel lt0) trodAll_mk0), rfl, bel.frame _, fun h => by cases h⟩

theorem over : Rows.fnGuessesRow.holds Try.pinned (OpenSpec.ofChange Rows.fnGuessesSpec) :=
  OpenClaim.holds_of_wide 3 Try.f3 rfl rfl rfl rfl rfl rfl rfl ⟨rfl, rfl, rfl, rfl, rfl⟩ rfl rfl rfl rfl rfl (by kernel_rfl) Try.func3 (by kernel_rfl)
    (of_decide_eq_true (by kernel_rfl)) (by unfold Func.isWrapper; first | (rw [if_pos (by decide +kernel)]; kernel_rfl) | (rw [if_neg (by decide +kernel)]; exact ⟨rfl, rfl⟩))
    (fun os started H enc _ => lifted os started H enc)

end Go.Proofs.Ytnocmfhlmpgbmaa.fnGuesses

namespace Go.Proofs.Ytnocmfhlmpgbmaa
/-- The given statement. -/
theorem fnGuesses_holds : Rows.FnGuessesSaid := fnGuesses.over
#print axioms fnGuesses_holds
end Go.Proofs.Ytnocmfhlmpgbmaa
