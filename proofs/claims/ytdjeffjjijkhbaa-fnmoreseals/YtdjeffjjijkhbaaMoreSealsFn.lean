/-
  More seals prove no less.
-/
import Derived.Test.YtdjeffjjijkhbaaRows
import Derived.WalkKit
import Derived.ProofKit
import Derived.OpenShut
import Derived.ShutString
import Derived.ChangeOld
import Derived.Below
import Derived.Test.YtdjeffjjijkhbaaIm
import Derived.Test.YtdjeffjjijkhbaaDm
import Derived.Test.YtdjeffjjijkhbaaMq
import Derived.Test.YtdjeffjjijkhbaaLks
import Derived.RegionTactic
namespace Go.Proofs.Ytdjeffjjijkhbaa.fnMoreSeals
open Go.ChangeShapes Go.WideShapes Go.ChangeAt Go.RowKit
open Go.ChangeMaps (open_string shut_string)
set_option linter.unusedVariables false
set_option linter.unusedSimpArgs false

theorem own : ownKnob Try.prog.godebug = none := by kernel_rfl
theorem laidOut : laidOutB Try.prog = true := by kernel_rfl

/-- WHAT THE WALK IS TOLD OF A SLICE OF INTEGERS THAT CAME IN: it is nil; or it leads to a row of 'cap' cells, the numbers 'zs' (the first 'len' are its elements, the rest its spare room), each fitting its kind. -/
def IsRow (k : IntKind) (w : World) (a : Option Addr) (len cap : Nat) (zs : List Int) : Prop :=
  (a = none ∧ len = 0 ∧ cap = 0 ∧ zs = []) ∨
  ∃ x, a = some x ∧ len ≤ cap ∧ cap ≤ maxLen ∧ zs.length = cap ∧ (∀ i, i < zs.length → w.cell? (x.add i) = some (.int k (zs.getD i 0))) ∧ ∀ n ∈ zs, (Lit.int k n).wf = true

open Ls (Row)
open Ow (Own)
open Sb (S3 es Row3)
open Og (OwnS)
open Mg (RT MG CF PO BR)
/-- Keys, two lists, the merged one. -/
structure Lw (w w' : World) (gk nk ck : Nat) (zs : List Int) (ga na ca : Nat) (A : List S3) (gb nb cb : Nat) (C : List S3) (gm nm cm : Nat) (L : List S3) : Prop where
  K : Own w' w.heap.size gk nk ck zs
  A : OwnS w' w.heap.size ga na ca A
  C : OwnS w' w.heap.size gb nb cb C
  M : OwnS w' w.heap.size gm nm cm L
  BB : Below w.heap.size w w'
theorem Lw.below {w w1 w2 : World} {gk nk ck : Nat} {zs : List Int} {ga na ca : Nat} {A : List S3} {gb nb cb : Nat} {C : List S3} {gm nm cm : Nat} {L : List S3} (h : Lw w w1 gk nk ck zs ga na ca A gb nb cb C gm nm cm L) (b : Below w1.heap.size w1 w2) : Lw w w2 gk nk ck zs ga na ca A gb nb cb C gm nm cm L :=
  ⟨h.K.later b h.K.lt, Og.own_below h.A b, Og.own_below h.C b, Og.own_below h.M b, h.BB.trans (b.mono h.BB.size)⟩

theorem code_of {w : World} {a : Option Addr} {len cap : Nat} {zs : List Int} (h : IsRow .u8 w a len cap zs) (hl : len ≤ 4096) : Dr.Code w w.heap.size a len := by
  refine ⟨hl, ?_⟩
  rcases h with ⟨_, h, _, _⟩ | ⟨x, rfl, h1, h2, h3, h4, h5⟩
  · exact .inl h
  · by_cases h0 : len = 0
    · exact .inl h0
    · obtain ⟨b, off, spot⟩ := x
      have hc := h4 0 (by omega)
      have hs : spot = none := by simpa [Addr.add] using World.cell?_spot hc
      subst hs
      have hb := World.block_lt_of_cell? _ _ hc
      refine .inr ⟨b, off, rfl, by simpa [Addr.add] using hb, fun k hk => ⟨zs.getD k 0, ?_, ?_⟩⟩
      · have hk4 := h4 k (by omega)
        by_cases hk0 : k = 0
        · subst hk0; simpa [Addr.add] using hk4
        · simpa [Addr.add, hk0] using hk4
      · have e : zs.getD k 0 = zs[k]'(by omega) := by simp [List.getD, show k < zs.length by omega]
        refine bounds_u8 (h5 _ ?_)
        rw [e]
        exact List.getElem_mem _

theorem small (a : Option Addr) (len cap : Nat) (h : len ≤ 4096) (w : World) : Calls Try.prog 9 #[.slice a len cap] w fun e w' => e = .returned (.bool false) ∧ w' = w := by
  have h' : ¬ (4096 : Int) < len := by omega
  go_enter Try.func9, Try.ntmps9
  go_wp2
  go_ret
  exact ⟨rfl, rfl⟩

theorem great (a : Option Addr) (len cap : Nat) (h : ¬ len ≤ 4096) (w : World) : Calls Try.prog 9 #[.slice a len cap] w fun e w' => e = .returned (.bool true) ∧ w' = w := by
  have h' : (4096 : Int) < len := by omega
  go_enter Try.func9, Try.ntmps9
  go_wp2
  go_ret
  exact ⟨rfl, rfl⟩

/-! The walk. -/
set_option maxHeartbeats 20000000 in
set_option maxRecDepth 100000 in
theorem walk (a0 : Option Addr) (len0 cap0 : Nat) (z0 : List Int) (w : World) (w0 : IsRow .u8 w a0 len0 cap0 z0) :
    Calls Try.prog 4 #[.slice a0 len0 cap0] w fun e w' => e = .returned (.bool true) ∧ Below w.heap.size w w' := by
  by_cases hl : len0 ≤ 4096
  · have code := code_of w0 hl
    clear w0
    go_enter Try.func4, Try.ntmps4
    go_wp2_with fail
    refine (small a0 len0 cap0 hl _).mono ?_
    rintro e w ⟨rfl, rfl⟩
    go_wp2_with fail
    refine (Dm.drawMerged w.heap.size a0 len0 cap0 w (Nat.le_refl _) code).mono ?_
    rintro e w1 ⟨⟨gk, nk, ck, ga, na, ca, gb, nb, cb, rfl, ⟨n1, n2, n3⟩, zs, A, C, hk, oa, oc⟩, b1⟩
    have s1 := b1.size
    go_wp2_with fail
    refine (Dm.drawProof w.heap.size a0 len0 cap0 w1 s1 (code.later b1)).mono ?_
    rintro e w9 ⟨⟨K9, L9, fr, ro, rfl, ⟨f0, f1⟩, r0, r1⟩, b9⟩
    replace hk := hk.later b9 hk.lt
    replace oa := Og.own_below oa b9
    replace oc := Og.own_below oc b9
    replace b1 := b1.trans (b9.mono s1)
    replace s1 := b1.size
    clear b9
    have lA : A.length = na := Og.OwnS.len oa
    have lC : C.length = nb := Og.OwnS.len oc
    have hnk : nk ≤ 1048576 := by omega
    have hT := Mg.rt_tells zs nk
    go_wp2_with fail
    refine (Mi.i_MergedSeals _ nk ck zs _ na ca A _ nb cb C _ hk.row hnk (Og.OwnS.row oa) (by omega) (Og.OwnS.row oc) (by omega)).mono ?_
    rintro e w2 ⟨⟨gm, cm, rfl, om⟩, b2⟩
    have hmle : (MG (RT zs nk) (A ++ C)).length ≤ 16 := by have := Mg.MG_len (RT zs nk) (A ++ C); simp [lA, lC] at this; omega
    obtain ⟨L, hL⟩ : ∃ L, MG (RT zs nk) (A ++ C) = L := ⟨_, rfl⟩
    have HL : Hid (MG (RT zs nk) (A ++ C) = L) := hL
    rw [hL] at om hmle
    rw [hL]
    obtain ⟨nm, hnm⟩ : ∃ nm, L.length = nm := ⟨_, rfl⟩
    rw [hnm] at om hmle
    rw [hnm]
    have LW : Lw w w2 gk nk ck zs ga na ca A gb nb cb C gm nm cm L := ⟨hk.later b2 hk.lt, Og.own_below oa b2, Og.own_below oc b2, Og.own_low om s1, b1.trans (b2.mono s1)⟩
    clear hk oa oc om b1 b2
    have HF : Hid (-1 ≤ fr ∧ fr ≤ 3) := ⟨f0, f1⟩
    clear f0 f1 r0 r1 hl
    go_wp2_with fail
    refine (Mi.i_CountFor _ nk ck zs _ nm cm L ro _ LW.K.row hnk (Og.OwnS.row LW.M) (by omega)).mono ?_
    rintro e y1 ⟨rfl, b1⟩
    replace LW := LW.below b1
    clear b1
    obtain ⟨cl, hcl⟩ : ∃ c, CF zs nk L ro = c := ⟨_, rfl⟩
    have HCL : Hid (CF zs nk L ro = cl) := hcl
    clear hcl
    rw [HCL.out]
    go_wp2_with fail
    refine (Mg.s_MergedSeals _ nk ck zs _ na ca A _ nb cb C _ LW.K.row hnk (Og.OwnS.row LW.A) (by omega) (Og.OwnS.row LW.C) (by omega)).mono ?_
    rintro e y2 ⟨⟨g2, c2, rfl, o2⟩, b2⟩
    have q2 : MG (RT zs nk) (A ++ C) = L := HL.out
    rw [q2, hnm] at o2
    rw [q2, hnm]
    replace LW := LW.below b2
    clear b2 q2
    go_wp2_with fail
    refine (Mg.likeSeals _ _ nm cm c2 L _ (Og.OwnS.row LW.M) (Og.OwnS.row o2) (by omega)).mono ?_
    rintro e z2 ⟨rfl, d2⟩
    replace LW := LW.below d2
    clear d2 o2
    go_wp2_with fail
    refine (Mg.s_CountFor _ nk ck zs _ nm cm L ro _ LW.K.row hnk (Og.OwnS.row LW.M) (by omega)).mono ?_
    rintro e y3 ⟨rfl, b3⟩
    replace LW := LW.below b3
    clear b3
    rw [HCL.out]
    go_wp2_with fail
    refine (Mi.i_CountFor _ nk ck zs _ na ca A ro _ LW.K.row hnk (Og.OwnS.row LW.A) (by omega)).mono ?_
    rintro e y4 ⟨rfl, b4⟩
    replace LW := LW.below b4
    clear b4
    obtain ⟨cA, hcA⟩ : ∃ c, CF zs nk A ro = c := ⟨_, rfl⟩
    have HCA : Hid (CF zs nk A ro = cA) := hcA
    have hle : cA ≤ cl := by rw [← hcA, ← HCL.out, ← HL.out]; exact Mg.CF_more zs nk A C ro
    clear hcA
    rw [HCA.out]
    have hle2 : decide (cl < cA) = false := decide_eq_false (by omega)
    go_wp2_with fail
    refine (Mi.i_ProofOk _ nk ck zs fr _ nm cm L ro _ LW.K.row hnk (Og.OwnS.row LW.M) (by omega)).mono ?_
    rintro e y5 ⟨rfl, b5⟩
    replace LW := LW.below b5
    clear b5
    obtain ⟨pl, hpl⟩ : ∃ c, PO zs nk fr L ro = c := ⟨_, rfl⟩
    have HPL : Hid (PO zs nk fr L ro = pl) := hpl
    have hplv : pl = (decide (0 ≤ fr) && decide (fr < (cl : Int))) := by rw [← hpl]; unfold PO; rw [HCL.out]
    clear hpl
    rw [HPL.out]
    have h3 : (fr < 0 ∧ pl = false) ∨ (0 ≤ fr ∧ fr < (cl : Int) ∧ pl = true) ∨ (0 ≤ fr ∧ ¬ fr < (cl : Int) ∧ pl = false) := by
      by_cases h : 0 ≤ fr
      · by_cases q : fr < (cl : Int)
        · exact .inr (.inl ⟨h, q, by rw [hplv, decide_eq_true h, decide_eq_true q]; rfl⟩)
        · exact .inr (.inr ⟨h, q, by rw [hplv, decide_eq_true h, decide_eq_false q]; rfl⟩)
      · exact .inl ⟨by omega, by rw [hplv, decide_eq_false h]; rfl⟩
    clear hplv
    rcases h3 with ⟨h0, rfl⟩ | ⟨h0, h1, rfl⟩ | ⟨h0, h1, rfl⟩
    · have d0 : decide (0 ≤ fr) = false := decide_eq_false (by omega)
      clear h0
      go_wp2_with fail
      refine (Mi.i_ProofOk _ nk ck zs fr _ na ca A ro _ LW.K.row hnk (Og.OwnS.row LW.A) (by omega)).mono ?_
      rintro e y21 ⟨rfl, b21⟩
      replace LW := LW.below b21
      clear b21
      have hpa : PO zs nk fr A ro = false := by
        cases h : PO zs nk fr A ro with
        | false => rfl
        | true => have q := Mg.PO_more (B := C) h; rw [HL.out, HPL.out] at q; cases q
      rw [hpa]
      clear hpa
      have wf : IntKind.i64.wrap (fr + 1) = fr + 1 := by have := HF.out; rw [IntKind.wrap_i64]; omega
      go_wp2_with fail
      refine (Mi.i_ProofOk _ nk ck zs (fr + 1) _ nm cm L ro _ LW.K.row hnk (Og.OwnS.row LW.M) (by omega)).mono ?_
      rintro e y61 ⟨rfl, b61⟩
      replace LW := LW.below b61
      clear b61
      cases hpb : PO zs nk (fr + 1) L ro with
      | false =>
        clear hpb
        go_wp2_with fail
        refine (Mi.i_BestRound _ nk ck zs fr _ nm cm L ro _ LW.K.row hnk (Og.OwnS.row LW.M) (by omega)).mono ?_
        rintro e y81 ⟨rfl, b81⟩
        replace LW := LW.below b81
        clear b81
        obtain ⟨bl, hbl⟩ : ∃ c, BR zs nk fr L ro = c := ⟨_, rfl⟩
        have HBL : Hid (BR zs nk fr L ro = bl) := hbl
        clear hbl
        rw [HBL.out]
        go_wp2_with fail
        refine (Mg.s_BestRound _ nk ck zs fr _ nm cm L ro _ LW.K.row hnk (Og.OwnS.row LW.M) (by omega)).mono ?_
        rintro e y82 ⟨rfl, b82⟩
        replace LW := LW.below b82
        clear b82
        rw [HBL.out]
        by_cases hb0 : bl = 0
        · have z0 : (bl == 0) = true := by simp [hb0]
          clear hb0
          go_wp2_with fail
          refine (Mi.i_BestRound _ nk ck zs fr _ na ca A ro _ LW.K.row hnk (Og.OwnS.row LW.A) (by omega)).mono ?_
          rintro e y91 ⟨rfl, b91⟩
          replace LW := LW.below b91
          have hge : BR zs nk fr A ro ≤ bl := by rw [← HBL.out, ← HL.out]; exact Mg.BR_more zs nk fr A C ro
          have hge2 : decide (BR zs nk fr A ro ≤ bl) = true := decide_eq_true hge
          clear b91
          go_wp2
          go_ret
          exact ⟨rfl, LW.BB⟩
        · have z0 : (bl == 0) = false := by simp [hb0]
          have hok := Mg.BR_ok zs nk fr L ro
          rw [HBL.out] at hok
          have HBP : Hid (PO zs nk fr L bl = true) := (hok.resolve_left hb0).2
          have z1 : decide (ro ≤ bl) = true := decide_eq_true (hok.resolve_left hb0).1
          clear hok hb0
          go_wp2_with fail
          refine (Mi.i_ProofOk _ nk ck zs fr _ nm cm L bl _ LW.K.row hnk (Og.OwnS.row LW.M) (by omega)).mono ?_
          rintro e y101 ⟨rfl, b101⟩
          replace LW := LW.below b101
          clear b101
          have hpo : PO zs nk fr L bl = true := HBP.out
          rw [hpo]
          clear hpo
          go_wp2_with fail
          refine (Mi.i_BestRound _ nk ck zs fr _ na ca A ro _ LW.K.row hnk (Og.OwnS.row LW.A) (by omega)).mono ?_
          rintro e y91 ⟨rfl, b91⟩
          replace LW := LW.below b91
          have hge : BR zs nk fr A ro ≤ bl := by rw [← HBL.out, ← HL.out]; exact Mg.BR_more zs nk fr A C ro
          have hge2 : decide (BR zs nk fr A ro ≤ bl) = true := decide_eq_true hge
          clear b91
          go_wp2
          go_ret
          exact ⟨rfl, LW.BB⟩
      | true =>
        clear hpb
        go_wp2_with fail
        refine (Mi.i_BestRound _ nk ck zs fr _ nm cm L ro _ LW.K.row hnk (Og.OwnS.row LW.M) (by omega)).mono ?_
        rintro e y81 ⟨rfl, b81⟩
        replace LW := LW.below b81
        clear b81
        obtain ⟨bl, hbl⟩ : ∃ c, BR zs nk fr L ro = c := ⟨_, rfl⟩
        have HBL : Hid (BR zs nk fr L ro = bl) := hbl
        clear hbl
        rw [HBL.out]
        go_wp2_with fail
        refine (Mg.s_BestRound _ nk ck zs fr _ nm cm L ro _ LW.K.row hnk (Og.OwnS.row LW.M) (by omega)).mono ?_
        rintro e y82 ⟨rfl, b82⟩
        replace LW := LW.below b82
        clear b82
        rw [HBL.out]
        by_cases hb0 : bl = 0
        · have z0 : (bl == 0) = true := by simp [hb0]
          clear hb0
          go_wp2_with fail
          refine (Mi.i_BestRound _ nk ck zs fr _ na ca A ro _ LW.K.row hnk (Og.OwnS.row LW.A) (by omega)).mono ?_
          rintro e y91 ⟨rfl, b91⟩
          replace LW := LW.below b91
          have hge : BR zs nk fr A ro ≤ bl := by rw [← HBL.out, ← HL.out]; exact Mg.BR_more zs nk fr A C ro
          have hge2 : decide (BR zs nk fr A ro ≤ bl) = true := decide_eq_true hge
          clear b91
          go_wp2
          go_ret
          exact ⟨rfl, LW.BB⟩
        · have z0 : (bl == 0) = false := by simp [hb0]
          have hok := Mg.BR_ok zs nk fr L ro
          rw [HBL.out] at hok
          have HBP : Hid (PO zs nk fr L bl = true) := (hok.resolve_left hb0).2
          have z1 : decide (ro ≤ bl) = true := decide_eq_true (hok.resolve_left hb0).1
          clear hok hb0
          go_wp2_with fail
          refine (Mi.i_ProofOk _ nk ck zs fr _ nm cm L bl _ LW.K.row hnk (Og.OwnS.row LW.M) (by omega)).mono ?_
          rintro e y101 ⟨rfl, b101⟩
          replace LW := LW.below b101
          clear b101
          have hpo : PO zs nk fr L bl = true := HBP.out
          rw [hpo]
          clear hpo
          go_wp2_with fail
          refine (Mi.i_BestRound _ nk ck zs fr _ na ca A ro _ LW.K.row hnk (Og.OwnS.row LW.A) (by omega)).mono ?_
          rintro e y91 ⟨rfl, b91⟩
          replace LW := LW.below b91
          have hge : BR zs nk fr A ro ≤ bl := by rw [← HBL.out, ← HL.out]; exact Mg.BR_more zs nk fr A C ro
          have hge2 : decide (BR zs nk fr A ro ≤ bl) = true := decide_eq_true hge
          clear b91
          go_wp2
          go_ret
          exact ⟨rfl, LW.BB⟩
    · have d0 : decide (0 ≤ fr) = true := decide_eq_true h0
      have d1 : decide (fr < (cl : Int)) = true := decide_eq_true h1
      clear h0 h1
      go_wp2_with fail
      refine (Mi.i_ProofOk _ nk ck zs fr _ na ca A ro _ LW.K.row hnk (Og.OwnS.row LW.A) (by omega)).mono ?_
      rintro e y21 ⟨rfl, b21⟩
      replace LW := LW.below b21
      clear b21
      cases hpa : PO zs nk fr A ro with
      | true =>
        clear hpa
        go_wp2_with fail
        refine (Mi.i_ProofOk _ nk ck zs fr _ nm cm L ro _ LW.K.row hnk (Og.OwnS.row LW.M) (by omega)).mono ?_
        rintro e y41 ⟨rfl, b41⟩
        replace LW := LW.below b41
        clear b41
        rw [HPL.out]
        have wf : IntKind.i64.wrap (fr + 1) = fr + 1 := by have := HF.out; rw [IntKind.wrap_i64]; omega
        go_wp2_with fail
        refine (Mi.i_ProofOk _ nk ck zs (fr + 1) _ nm cm L ro _ LW.K.row hnk (Og.OwnS.row LW.M) (by omega)).mono ?_
        rintro e y61 ⟨rfl, b61⟩
        replace LW := LW.below b61
        clear b61
        cases hpb : PO zs nk (fr + 1) L ro with
        | false =>
          clear hpb
          go_wp2_with fail
          refine (Mi.i_BestRound _ nk ck zs fr _ nm cm L ro _ LW.K.row hnk (Og.OwnS.row LW.M) (by omega)).mono ?_
          rintro e y81 ⟨rfl, b81⟩
          replace LW := LW.below b81
          clear b81
          obtain ⟨bl, hbl⟩ : ∃ c, BR zs nk fr L ro = c := ⟨_, rfl⟩
          have HBL : Hid (BR zs nk fr L ro = bl) := hbl
          clear hbl
          rw [HBL.out]
          go_wp2_with fail
          refine (Mg.s_BestRound _ nk ck zs fr _ nm cm L ro _ LW.K.row hnk (Og.OwnS.row LW.M) (by omega)).mono ?_
          rintro e y82 ⟨rfl, b82⟩
          replace LW := LW.below b82
          clear b82
          rw [HBL.out]
          by_cases hb0 : bl = 0
          · have z0 : (bl == 0) = true := by simp [hb0]
            clear hb0
            go_wp2_with fail
            refine (Mi.i_BestRound _ nk ck zs fr _ na ca A ro _ LW.K.row hnk (Og.OwnS.row LW.A) (by omega)).mono ?_
            rintro e y91 ⟨rfl, b91⟩
            replace LW := LW.below b91
            have hge : BR zs nk fr A ro ≤ bl := by rw [← HBL.out, ← HL.out]; exact Mg.BR_more zs nk fr A C ro
            have hge2 : decide (BR zs nk fr A ro ≤ bl) = true := decide_eq_true hge
            clear b91
            go_wp2
            go_ret
            exact ⟨rfl, LW.BB⟩
          · have z0 : (bl == 0) = false := by simp [hb0]
            have hok := Mg.BR_ok zs nk fr L ro
            rw [HBL.out] at hok
            have HBP : Hid (PO zs nk fr L bl = true) := (hok.resolve_left hb0).2
            have z1 : decide (ro ≤ bl) = true := decide_eq_true (hok.resolve_left hb0).1
            clear hok hb0
            go_wp2_with fail
            refine (Mi.i_ProofOk _ nk ck zs fr _ nm cm L bl _ LW.K.row hnk (Og.OwnS.row LW.M) (by omega)).mono ?_
            rintro e y101 ⟨rfl, b101⟩
            replace LW := LW.below b101
            clear b101
            have hpo : PO zs nk fr L bl = true := HBP.out
            rw [hpo]
            clear hpo
            go_wp2_with fail
            refine (Mi.i_BestRound _ nk ck zs fr _ na ca A ro _ LW.K.row hnk (Og.OwnS.row LW.A) (by omega)).mono ?_
            rintro e y91 ⟨rfl, b91⟩
            replace LW := LW.below b91
            have hge : BR zs nk fr A ro ≤ bl := by rw [← HBL.out, ← HL.out]; exact Mg.BR_more zs nk fr A C ro
            have hge2 : decide (BR zs nk fr A ro ≤ bl) = true := decide_eq_true hge
            clear b91
            go_wp2
            go_ret
            exact ⟨rfl, LW.BB⟩
        | true =>
          clear hpb
          go_wp2_with fail
          refine (Mi.i_ProofOk _ nk ck zs fr _ nm cm L ro _ LW.K.row hnk (Og.OwnS.row LW.M) (by omega)).mono ?_
          rintro e y71 ⟨rfl, b71⟩
          replace LW := LW.below b71
          clear b71
          rw [HPL.out]
          go_wp2_with fail
          refine (Mi.i_BestRound _ nk ck zs fr _ nm cm L ro _ LW.K.row hnk (Og.OwnS.row LW.M) (by omega)).mono ?_
          rintro e y81 ⟨rfl, b81⟩
          replace LW := LW.below b81
          clear b81
          obtain ⟨bl, hbl⟩ : ∃ c, BR zs nk fr L ro = c := ⟨_, rfl⟩
          have HBL : Hid (BR zs nk fr L ro = bl) := hbl
          clear hbl
          rw [HBL.out]
          go_wp2_with fail
          refine (Mg.s_BestRound _ nk ck zs fr _ nm cm L ro _ LW.K.row hnk (Og.OwnS.row LW.M) (by omega)).mono ?_
          rintro e y82 ⟨rfl, b82⟩
          replace LW := LW.below b82
          clear b82
          rw [HBL.out]
          by_cases hb0 : bl = 0
          · have z0 : (bl == 0) = true := by simp [hb0]
            clear hb0
            go_wp2_with fail
            refine (Mi.i_BestRound _ nk ck zs fr _ na ca A ro _ LW.K.row hnk (Og.OwnS.row LW.A) (by omega)).mono ?_
            rintro e y91 ⟨rfl, b91⟩
            replace LW := LW.below b91
            have hge : BR zs nk fr A ro ≤ bl := by rw [← HBL.out, ← HL.out]; exact Mg.BR_more zs nk fr A C ro
            have hge2 : decide (BR zs nk fr A ro ≤ bl) = true := decide_eq_true hge
            clear b91
            go_wp2
            go_ret
            exact ⟨rfl, LW.BB⟩
          · have z0 : (bl == 0) = false := by simp [hb0]
            have hok := Mg.BR_ok zs nk fr L ro
            rw [HBL.out] at hok
            have HBP : Hid (PO zs nk fr L bl = true) := (hok.resolve_left hb0).2
            have z1 : decide (ro ≤ bl) = true := decide_eq_true (hok.resolve_left hb0).1
            clear hok hb0
            go_wp2_with fail
            refine (Mi.i_ProofOk _ nk ck zs fr _ nm cm L bl _ LW.K.row hnk (Og.OwnS.row LW.M) (by omega)).mono ?_
            rintro e y101 ⟨rfl, b101⟩
            replace LW := LW.below b101
            clear b101
            have hpo : PO zs nk fr L bl = true := HBP.out
            rw [hpo]
            clear hpo
            go_wp2_with fail
            refine (Mi.i_BestRound _ nk ck zs fr _ na ca A ro _ LW.K.row hnk (Og.OwnS.row LW.A) (by omega)).mono ?_
            rintro e y91 ⟨rfl, b91⟩
            replace LW := LW.below b91
            have hge : BR zs nk fr A ro ≤ bl := by rw [← HBL.out, ← HL.out]; exact Mg.BR_more zs nk fr A C ro
            have hge2 : decide (BR zs nk fr A ro ≤ bl) = true := decide_eq_true hge
            clear b91
            go_wp2
            go_ret
            exact ⟨rfl, LW.BB⟩
      | false =>
        clear hpa
        have wf : IntKind.i64.wrap (fr + 1) = fr + 1 := by have := HF.out; rw [IntKind.wrap_i64]; omega
        go_wp2_with fail
        refine (Mi.i_ProofOk _ nk ck zs (fr + 1) _ nm cm L ro _ LW.K.row hnk (Og.OwnS.row LW.M) (by omega)).mono ?_
        rintro e y61 ⟨rfl, b61⟩
        replace LW := LW.below b61
        clear b61
        cases hpb : PO zs nk (fr + 1) L ro with
        | false =>
          clear hpb
          go_wp2_with fail
          refine (Mi.i_BestRound _ nk ck zs fr _ nm cm L ro _ LW.K.row hnk (Og.OwnS.row LW.M) (by omega)).mono ?_
          rintro e y81 ⟨rfl, b81⟩
          replace LW := LW.below b81
          clear b81
          obtain ⟨bl, hbl⟩ : ∃ c, BR zs nk fr L ro = c := ⟨_, rfl⟩
          have HBL : Hid (BR zs nk fr L ro = bl) := hbl
          clear hbl
          rw [HBL.out]
          go_wp2_with fail
          refine (Mg.s_BestRound _ nk ck zs fr _ nm cm L ro _ LW.K.row hnk (Og.OwnS.row LW.M) (by omega)).mono ?_
          rintro e y82 ⟨rfl, b82⟩
          replace LW := LW.below b82
          clear b82
          rw [HBL.out]
          by_cases hb0 : bl = 0
          · have z0 : (bl == 0) = true := by simp [hb0]
            clear hb0
            go_wp2_with fail
            refine (Mi.i_BestRound _ nk ck zs fr _ na ca A ro _ LW.K.row hnk (Og.OwnS.row LW.A) (by omega)).mono ?_
            rintro e y91 ⟨rfl, b91⟩
            replace LW := LW.below b91
            have hge : BR zs nk fr A ro ≤ bl := by rw [← HBL.out, ← HL.out]; exact Mg.BR_more zs nk fr A C ro
            have hge2 : decide (BR zs nk fr A ro ≤ bl) = true := decide_eq_true hge
            clear b91
            go_wp2
            go_ret
            exact ⟨rfl, LW.BB⟩
          · have z0 : (bl == 0) = false := by simp [hb0]
            have hok := Mg.BR_ok zs nk fr L ro
            rw [HBL.out] at hok
            have HBP : Hid (PO zs nk fr L bl = true) := (hok.resolve_left hb0).2
            have z1 : decide (ro ≤ bl) = true := decide_eq_true (hok.resolve_left hb0).1
            clear hok hb0
            go_wp2_with fail
            refine (Mi.i_ProofOk _ nk ck zs fr _ nm cm L bl _ LW.K.row hnk (Og.OwnS.row LW.M) (by omega)).mono ?_
            rintro e y101 ⟨rfl, b101⟩
            replace LW := LW.below b101
            clear b101
            have hpo : PO zs nk fr L bl = true := HBP.out
            rw [hpo]
            clear hpo
            go_wp2_with fail
            refine (Mi.i_BestRound _ nk ck zs fr _ na ca A ro _ LW.K.row hnk (Og.OwnS.row LW.A) (by omega)).mono ?_
            rintro e y91 ⟨rfl, b91⟩
            replace LW := LW.below b91
            have hge : BR zs nk fr A ro ≤ bl := by rw [← HBL.out, ← HL.out]; exact Mg.BR_more zs nk fr A C ro
            have hge2 : decide (BR zs nk fr A ro ≤ bl) = true := decide_eq_true hge
            clear b91
            go_wp2
            go_ret
            exact ⟨rfl, LW.BB⟩
        | true =>
          clear hpb
          go_wp2_with fail
          refine (Mi.i_ProofOk _ nk ck zs fr _ nm cm L ro _ LW.K.row hnk (Og.OwnS.row LW.M) (by omega)).mono ?_
          rintro e y71 ⟨rfl, b71⟩
          replace LW := LW.below b71
          clear b71
          rw [HPL.out]
          go_wp2_with fail
          refine (Mi.i_BestRound _ nk ck zs fr _ nm cm L ro _ LW.K.row hnk (Og.OwnS.row LW.M) (by omega)).mono ?_
          rintro e y81 ⟨rfl, b81⟩
          replace LW := LW.below b81
          clear b81
          obtain ⟨bl, hbl⟩ : ∃ c, BR zs nk fr L ro = c := ⟨_, rfl⟩
          have HBL : Hid (BR zs nk fr L ro = bl) := hbl
          clear hbl
          rw [HBL.out]
          go_wp2_with fail
          refine (Mg.s_BestRound _ nk ck zs fr _ nm cm L ro _ LW.K.row hnk (Og.OwnS.row LW.M) (by omega)).mono ?_
          rintro e y82 ⟨rfl, b82⟩
          replace LW := LW.below b82
          clear b82
          rw [HBL.out]
          by_cases hb0 : bl = 0
          · have z0 : (bl == 0) = true := by simp [hb0]
            clear hb0
            go_wp2_with fail
            refine (Mi.i_BestRound _ nk ck zs fr _ na ca A ro _ LW.K.row hnk (Og.OwnS.row LW.A) (by omega)).mono ?_
            rintro e y91 ⟨rfl, b91⟩
            replace LW := LW.below b91
            have hge : BR zs nk fr A ro ≤ bl := by rw [← HBL.out, ← HL.out]; exact Mg.BR_more zs nk fr A C ro
            have hge2 : decide (BR zs nk fr A ro ≤ bl) = true := decide_eq_true hge
            clear b91
            go_wp2
            go_ret
            exact ⟨rfl, LW.BB⟩
          · have z0 : (bl == 0) = false := by simp [hb0]
            have hok := Mg.BR_ok zs nk fr L ro
            rw [HBL.out] at hok
            have HBP : Hid (PO zs nk fr L bl = true) := (hok.resolve_left hb0).2
            have z1 : decide (ro ≤ bl) = true := decide_eq_true (hok.resolve_left hb0).1
            clear hok hb0
            go_wp2_with fail
            refine (Mi.i_ProofOk _ nk ck zs fr _ nm cm L bl _ LW.K.row hnk (Og.OwnS.row LW.M) (by omega)).mono ?_
            rintro e y101 ⟨rfl, b101⟩
            replace LW := LW.below b101
            clear b101
            have hpo : PO zs nk fr L bl = true := HBP.out
            rw [hpo]
            clear hpo
            go_wp2_with fail
            refine (Mi.i_BestRound _ nk ck zs fr _ na ca A ro _ LW.K.row hnk (Og.OwnS.row LW.A) (by omega)).mono ?_
            rintro e y91 ⟨rfl, b91⟩
            replace LW := LW.below b91
            have hge : BR zs nk fr A ro ≤ bl := by rw [← HBL.out, ← HL.out]; exact Mg.BR_more zs nk fr A C ro
            have hge2 : decide (BR zs nk fr A ro ≤ bl) = true := decide_eq_true hge
            clear b91
            go_wp2
            go_ret
            exact ⟨rfl, LW.BB⟩
    · have d0 : decide (0 ≤ fr) = true := decide_eq_true h0
      have d1 : decide (fr < (cl : Int)) = false := decide_eq_false h1
      clear h0 h1
      go_wp2_with fail
      refine (Mi.i_ProofOk _ nk ck zs fr _ na ca A ro _ LW.K.row hnk (Og.OwnS.row LW.A) (by omega)).mono ?_
      rintro e y21 ⟨rfl, b21⟩
      replace LW := LW.below b21
      clear b21
      have hpa : PO zs nk fr A ro = false := by
        cases h : PO zs nk fr A ro with
        | false => rfl
        | true => have q := Mg.PO_more (B := C) h; rw [HL.out, HPL.out] at q; cases q
      rw [hpa]
      clear hpa
      have wf : IntKind.i64.wrap (fr + 1) = fr + 1 := by have := HF.out; rw [IntKind.wrap_i64]; omega
      go_wp2_with fail
      refine (Mi.i_ProofOk _ nk ck zs (fr + 1) _ nm cm L ro _ LW.K.row hnk (Og.OwnS.row LW.M) (by omega)).mono ?_
      rintro e y61 ⟨rfl, b61⟩
      replace LW := LW.below b61
      clear b61
      have hpb : PO zs nk (fr + 1) L ro = false := by
        cases h : PO zs nk (fr + 1) L ro with
        | false => rfl
        | true => have q := Mg.PO_less h (by simpa using d0); rw [HPL.out] at q; cases q
      rw [hpb]
      clear hpb
      go_wp2_with fail
      refine (Mi.i_BestRound _ nk ck zs fr _ nm cm L ro _ LW.K.row hnk (Og.OwnS.row LW.M) (by omega)).mono ?_
      rintro e y81 ⟨rfl, b81⟩
      replace LW := LW.below b81
      clear b81
      obtain ⟨bl, hbl⟩ : ∃ c, BR zs nk fr L ro = c := ⟨_, rfl⟩
      have HBL : Hid (BR zs nk fr L ro = bl) := hbl
      clear hbl
      rw [HBL.out]
      go_wp2_with fail
      refine (Mg.s_BestRound _ nk ck zs fr _ nm cm L ro _ LW.K.row hnk (Og.OwnS.row LW.M) (by omega)).mono ?_
      rintro e y82 ⟨rfl, b82⟩
      replace LW := LW.below b82
      clear b82
      rw [HBL.out]
      by_cases hb0 : bl = 0
      · have z0 : (bl == 0) = true := by simp [hb0]
        clear hb0
        go_wp2_with fail
        refine (Mi.i_BestRound _ nk ck zs fr _ na ca A ro _ LW.K.row hnk (Og.OwnS.row LW.A) (by omega)).mono ?_
        rintro e y91 ⟨rfl, b91⟩
        replace LW := LW.below b91
        have hge : BR zs nk fr A ro ≤ bl := by rw [← HBL.out, ← HL.out]; exact Mg.BR_more zs nk fr A C ro
        have hge2 : decide (BR zs nk fr A ro ≤ bl) = true := decide_eq_true hge
        clear b91
        go_wp2
        go_ret
        exact ⟨rfl, LW.BB⟩
      · have z0 : (bl == 0) = false := by simp [hb0]
        have hok := Mg.BR_ok zs nk fr L ro
        rw [HBL.out] at hok
        have HBP : Hid (PO zs nk fr L bl = true) := (hok.resolve_left hb0).2
        have z1 : decide (ro ≤ bl) = true := decide_eq_true (hok.resolve_left hb0).1
        clear hok hb0
        go_wp2_with fail
        refine (Mi.i_ProofOk _ nk ck zs fr _ nm cm L bl _ LW.K.row hnk (Og.OwnS.row LW.M) (by omega)).mono ?_
        rintro e y101 ⟨rfl, b101⟩
        replace LW := LW.below b101
        clear b101
        have hpo : PO zs nk fr L bl = true := HBP.out
        rw [hpo]
        clear hpo
        go_wp2_with fail
        refine (Mi.i_BestRound _ nk ck zs fr _ na ca A ro _ LW.K.row hnk (Og.OwnS.row LW.A) (by omega)).mono ?_
        rintro e y91 ⟨rfl, b91⟩
        replace LW := LW.below b91
        have hge : BR zs nk fr A ro ≤ bl := by rw [← HBL.out, ← HL.out]; exact Mg.BR_more zs nk fr A C ro
        have hge2 : decide (BR zs nk fr A ro ≤ bl) = true := decide_eq_true hge
        clear b91
        go_wp2
        go_ret
        exact ⟨rfl, LW.BB⟩
  · go_enter Try.func4, Try.ntmps4
    go_wp2_with fail
    refine (great a0 len0 cap0 hl _).mono ?_
    rintro e w ⟨rfl, rfl⟩
    go_wp2
    go_ret
    exact ⟨rfl, Below.refl _ _⟩

/-! The row. -/
set_option maxRecDepth 100000 in
theorem lifted (os : Os) (started : os.Started) (H : Type) (enc : TypeId × Value → H) :
    ReturnsInHanded {} Try.checked os 4 .any (Rows.fnMoreSealsSpec.pre6 enc Try.prog Try.f4 Rows.fnMoreSealsRow.domain false) (Rows.fnMoreSealsSpec.post enc Try.prog Try.f4 false true false false) := by
  refine returnsInHanded_of_change (C := Try.checked) own started (by kernel_rfl) Try.func4
    (ChangeSpec.witness6 (enc := enc) (C := Try.checked) false ⟨#[], #[.slice none 0 0], []⟩ 8 (by kernel_rfl) (by kernel_rfl) (by kernel_rfl) (by kernel_rfl)) ?_
  intro W base args ds gs before hval0 hW hcnd _
  have hval : ∀ (j : Nat) t v, Try.f4.params[j]? = some t → args[j]? = some v → Value.okWide Try.prog W .any base t v := hval0
  have hW' := hW
  obtain ⟨p, q, hA0, hV, rfl, hfz, hnd⟩ := hW
  have hA : DataW.TrodAll enc Try.prog W 0 (fun _ => true) true Try.f4.params.toList args.toList ds p := hA0
  rw [Try.params4] at hA hval
  obtain ⟨v0, vs0, d0, ds0, p0, q0, hargs, rfl, rfl, h0, r0⟩ := trodAll_cons hA
  obtain ⟨rfl, rfl, rfl⟩ := trodAll_nil r0
  obtain rfl : args = #[v0] := by cases args; simp_all
  obtain ⟨rfl, rfl⟩ := trodVars_none hV
  obtain ⟨a0, len0, cap0, rfl⟩ := okWide_slice Try.underlying22 (hval 0 22 v0 rfl rfl)
  have k0 := h0
  have lt0 : ∀ x ∈ p0, x.block < W.heap.size := by obtain ⟨m, hm⟩ := k0; exact DataW.trod_lt m _ _ _ hm
  obtain ⟨z0, w0⟩ : ∃ zs, IsRow .u8 W a0 len0 cap0 zs := by
    obtain ⟨fuel, hf⟩ := h0
    rcases open_ints Try.underlying22 Try.underlying5 (by kernel_rfl) hf with ⟨hcs, _⟩ | ⟨x, l, c, zs, hcs, _, hl, hm, hz, _, hcell, hwz⟩
    · simp [Value.cells] at hcs
      obtain ⟨rfl, rfl, rfl⟩ := hcs
      exact ⟨[], .inl ⟨rfl, rfl, rfl, rfl⟩⟩
    · simp [Value.cells] at hcs
      obtain ⟨rfl, rfl, rfl⟩ := hcs
      exact ⟨zs, .inr ⟨_, rfl, hl, hm, by simpa using hz, hcell, hwz⟩⟩
  clear hA0 hval0
  refine (walk a0 len0 cap0 z0 W w0).mono fun e W' ⟨he, bel⟩ => ?_
  subst he
  exact ⟨_, rfl, _, _, _, [], _, [], hW', trodAll_mk1 (shut_bool Try.underlying4 _), (trodAll_cons_mk (Below.trod laidOut (by kernel_rfl) (of_decide_eq_true (by kernel_rfl)) k0 bel lt0) trodAll_mk0), rfl, bel.frame _, fun h => by cases h⟩

theorem over : Rows.fnMoreSealsRow.holds Try.pinned (OpenSpec.ofChange Rows.fnMoreSealsSpec) :=
  OpenClaim.holds_of_wide 4 Try.f4 rfl rfl rfl rfl rfl rfl rfl ⟨rfl, rfl, rfl, rfl, rfl⟩ rfl rfl rfl rfl rfl (by kernel_rfl) Try.func4 (by kernel_rfl)
    (of_decide_eq_true (by kernel_rfl)) (by unfold Func.isWrapper; first | (rw [if_pos (by decide +kernel)]; kernel_rfl) | (rw [if_neg (by decide +kernel)]; exact ⟨rfl, rfl⟩))
    (fun os started H enc _ => lifted os started H enc)

end Go.Proofs.Ytdjeffjjijkhbaa.fnMoreSeals

namespace Go.Proofs.Ytdjeffjjijkhbaa
/-- The given statement. -/
theorem fnMoreSeals_holds : Rows.FnMoreSealsSaid := fnMoreSeals.over
#print axioms fnMoreSeals_holds
end Go.Proofs.Ytdjeffjjijkhbaa
