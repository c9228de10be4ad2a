/-
  impl.CountFor, impl.ProofOk.
-/
import Derived.Test.YtdjeffjjijkhbaaWh
namespace Go.Proofs.Ytdjeffjjijkhbaa.Mi
open Go.ChangeShapes Go.WideShapes Go.ChangeAt Go.RowKit
open Ls (Row)
open Rm (Room)
open Sb (S3 es fl sl Row3 SHas)
open Og (OwnS)
open Mg
open Sl (SR)
set_option linter.unusedVariables false
set_option linter.unusedSimpArgs false

theorem FL.new (w : World) (t : TypeId) : FL (w.alloc (.cells #[.bool false, .bool false, .bool false, .bool false, .bool false, .bool false, .bool false, .bool false, .bool false, .bool false, .bool false, .bool false, .bool false, .bool false, .bool false, .bool false] t)) w.heap.size 0 (fun _ => false) := fun k hk => by
  have R := Room.new w [.bool false, .bool false, .bool false, .bool false, .bool false, .bool false, .bool false, .bool false, .bool false, .bool false, .bool false, .bool false, .bool false, .bool false, .bool false, .bool false] t
  rw [Nat.zero_add]
  exact R k (.bool false) (by
    match k, hk with
    | 0, _ => rfl
    | 1, _ => rfl
    | 2, _ => rfl
    | 3, _ => rfl
    | 4, _ => rfl
    | 5, _ => rfl
    | 6, _ => rfl
    | 7, _ => rfl
    | 8, _ => rfl
    | 9, _ => rfl
    | 10, _ => rfl
    | 11, _ => rfl
    | 12, _ => rfl
    | 13, _ => rfl
    | 14, _ => rfl
    | 15, _ => rfl
    | k + 16, hk => omega)
/-- The flags, a seal of one's own. -/
structure Cu (w w' : World) (q : Nat) (x : S3) (F : Nat → Bool) : Prop where
  FX : FL w' w.heap.size 0 F
  RX : Room w' q (c3 x)
  BB : Below w.heap.size w w'
  hq : w.heap.size < q
  hg : w.heap.size < w'.heap.size
theorem Cu.below {w w' w2 : World} {q : Nat} {x : S3} {F : Nat → Bool} (h : Cu w w' q x F) (b : Below w'.heap.size w' w2) : Cu w w2 q x F := ⟨h.FX.block (b.block _ h.hg), h.RX.below b, h.BB.trans (b.mono h.BB.size), h.hq, by have := b.size; have := h.hg; omega⟩
theorem Cu.lay {w wr : World} {q : Nat} {F : Nat → Bool} (x : S3) (FX : FL wr w.heap.size 0 F) (BB : Below w.heap.size w wr) (hg : w.heap.size < wr.heap.size) (hq : q = wr.heap.size) : Cu w (wr.alloc (.cells #[.int .i64 x.1, .int .i64 x.2.1, .int .i64 x.2.2] 32)) q x F :=
  ⟨FX.block (((Below.refl wr.heap.size wr).alloc (Nat.le_refl _) _).block _ hg), Room.at wr (c3 x) 32 q hq, BB.alloc BB.size _, by omega, by simp; omega⟩
theorem Cu.up {w w' : World} {q : Nat} {x : S3} {F : Nat → Bool} (h : Cu w w' q x F) (j : Nat) : FL (w'.setCell ⟨w.heap.size, j, none⟩ (.bool true)) w.heap.size 0 (Mi.up F j) ∧ Below w.heap.size w (w'.setCell ⟨w.heap.size, j, none⟩ (.bool true)) ∧ w.heap.size < (w'.setCell ⟨w.heap.size, j, none⟩ (.bool true)).heap.size := by
  have q := h.FX.up j
  rw [Nat.zero_add] at q
  exact ⟨q, h.BB.setCell (p := ⟨w.heap.size, j, none⟩) (Nat.le_refl _) _, by simpa using h.hg⟩
theorem rt_flag {zs : List Int} {nk : Nat} {x : S3} (h : RT zs nk x = true) : ∃ j : Nat, x.2.1 = (j : Int) ∧ j < 16 := by
  have q := rt_of h
  have := (Sl.ko_of q.1).1
  exact ⟨x.2.1.toNat, by omega, by omega⟩

set_option maxHeartbeats 8000000 in
set_option maxRecDepth 100000 in
theorem i_CountFor (ak : Option Addr) (nk ck : Nat) (zs : List Int) (a : Option Addr) (n ca : Nat) (A : List S3) (r : Int) (w : World) (hk : Row w w.heap.size ak nk zs) (hnk : nk ≤ 1048576) (ha : Row3 w w.heap.size a n A) (hn : n ≤ 1048576) :
    Calls Try.prog 16 #[.slice ak nk ck, .slice a n ca, .int .i64 r] w fun e w' => e = .returned (.int .i64 (CF zs nk A r : Nat)) ∧ Below w.heap.size w w' := by
  have lA : A.length = n := ha.1
  go_enter Try.func16, Try.ntmps16
  go_wp2_with fail
  have F0 := FL.new w 63
  have B0 := (Below.refl w.heap.size w).alloc (Nat.le_refl _) (.cells #[.bool false, .bool false, .bool false, .bool false, .bool false, .bool false, .bool false, .bool false, .bool false, .bool false, .bool false, .bool false, .bool false, .bool false, .bool false, .bool false] 63)
  go_loopw [12] (fun q wr => ∃ k : Nat, k ≤ n ∧ q = .int .i64 (k : Int) ∧ Hid (FL wr w.heap.size 0 (FF (RT zs nk) (A.take k) r) ∧ Below w.heap.size w wr ∧ w.heap.size < wr.heap.size)) (fun q _ => n - (intOf q).toNat)
  case atStart => exact ⟨0, Nat.zero_le _, rfl, ⟨F0, B0, by simp⟩⟩
  case round =>
    clear F0 B0
    obtain ⟨k, hkn, rfl, HH⟩ := hrel
    by_cases hlt : k < n
    · have hi : (k : Int) < n := by omega
      have hkA : k < A.length := by omega
      have BB := HH.out.2.1
      obtain ⟨q, hq⟩ : ∃ q, q = wr.heap.size := ⟨_, rfl⟩
      have HQ : Hid (q = wr.heap.size) := hq
      obtain ⟨_, hz | ⟨bb, off, rfl, hB, hc⟩⟩ := ha
      · omega
      obtain ⟨q0, q1, q2⟩ := hc k hlt
      clear hc
      have e0 := (BB.cell (p := ⟨bb, off + k * 3, none⟩) hB).trans q0
      have e1 := (BB.cell (p := ⟨bb, off + k * 3 + 1, none⟩) hB).trans q1
      have e2 := (BB.cell (p := ⟨bb, off + k * 3 + 2, none⟩) hB).trans q2
      clear q0 q1 q2
      have hbl : bb < wr.heap.size := by have := BB.size; omega
      have hn1 : ¬ (bb = wr.heap.size) := by omega
      have hn2 : ¬ (wr.heap.size = bb) := by omega
      have CU := Cu.lay (es A k) HH.out.1 BB HH.out.2.2 hq
      clear hq HH BB
      have HNo : Hid (SR zs nk (es A k).1 (es A k).2.1 (es A k).2.2 = false ∨ (es A k).1 ≠ r → ∀ j, FF (RT zs nk) (A.take (k + 1)) r j = FF (RT zs nk) (A.take k) r j) := fun h j => ff_step_no hkA h j
      have HYes : Hid (SR zs nk (es A k).1 (es A k).2.1 (es A k).2.2 = true → (es A k).1 = r → ∀ i : Nat, (es A k).2.1 = (i : Int) → ∀ j, FF (RT zs nk) (A.take (k + 1)) r j = up (FF (RT zs nk) (A.take k) r) i j) := fun h h1 i h2 j => ff_step_yes hkA h h1 h2 j
      obtain ⟨x, hx⟩ : ∃ x, x = (es A k) := ⟨_, rfl⟩
      rw [← hx] at CU HNo HYes e0 e1 e2
      clear hx hkA
      by_cases hr : x.1 = r
      · have hv : (x.1 == r) = true := by simp [hr]
        have HR : Hid (x.1 = r) := hr
        clear hr
        go_wp2_with fail
        rw [← HQ.out]
        generalize wr.alloc (.cells #[.int .i64 x.1, .int .i64 x.2.1, .int .i64 x.2.2] 32) = wS at CU ⊢
        clear e0 e1 e2 HQ hbl hn1 hn2
        refine (Sl.i_SealRight _ nk ck zs x.1 x.2.1 x.2.2 _ ((hk.later CU.BB (Nat.le_refl _)).more CU.BB.size) hnk).mono ?_
        rintro e w4 ⟨rfl, b4⟩
        replace CU := CU.below b4
        clear b4
        cases hR : SR zs nk x.1 x.2.1 x.2.2 with
        | false =>
          have HN : Hid (FL w4 w.heap.size 0 (FF (RT zs nk) (A.take (k + 1)) r)) := CU.FX.congr fun j _ => (HNo.out (.inl hR) j).symm
          clear hR
          go_wp2
          go_roundw
          case rel => exact ⟨k + 1, by omega, by go_num, ⟨HN.out, CU.BB, CU.hg⟩⟩
          case measure => simp [intOf]; omega
        | true =>
          obtain ⟨j, hj, hj16⟩ := rt_flag (zs := zs) (nk := nk) (x := x) hR
          have hy := HYes.out hR HR.out j hj
          have x1 := CU.RX.cell 1 rfl
          rw [hj] at x1
          obtain ⟨c0, c1⟩ := CU.FX j hj16
          rw [Nat.zero_add] at c0 c1
          have hi16 : (j : Int) < 16 := by omega
          have HU : Hid (FL (w4.setCell ⟨w.heap.size, j, none⟩ (.bool true)) w.heap.size 0 (FF (RT zs nk) (A.take (k + 1)) r) ∧ Below w.heap.size w (w4.setCell ⟨w.heap.size, j, none⟩ (.bool true)) ∧ w.heap.size < (w4.setCell ⟨w.heap.size, j, none⟩ (.bool true)).heap.size) := ⟨(CU.up j).1.congr fun i _ => (hy i).symm, (CU.up j).2⟩
          clear hR hy hj HYes HNo
          generalize FF (RT zs nk) (A.take k) r = F0 at CU c0
          go_wp2
          go_roundw
          case rel => exact ⟨k + 1, by omega, by go_num, HU.out⟩
          case measure => simp [intOf]; omega
      · have hv : (x.1 == r) = false := by simp [hr]
        have HN : Hid (FL (wr.alloc (.cells #[.int .i64 x.1, .int .i64 x.2.1, .int .i64 x.2.2] 32)) w.heap.size 0 (FF (RT zs nk) (A.take (k + 1)) r)) := CU.FX.congr fun j _ => (HNo.out (.inr hr) j).symm
        have HB : Hid (Below w.heap.size w (wr.alloc (.cells #[.int .i64 x.1, .int .i64 x.2.1, .int .i64 x.2.2] 32)) ∧ w.heap.size < (wr.alloc (.cells #[.int .i64 x.1, .int .i64 x.2.1, .int .i64 x.2.2] 32)).heap.size) := ⟨CU.BB, CU.hg⟩
        clear hr CU HNo HYes
        go_wp2
        go_roundw
        case rel => exact ⟨k + 1, by omega, by go_num, ⟨HN.out, HB.out⟩⟩
        case measure => simp [intOf]; omega
    · have hi : ¬ (k : Int) < n := by omega
      obtain rfl : k = n := by omega
      have HE : Hid (CF zs nk A r = ct (FF (RT zs nk) (A.take k) r) 16) := by show CF zs nk A r = _; rw [← lA, List.take_length]; exact cf_ct _ _ _ _
      go_wp2_with fail
      refine (i_count w.heap.size 0 _ wr HH.out.1).mono ?_
      rintro e w5 ⟨rfl, rfl⟩
      go_wp2
      go_ret
      exact ⟨by rw [HE.out]; rfl, HH.out.2.1⟩

set_option maxHeartbeats 2000000 in
theorem i_ProofOk (ak : Option Addr) (nk ck : Nat) (zs : List Int) (f : Int) (a : Option Addr) (n ca : Nat) (A : List S3) (r : Int) (w : World) (hk : Row w w.heap.size ak nk zs) (hnk : nk ≤ 1048576) (ha : Row3 w w.heap.size a n A) (hn : n ≤ 1048576) :
    Calls Try.prog 18 #[.slice ak nk ck, .int .i64 f, .slice a n ca, .int .i64 r] w fun e w' => e = .returned (.bool (PO zs nk f A r)) ∧ Below w.heap.size w w' := by
  by_cases h0 : 0 ≤ f
  · have d0 : decide (0 ≤ f) = true := decide_eq_true h0
    go_enter Try.func18, Try.ntmps18
    go_wp2_with fail
    refine (i_CountFor ak nk ck zs a n ca A r _ hk hnk ha hn).mono ?_
    rintro e w1 ⟨rfl, b1⟩
    have HE : Hid (PO zs nk f A r = decide (f < (CF zs nk A r : Nat))) := by show PO zs nk f A r = _; unfold PO; rw [d0]; rfl
    generalize CF zs nk A r = d at HE ⊢
    clear h0
    by_cases h1 : f < (d : Int)
    · have HV : Hid (PO zs nk f A r = true) := by show PO zs nk f A r = true; rw [HE.out, decide_eq_true h1]
      go_wp2
      go_ret
      exact ⟨Sp.retb HV.out.symm, b1⟩
    · have HV : Hid (PO zs nk f A r = false) := by show PO zs nk f A r = false; rw [HE.out, decide_eq_false h1]
      have d1 : decide (f < (d : Int)) = false := decide_eq_false h1
      clear h1
      go_wp2
      go_ret
      exact ⟨Sp.retb HV.out.symm, b1⟩
  · have HV : Hid (PO zs nk f A r = false) := by show PO zs nk f A r = false; unfold PO; rw [decide_eq_false h0]; rfl
    go_enter Try.func18, Try.ntmps18
    go_wp2
    go_ret
    exact ⟨Sp.retb HV.out.symm, Below.refl _ _⟩

end Go.Proofs.Ytdjeffjjijkhbaa.Mi
