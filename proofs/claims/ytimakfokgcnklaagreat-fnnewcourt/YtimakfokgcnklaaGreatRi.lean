/-
  Those that are right, in new memory (impl.rightSeals).
-/
import Derived.Test.YtimakfokgcnklaaGreatMg2
namespace Go.Proofs.YtimakfokgcnklaaGreat.Mi
open Go.ChangeShapes Go.WideShapes Go.ChangeAt Go.RowKit
open Ls (Row)
open Rm (Room)
open Sb (S3 es fl sl Row3 SHas)
open Og (OwnS)
open Mg (RT Mu take_snoc)
open Sl (SR)
set_option linter.unusedVariables false
set_option linter.unusedSimpArgs false

/-- The right ones of the first k. -/
def rg (R : S3 → Bool) (A : List S3) (k : Nat) : List S3 := (A.take k).filter R
theorem rg_yes {R : S3 → Bool} {A L : List S3} {k : Nat} (hk : k < A.length) (h : rg R A k = L) (q : R (es A k) = true) : rg R A (k + 1) = L ++ [es A k] := by
  unfold rg at *
  rw [take_snoc hk, List.filter_append, h]
  simp [q]
theorem rg_no {R : S3 → Bool} {A L : List S3} {k : Nat} (hk : k < A.length) (h : rg R A k = L) (q : R (es A k) = false) : rg R A (k + 1) = L := by
  unfold rg at *
  rw [take_snoc hk, List.filter_append, h]
  simp [q]
theorem rg_len (R : S3 → Bool) (A : List S3) (k : Nat) : (rg R A k).length ≤ k := by
  unfold rg
  exact Nat.le_trans (List.length_filter_le _ _) (by simp; omega)
theorem mu_app {w w' w2 : World} {q : Nat} {x y : S3} {g m c : Nat} {L : List S3} {v2 : Value} {o : Obj} (h : Mu w w' q x g m c L) (hx : w2.ownsRow w.heap.size 125 3 v2 (m + 1) (fl L ++ fl [y])) (hg : (w'.alloc o).grownBy w2 (some g)) (hn : v2 ≠ .slice none 0 0)
    (hat : v2.ownBlock = some g ∨ v2.ownBlock = some (w'.alloc o).heap.size) : ∃ g2 c2, v2 = .slice (some ⟨g2, 0, none⟩) (m + 1) c2 ∧ OwnS w2 w.heap.size g2 (m + 1) c2 (L ++ [y]) ∧ Below w.heap.size w w2 := by
  obtain ⟨g2, c2, e, h2, hh⟩ := Og.moreS hx hn hat
  have hgB : w.heap.size ≤ g := (Og.own_lt h.OS rfl).1
  exact ⟨g2, c2, e, h2, (h.BB.alloc h.BB.size _).grown hg (by have := h.BB.size; simp; omega) (fun j e => by cases e; omega)⟩
theorem mu_base {w w' : World} {q : Nat} {x : S3} {g m c : Nat} {L : List S3} (h : Mu w w' q x g m c L) (o : Obj) : w.heap.size ≤ (w'.alloc o).heap.size := by
  have := h.BB.size
  simp; omega

set_option maxHeartbeats 8000000 in
set_option maxRecDepth 100000 in
theorem rightSeals (ak : Option Addr) (nk ck : Nat) (zs : List Int) (a : Option Addr) (n ca : Nat) (A : List S3) (w : World) (hk : Row w w.heap.size ak nk zs) (hnk : nk ≤ 1048576) (ha : Row3 w w.heap.size a n A) (hn : n ≤ 3000000) :
    Calls Tryz.prog 120 #[.slice ak nk ck, .slice a n ca] w fun e w' => (∃ g c, e = .returned (.slice (some ⟨g, 0, none⟩) (A.filter (RT zs nk)).length c) ∧ OwnS w' w.heap.size g (A.filter (RT zs nk)).length c (A.filter (RT zs nk))) ∧ Below w.heap.size w w' := by
  obtain ⟨i0, hi, hz0, hz1, hz2⟩ := info_parts Og.infoS
  have lA : A.length = n := ha.1
  have O1 := Og.ownS_made w
  have B1 := (Below.refl w.heap.size w).alloc (Nat.le_refl _) (.cells #[] 125)
  go_enter Tryz.func120, Tryz.ntmps120
  go_wp2_with fail
  go_loopw [5, 11] (fun v q wr => ∃ (k g m c : Nat) (L : List S3), k ≤ n ∧ v = .slice (some ⟨g, 0, none⟩) m c ∧ q = .int .i64 (k : Int) ∧ Hid (rg (RT zs nk) A k = L) ∧ OwnS wr w.heap.size g m c L ∧ Below w.heap.size w wr) (fun _ q _ => n - (intOf q).toNat)
  case atStart => exact ⟨0, _, 0, 0, [], Nat.zero_le _, rfl, rfl, rfl, O1, B1⟩
  case round =>
    clear O1 B1
    obtain ⟨k, g, m, c, L, hkn, rfl, rfl, HM, OS, BB⟩ := hrel
    have hLm : L.length = m := OS.len
    have hml : m ≤ k := by rw [← hLm, ← HM.out]; exact rg_len _ _ _
    by_cases hlt : k < n
    · have hi2 : (k : Int) < (n : Int) := by omega
      obtain ⟨q, hq⟩ : ∃ q, q = wr.heap.size := ⟨_, rfl⟩
      have HQ : Hid (q = wr.heap.size) := hq
      obtain ⟨_, hz | ⟨bb, off, rfl, hB, hc⟩⟩ := ha
      · omega
      obtain ⟨q0, q1, q2⟩ := hc k hlt
      clear hc
      have e0 := (BB.cell (p := ⟨bb, off + k * 3, none⟩) hB).trans q0
      have e1 := (BB.cell (p := ⟨bb, off + k * 3 + 1, none⟩) hB).trans q1
      have e2 := (BB.cell (p := ⟨bb, off + k * 3 + 2, none⟩) hB).trans q2
      clear q0 q1 q2
      have hbl : bb < wr.heap.size := by have := BB.size; omega
      have hn1 : ¬ (bb = wr.heap.size) := by omega
      have hn2 : ¬ (wr.heap.size = bb) := by omega
      have MU := Mu.lay (es A k) OS BB hq
      clear hq OS
      have hwb := BB.size
      clear BB
      have hkA : k < A.length := by omega
      have HX : Hid (∀ L, rg (RT zs nk) A k = L → (SR zs nk (es A k).1 (es A k).2.1 (es A k).2.2 = true → rg (RT zs nk) A (k + 1) = L ++ [es A k]) ∧ (SR zs nk (es A k).1 (es A k).2.1 (es A k).2.2 = false → rg (RT zs nk) A (k + 1) = L)) := fun L h => ⟨fun q => rg_yes hkA h q, fun q => rg_no hkA h q⟩
      obtain ⟨x, hx⟩ : ∃ x, x = (es A k) := ⟨_, rfl⟩
      rw [← hx] at MU HX e0 e1 e2
      clear hx hkA
      go_wp2_with fail
      rw [← HQ.out]
      generalize wr.alloc (.cells #[.int .i64 x.1, .int .i64 x.2.1, .int .i64 x.2.2] 125) = wS at MU ⊢
      clear e0 e1 e2 HQ hbl hn1 hn2
      have x0 := MU.RX.cell 0 rfl
      have x1 := MU.RX.cell 1 rfl
      have x2 := MU.RX.cell 2 rfl
      go_wp2_with fail
      clear x0 x1 x2
      refine (Sl.i_SealRight ak nk ck zs x.1 x.2.1 x.2.2 _ ((hk.later MU.BB (Nat.le_refl _)).more MU.BB.size) hnk).mono ?_
      rintro e w4 ⟨rfl, b4⟩
      replace MU := MU.below b4
      clear b4
      cases hR : SR zs nk x.1 x.2.1 x.2.2 with
      | false =>
        have HN : Hid (rg (RT zs nk) A (k + 1) = L) := (HX.out L HM.out).2 hR
        clear hR HX
        go_wp2
        go_roundw
        case rel => exact ⟨k + 1, g, m, c, L, by omega, rfl, by go_num, HN, MU.OS, MU.BB⟩
        case measure => simp [intOf]; omega
      | true =>
        have HN : Hid (rg (RT zs nk) A (k + 1) = L ++ [x]) := (HX.out L HM.out).1 hR
        clear hR HX
        have x0 := MU.RX.cell 0 rfl
        have x1 := MU.RX.cell 1 rfl
        have x2 := MU.RX.cell 2 rfl
        have HP1 : Hid (Mu w w4 q x g m c L) := MU
        clear MU
        go_wp2_with (at_builtin; refine wpList_append_own_at _ rfl (.tmp 18) (.tmp 20) 32 rfl w.heap.size 125 i0 (.agg #[.int .i64 0, .int .i64 0, .int .i64 0]) 3 24 Tryz.underlying32 hi hz0 hz1 hz2 rfl (by decide) _ _ _ rfl (World.ownsRow.alloc (w := w4) HP1.out.OS _) ⟨(w4).heap.size, 0, none⟩ 1 1 (fl [x]) rfl rfl (Og.one_newS (w4) x _ rfl) (Og.fl_one _) (by unfold maxLen; omega) (by omega) (mu_base HP1.out _) ?_; intro v2 wa hx2 hg2 hn2 ha2; obtain ⟨g2, c2, rfl, OS, BB⟩ := mu_app HP1.out hx2 hg2 (Dg.no_nil hn2 rfl) ha2; clear hx2 hg2 hn2 ha2 HP1 x0 x1 x2)
        go_roundw
        case rel => exact ⟨k + 1, g2, m + 1, c2, _, by omega, rfl, by go_num, HN, OS, BB⟩
        case measure => simp [intOf]; omega
    · have hi2 : ¬ (k : Int) < (n : Int) := by omega
      obtain rfl : k = n := by omega
      have HE : Hid (A.filter (RT zs nk) = L ∧ L.length = m) := ⟨by rw [← HM.out]; unfold rg; rw [← lA, List.take_length], hLm⟩
      clear hLm hml
      go_wp2
      go_ret
      obtain ⟨HE1, HE2⟩ := HE.out
      rw [HE1, HE2]
      exact ⟨⟨g, c, rfl, OS⟩, BB⟩

end Go.Proofs.YtimakfokgcnklaaGreat.Mi
