/-
  Rules, merged lists, nodes that do not lie (spec.RuleOk, l12LikeSeals, l12Merged, l12Honest), at whatever arguments.
-/
import Derived.Test.YtimakfokgcnklaaGreatCz
import Derived.Test.YtimakfokgcnklaaGreatMg2
import Derived.RegionTactic
namespace Go.Proofs.YtimakfokgcnklaaGreat.Cd
open Go.ChangeShapes Go.WideShapes Go.ChangeAt Go.RowKit
open Ls (el Row)
open Rm (Room)
open Rd (Flags)
open Sb (S3 es es_ext fl sl Row3 SHas)
open Ns
open Mg (MG RT neqS)
open Sl (KO lk_yes lk_no)
open Sp (LK retb)
set_option linter.unusedVariables false
set_option linter.unusedSimpArgs false

/-- Two lists of seals are one. -/
theorem differ {A B : List S3} {n k : Nat} (hA : A.length = n) (hB : B.length = n) (hk : k < n) (h : es A k ≠ es B k) : decide (A = B) = false := decide_eq_false fun e => h (by rw [e])
set_option maxHeartbeats 4000000 in
theorem likeS (a b : Option Addr) (n m ca cb : Nat) (A B : List S3) (w : World) (hA : Row3 w w.heap.size a n A) (hB : Row3 w w.heap.size b m B) (hn : n ≤ 3000000) (hm : m ≤ 3000000) :
    Calls Tryz.prog 105 #[.slice a n ca, .slice b m cb] w fun e w' => e = .returned (.bool (decide (A = B))) ∧ Below w.heap.size w w' := by
  by_cases hnm : n = m
  · subst hnm
    go_enter Tryz.func105, Tryz.ntmps105
    go_wp2
    go_loopw [5] (fun q wr => ∃ k : Nat, k ≤ n ∧ q = .int .i64 (k : Int) ∧ Hid ((∀ i, i < k → es A i = es B i) ∧ Below w.heap.size w wr)) (fun q _ => n - (intOf q).toNat)
    case atStart => exact ⟨0, Nat.zero_le _, rfl, ⟨fun i hi => by omega, Below.refl _ _⟩⟩
    case round =>
      obtain ⟨k, hk, rfl, HH⟩ := hrel
      by_cases hlt : k < n
      · have hi : (k : Int) < n := by omega
        have lA := hA.1
        have lB := hB.1
        obtain ⟨_, hz | ⟨b1, o1, rfl, hB1, hc1⟩⟩ := hA
        · omega
        obtain ⟨_, hz | ⟨b2, o2, rfl, hB2, hc2⟩⟩ := hB
        · omega
        obtain ⟨q0, q1, q2⟩ := hc1 k hlt
        obtain ⟨p0, p1, p2⟩ := hc2 k hlt
        clear hc1 hc2
        have e0 := (HH.out.2.cell (p := ⟨b1, o1 + k * 3, none⟩) hB1).trans q0
        have e1 := (HH.out.2.cell (p := ⟨b1, o1 + k * 3 + 1, none⟩) hB1).trans q1
        have e2 := (HH.out.2.cell (p := ⟨b1, o1 + k * 3 + 2, none⟩) hB1).trans q2
        have f0 := (HH.out.2.cell (p := ⟨b2, o2 + k * 3, none⟩) hB2).trans p0
        have f1 := (HH.out.2.cell (p := ⟨b2, o2 + k * 3 + 1, none⟩) hB2).trans p1
        have f2 := (HH.out.2.cell (p := ⟨b2, o2 + k * 3 + 2, none⟩) hB2).trans p2
        clear q0 q1 q2 p0 p1 p2
        by_cases hd : es A k = es B k
        · have hv : ∀ W, (binOp .neq 125 (sl (es A k)) (sl (es B k))).run Tryz.prog W = .ok (.bool false) W := fun W => by rw [neqS, decide_eq_true hd]; rfl
          have HD : Hid (es A k = es B k) := hd
          clear hd lA lB
          go_wp2_with fail
          go_region
          go_wp2
          go_roundw
          case rel =>
            refine ⟨k + 1, by omega, by go_num, ⟨fun i hi => ?_, HH.out.2.drew⟩⟩
            by_cases e : i = k
            · subst e; exact HD.out
            · exact HH.out.1 i (by omega)
          case measure => simp [intOf]; omega
        · have hv : ∀ W, (binOp .neq 125 (sl (es A k)) (sl (es B k))).run Tryz.prog W = .ok (.bool true) W := fun W => by rw [neqS, decide_eq_false hd]; rfl
          have HD : Hid (decide (A = B) = false) := differ lA lB hlt hd
          clear hd lA lB
          go_wp2_with fail
          go_region
          go_wp2
          go_ret
          exact ⟨retb HD.out.symm, HH.out.2.drew⟩
      · have hi : ¬ (k : Int) < n := by omega
        obtain rfl : k = n := by omega
        have HD : Hid (decide (A = B) = true) := decide_eq_true (es_ext (by rw [hA.1, hB.1]) fun i hi => HH.out.1 i (by have := hA.1; omega))
        go_wp2
        go_ret
        exact ⟨retb HD.out.symm, HH.out.2⟩
  · have HD : Hid (decide (A = B) = false) := decide_eq_false fun e => hnm (by rw [← hA.1, ← hB.1, e])
    have hv : ((n : Int) != (m : Int)) = true := by simp; omega
    clear hnm
    go_enter Tryz.func105, Tryz.ntmps105
    go_wp2
    go_ret
    exact ⟨retb HD.out.symm, Below.refl _ _⟩

/-- A list as MergedSeals leaves it. -/
def MD (zs : List Int) (l : List S3) : Bool := decide (l = MG (RT zs zs.length) l)
set_option maxHeartbeats 2000000 in
theorem mergedS (ak : Option Addr) (ck : Nat) (zs : List Int) (a : Option Addr) (n ca : Nat) (A : List S3) (w : World) (hk : Row w w.heap.size ak zs.length zs) (hnk : zs.length ≤ 1048576) (ha : Row3 w w.heap.size a n A) (hn : n ≤ 1048576) :
    Calls Tryz.prog 63 #[.slice ak zs.length ck, .slice a n ca] w fun e w' => e = .returned (.bool (MD zs A)) ∧ Below w.heap.size w w' := by
  have B1 := (Below.refl w.heap.size w).alloc (Nat.le_refl _) (.cells #[] 125)
  have hle := Mg.mg_len (RT zs zs.length) A A.length
  rw [ha.1] at hle
  have HM : Hid (MD zs A = decide (A = MG (RT zs zs.length) A)) := rfl
  go_enter Tryz.func63, Tryz.ntmps63
  go_wp2_with fail
  refine (Mg.s_MergedSeals ak zs.length ck zs a n ca A (some ⟨w.heap.size, 0, none⟩) 0 0 [] _ ((hk.later B1 (Nat.le_refl _)).more B1.size) hnk (ha.below B1) hn ⟨rfl, .inl rfl⟩ (by omega)).mono ?_
  rw [List.append_nil]
  rintro e w1 ⟨⟨g, c, rfl, O1⟩, b1⟩
  replace B1 := B1.trans (b1.mono B1.size)
  clear b1
  have hl2 : (MG (RT zs zs.length) A).length ≤ 3000000 := by have : (MG (RT zs zs.length) A).length ≤ A.length := Mg.mg_len _ _ _; rw [ha.1] at this; omega
  generalize MG (RT zs zs.length) A = l at O1 HM hl2 ⊢
  go_wp2_with fail
  refine (likeS a (some ⟨g, 0, none⟩) n _ ca c A l _ (ha.below B1) O1.row (by omega) hl2).mono ?_
  rintro e w2 ⟨rfl, b2⟩
  rw [← HM.out]
  go_wp2
  go_ret
  exact ⟨rfl, B1.trans (b2.mono B1.size)⟩

/-- There is such a node, and it does not lie. -/
def HO (bs : List Bool) (x : Int) : Bool := decide (0 ≤ x ∧ x < (bs.length : Int)) && !(bs.getD x.toNat false)

end Go.Proofs.YtimakfokgcnklaaGreat.Cd
