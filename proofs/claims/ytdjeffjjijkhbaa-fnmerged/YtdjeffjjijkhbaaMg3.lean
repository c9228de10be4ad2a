/-
  How many there are of a round (spec.CountFor); proofs (spec.ProofOk); the best round (spec.BestRound).
-/
import Derived.Test.YtdjeffjjijkhbaaMg2
namespace Go.Proofs.Ytdjeffjjijkhbaa.Mg
open Go.ChangeShapes Go.WideShapes Go.ChangeAt Go.RowKit
open Ls (Row)
open Rm (Room)
open Sb (S3 es fl sl Row3 SHas)
open Og (OwnS)
open Sl (SR KO SO TT so_of so_no sr_no)
set_option linter.unusedVariables false
set_option linter.unusedSimpArgs false

def cnt (l : List S3) (r : Int) : Nat → Nat
  | 0 => 0
  | k + 1 => cnt l r k + if (es l k).1 = r then 1 else 0
theorem cnt_le (l : List S3) (r : Int) (k : Nat) : cnt l r k ≤ k := by
  induction k with
  | zero => exact Nat.le_refl _
  | succ k ih => unfold cnt; split <;> omega
theorem cnt_yes {l : List S3} {r : Int} {k c : Nat} (h : cnt l r k = c) (q : (es l k).1 = r) : cnt l r (k + 1) = c + 1 := by unfold cnt; rw [if_pos q, h]
theorem cnt_no {l : List S3} {r : Int} {k c : Nat} (h : cnt l r k = c) (q : ¬ (es l k).1 = r) : cnt l r (k + 1) = c := by unfold cnt; rw [if_neg q, h]; rfl
/-- Of how many different nodes there is a right one for a round. -/
def CF (zs : List Int) (nk : Nat) (A : List S3) (r : Int) : Nat := cnt (MG (RT zs nk) A) r (MG (RT zs nk) A).length
theorem MG_len (R : S3 → Bool) (ss : List S3) : (MG R ss).length ≤ ss.length := mg_len R ss _
theorem CF_le (zs : List Int) (nk : Nat) (A : List S3) (r : Int) : CF zs nk A r ≤ A.length := Nat.le_trans (cnt_le _ _ _) (MG_len _ _)

set_option maxHeartbeats 8000000 in
set_option maxRecDepth 100000 in
theorem s_CountFor (ak : Option Addr) (nk ck : Nat) (zs : List Int) (a : Option Addr) (n ca : Nat) (A : List S3) (r : Int) (w : World) (hk : Row w w.heap.size ak nk zs) (hnk : nk ≤ 1048576) (ha : Row3 w w.heap.size a n A) (hn : n ≤ 1048576) :
    Calls Try.prog 17 #[.slice ak nk ck, .slice a n ca, .int .i64 r] w fun e w' => e = .returned (.int .i64 (CF zs nk A r : Nat)) ∧ Below w.heap.size w w' := by
  have lA : A.length = n := ha.1
  have B1 := (Below.refl w.heap.size w).alloc (Nat.le_refl _) (.cells #[] 32)
  go_enter Try.func17, Try.ntmps17
  go_wp2_with fail
  refine (s_MergedSeals ak nk ck zs a n ca A (some ⟨w.heap.size, 0, none⟩) 0 0 [] _ ((hk.later B1 (Nat.le_refl _)).more B1.size) hnk ((ha.later B1 (Nat.le_refl _)).more B1.size) hn ⟨rfl, .inl rfl⟩ (by omega)).mono ?_
  rw [List.append_nil]
  rintro e w1 ⟨⟨g, c, rfl, O1⟩, b1⟩
  have hle := MG_len (RT zs nk) A
  have HF : Hid (CF zs nk A r = cnt (MG (RT zs nk) A) r (MG (RT zs nk) A).length) := rfl
  generalize MG (RT zs nk) A = l at O1 HF hle ⊢
  obtain ⟨m, hm⟩ : ∃ m, l.length = m := ⟨_, rfl⟩
  rw [hm] at O1 HF hle ⊢
  replace B1 := B1.trans (b1.mono B1.size)
  clear b1
  go_wp2_with fail
  go_loopw [7, 9] (fun p q wr => ∃ (k d : Nat), k ≤ m ∧ p = .int .i64 (d : Int) ∧ q = .int .i64 (k : Int) ∧ Hid (cnt l r k = d) ∧ wr = w1) (fun _ q _ => m - (intOf q).toNat)
  case atStart => exact ⟨0, 0, Nat.zero_le _, rfl, rfl, rfl, rfl⟩
  case round =>
    obtain ⟨k, d, hkm, rfl, rfl, HD, rfl⟩ := hrel
    have hd := cnt_le l r k
    rw [HD.out] at hd
    by_cases hlt : k < m
    · have hi : (k : Int) < m := by omega
      obtain ⟨e0, e1, e2⟩ := Og.OwnS.cells O1 k hlt
      by_cases hx : (es l k).1 = r
      · have HN : Hid (cnt l r (k + 1) = d + 1) := cnt_yes HD.out hx
        have hv : ((es l k).1 == r) = true := by simp [hx]
        clear hx
        go_wp2
        go_roundw
        case rel => exact ⟨k + 1, d + 1, by omega, by go_num, by go_num, HN, by first | trivial | rfl⟩
        case measure => simp [intOf]; omega
      · have HN : Hid (cnt l r (k + 1) = d) := cnt_no HD.out hx
        have hv : ((es l k).1 == r) = false := by simp [hx]
        clear hx
        go_wp2
        go_roundw
        case rel => exact ⟨k + 1, d, by omega, rfl, by go_num, HN, by first | trivial | rfl⟩
        case measure => simp [intOf]; omega
    · have hi : ¬ (k : Int) < m := by omega
      obtain rfl : k = m := by omega
      have HE : Hid (CF zs nk A r = d) := by show CF zs nk A r = d; rw [HF.out, HD.out]
      go_wp2
      go_ret
      exact ⟨by rw [HE.out]; rfl, B1⟩

def PO (zs : List Int) (nk : Nat) (f : Int) (A : List S3) (r : Int) : Bool := decide (0 ≤ f) && decide (f < (CF zs nk A r : Nat))
set_option maxHeartbeats 2000000 in
theorem s_ProofOk (ak : Option Addr) (nk ck : Nat) (zs : List Int) (f : Int) (a : Option Addr) (n ca : Nat) (A : List S3) (r : Int) (w : World) (hk : Row w w.heap.size ak nk zs) (hnk : nk ≤ 1048576) (ha : Row3 w w.heap.size a n A) (hn : n ≤ 1048576) :
    Calls Try.prog 29 #[.slice ak nk ck, .int .i64 f, .slice a n ca, .int .i64 r] w fun e w' => e = .returned (.bool (PO zs nk f A r)) ∧ Below w.heap.size w w' := by
  by_cases h0 : 0 ≤ f
  · have d0 : decide (0 ≤ f) = true := decide_eq_true h0
    go_enter Try.func29, Try.ntmps29
    go_wp2_with fail
    refine (s_CountFor ak nk ck zs a n ca A r _ hk hnk ha hn).mono ?_
    rintro e w1 ⟨rfl, b1⟩
    have HE : Hid (PO zs nk f A r = decide (f < (CF zs nk A r : Nat))) := by show PO zs nk f A r = _; unfold PO; rw [d0]; rfl
    generalize CF zs nk A r = d at HE ⊢
    clear h0
    by_cases h1 : f < (d : Int)
    · have HV : Hid (PO zs nk f A r = true) := by show PO zs nk f A r = true; rw [HE.out, decide_eq_true h1]
      go_wp2
      go_ret
      exact ⟨Sp.retb HV.out.symm, b1⟩
    · have HV : Hid (PO zs nk f A r = false) := by show PO zs nk f A r = false; rw [HE.out, decide_eq_false h1]
      have d1 : decide (f < (d : Int)) = false := decide_eq_false h1
      clear h1
      go_wp2
      go_ret
      exact ⟨Sp.retb HV.out.symm, b1⟩
  · have HV : Hid (PO zs nk f A r = false) := by show PO zs nk f A r = false; unfold PO; rw [decide_eq_false h0]; rfl
    go_enter Try.func29, Try.ntmps29
    go_wp2
    go_ret
    exact ⟨Sp.retb HV.out.symm, Below.refl _ _⟩

/-- The best of the first k. -/
def bst (P : Int → Bool) (fr : Int) (l : List S3) : Nat → Int
  | 0 => 0
  | k + 1 => if fr ≤ (es l k).1 ∧ bst P fr l k < (es l k).1 ∧ P (es l k).1 = true then (es l k).1 else bst P fr l k
def BR (zs : List Int) (nk : Nat) (f : Int) (A : List S3) (fr : Int) : Int := bst (PO zs nk f (MG (RT zs nk) A)) fr (MG (RT zs nk) A) (MG (RT zs nk) A).length
theorem bst_no {P : Int → Bool} {fr v : Int} {l : List S3} {k : Nat} (h : bst P fr l k = v) (q : ¬ (fr ≤ (es l k).1 ∧ v < (es l k).1 ∧ P (es l k).1 = true)) : bst P fr l (k + 1) = v := by unfold bst; rw [h, if_neg q]
theorem bst_yes {P : Int → Bool} {fr v : Int} {l : List S3} {k : Nat} (h : bst P fr l k = v) (q : fr ≤ (es l k).1 ∧ v < (es l k).1 ∧ P (es l k).1 = true) : bst P fr l (k + 1) = (es l k).1 := by unfold bst; rw [h, if_pos q]
set_option maxHeartbeats 8000000 in
set_option maxRecDepth 100000 in
theorem s_BestRound (ak : Option Addr) (nk ck : Nat) (zs : List Int) (f : Int) (a : Option Addr) (n ca : Nat) (A : List S3) (fr : Int) (w : World) (hk : Row w w.heap.size ak nk zs) (hnk : nk ≤ 1048576) (ha : Row3 w w.heap.size a n A) (hn : n ≤ 1048576) :
    Calls Try.prog 20 #[.slice ak nk ck, .int .i64 f, .slice a n ca, .int .i64 fr] w fun e w' => e = .returned (.int .i64 (BR zs nk f A fr)) ∧ Below w.heap.size w w' := by
  have lA : A.length = n := ha.1
  have B1 := (Below.refl w.heap.size w).alloc (Nat.le_refl _) (.cells #[] 32)
  go_enter Try.func20, Try.ntmps20
  go_wp2_with fail
  refine (s_MergedSeals ak nk ck zs a n ca A (some ⟨w.heap.size, 0, none⟩) 0 0 [] _ ((hk.later B1 (Nat.le_refl _)).more B1.size) hnk ((ha.later B1 (Nat.le_refl _)).more B1.size) hn ⟨rfl, .inl rfl⟩ (by omega)).mono ?_
  rw [List.append_nil]
  rintro e w1 ⟨⟨g, c, rfl, O1⟩, b1⟩
  have hle := MG_len (RT zs nk) A
  have HF : Hid (BR zs nk f A fr = bst (PO zs nk f (MG (RT zs nk) A)) fr (MG (RT zs nk) A) (MG (RT zs nk) A).length) := rfl
  generalize MG (RT zs nk) A = l at O1 HF hle ⊢
  obtain ⟨m, hm⟩ : ∃ m, l.length = m := ⟨_, rfl⟩
  rw [hm] at O1 HF hle ⊢
  replace B1 := B1.trans (b1.mono B1.size)
  have O2 := Og.own_low O1 (show w.heap.size ≤ _ by simp)
  clear b1 O1
  go_wp2_with fail
  go_loopw [9, 11] (fun p q wr => ∃ (k : Nat) (v : Int), k ≤ m ∧ p = .int .i64 v ∧ q = .int .i64 (k : Int) ∧ Hid (bst (PO zs nk f l) fr l k = v) ∧ OwnS wr w.heap.size g m c l ∧ Below w.heap.size w wr) (fun _ q _ => m - (intOf q).toNat)
  case atStart => exact ⟨0, 0, Nat.zero_le _, rfl, rfl, rfl, O2, B1⟩
  case round =>
    clear O2 B1
    obtain ⟨k, v, hkm, rfl, rfl, HD, OS, BB⟩ := hrel
    by_cases hlt : k < m
    · have hi : (k : Int) < m := by omega
      obtain ⟨e0, e1, e2⟩ := Og.OwnS.cells OS k hlt
      by_cases h1 : fr ≤ (es l k).1
      · by_cases h2 : v < (es l k).1
        · go_wp2_with fail
          refine (s_ProofOk ak nk ck zs f (some ⟨g, 0, none⟩) m c l (es l k).1 _ ((hk.later BB (Nat.le_refl _)).more BB.size) hnk OS.row (by omega)).mono ?_
          rintro e w2 ⟨rfl, b2⟩
          replace OS := Og.own_below OS b2
          replace BB := BB.trans (b2.mono BB.size)
          obtain ⟨e0, e1, e2⟩ := Og.OwnS.cells OS k hlt
          clear b2
          cases hp : PO zs nk f l (es l k).1 with
          | true =>
            have HN : Hid (bst (PO zs nk f l) fr l (k + 1) = (es l k).1) := bst_yes HD.out ⟨h1, h2, hp⟩
            clear hp
            go_wp2
            go_roundw
            case rel => exact ⟨k + 1, _, by omega, rfl, by go_num, HN, OS, BB⟩
            case measure => simp [intOf]; omega
          | false =>
            have HN : Hid (bst (PO zs nk f l) fr l (k + 1) = v) := bst_no HD.out (fun q => by rw [hp] at q; cases q.2.2)
            clear hp
            go_wp2
            go_roundw
            case rel => exact ⟨k + 1, v, by omega, rfl, by go_num, HN, OS, BB⟩
            case measure => simp [intOf]; omega
        · have HN : Hid (bst (PO zs nk f l) fr l (k + 1) = v) := bst_no HD.out (fun q => h2 q.2.1)
          have d2 : decide (v < (es l k).1) = false := decide_eq_false h2
          go_wp2
          go_roundw
          case rel => exact ⟨k + 1, v, by omega, rfl, by go_num, HN, OS, BB⟩
          case measure => simp [intOf]; omega
      · have HN : Hid (bst (PO zs nk f l) fr l (k + 1) = v) := bst_no HD.out (fun q => h1 q.1)
        have d1 : decide (fr ≤ (es l k).1) = false := decide_eq_false h1
        go_wp2
        go_roundw
        case rel => exact ⟨k + 1, v, by omega, rfl, by go_num, HN, OS, BB⟩
        case measure => simp [intOf]; omega
    · have hi : ¬ (k : Int) < m := by omega
      obtain rfl : k = m := by omega
      have HE : Hid (BR zs nk f A fr = v) := by show BR zs nk f A fr = v; rw [HF.out, HD.out]
      go_wp2
      go_ret
      exact ⟨by rw [HE.out]; rfl, BB⟩

end Go.Proofs.Ytdjeffjjijkhbaa.Mg
