/-
  All that are right, merged (spec.MergedSeals); how many there are of a round (spec.CountFor); proofs (spec.ProofOk, spec.BestRound).
-/
import Derived.Test.YtimakfokgcnklaaGreatMg1
import Derived.Test.YtimakfokgcnklaaGreatSl2
namespace Go.Proofs.YtimakfokgcnklaaGreat.Mg
open Go.ChangeShapes Go.WideShapes Go.ChangeAt Go.RowKit
open Ls (Row)
open Rm (Room)
open Sb (S3 es fl sl Row3 SHas)
open Og (OwnS)
open Sl (SR KO SO TT so_of so_no sr_no)
set_option linter.unusedVariables false
set_option linter.unusedSimpArgs false

/-- A seal that is right by these keys. -/
def RT (zs : List Int) (n : Nat) (s : S3) : Bool := SR zs n s.1 s.2.1 s.2.2
theorem rt_tells (zs : List Int) (n : Nat) : Tells (RT zs n) := by
  rintro ⟨r, k, t⟩ ⟨r2, k2, t2⟩ h1 h2 e1 e2
  simp only at e1 e2
  subst e1 e2
  unfold RT SR at h1 h2
  rw [Bool.and_eq_true] at h1 h2
  have q1 := of_decide_eq_true h1.2
  have q2 := of_decide_eq_true h2.2
  simp only at q1 q2
  rw [q1, q2]
theorem rt_ko {zs : List Int} {n : Nat} (h : KO zs n = false) (s : S3) : RT zs n s = false := by
  unfold RT
  exact sr_no (so_no (by rw [h]; rintro ⟨q, _⟩; cases q))
theorem rt_of {zs : List Int} {n : Nat} {s : S3} (h : RT zs n s = true) : KO zs n = true ∧ (1 ≤ s.1 ∧ s.1 ≤ 1000) ∧ 0 ≤ s.2.1 ∧ s.2.1 < n := by
  unfold RT SR at h
  rw [Bool.and_eq_true] at h
  exact so_of h.1
theorem mg_none {R : S3 → Bool} (h : ∀ s, R s = false) (ss : List S3) (k : Nat) : mg R ss k = [] := by
  induction k with
  | zero => rfl
  | succ k ih => unfold mg; rw [h, ih]; rfl
theorem mg_len (R : S3 → Bool) (ss : List S3) (k : Nat) : (mg R ss k).length ≤ k := by
  induction k with
  | zero => exact Nat.le_refl _
  | succ k ih =>
    unfold mg
    cases R (es ss k) with
    | true => have := put_len (mg R ss k) (es ss k); simp only [if_true]; omega
    | false => simp only [Bool.false_eq_true, if_false]; omega
theorem es_left {a b : List S3} {k : Nat} (h : k < a.length) : es (a ++ b) k = es a k := by simp [es, List.getD, List.getElem?_append, h]
theorem es_right {a b : List S3} {k : Nat} (h : ¬ k < a.length) : es (a ++ b) k = es b (k - a.length) := by simp [es, List.getD, List.getElem?_append, h]
theorem mg_yes {R : S3 → Bool} {ss L : List S3} {k : Nat} {x : S3} (h : mg R ss k = L) (e : es ss k = x) (q : R x = true) : mg R ss (k + 1) = put L x := by unfold mg; rw [e, q, h]; rfl
theorem mg_no {R : S3 → Bool} {ss L : List S3} {k : Nat} {x : S3} (h : mg R ss k = L) (e : es ss k = x) (q : R x = false) : mg R ss (k + 1) = L := by unfold mg; rw [e, q, h]; rfl

/-- A seal of one's own, what is gathered. -/
structure Mu (w w' : World) (q : Nat) (x : S3) (g m c : Nat) (L : List S3) : Prop where
  OS : OwnS w' w.heap.size g m c L
  RX : Room w' q (c3 x)
  BB : Below w.heap.size w w'
  hq : w.heap.size ≤ q
theorem Mu.below {w w' w2 : World} {q : Nat} {x : S3} {g m c : Nat} {L : List S3} (h : Mu w w' q x g m c L) (b : Below w'.heap.size w' w2) : Mu w w2 q x g m c L := ⟨Og.own_below h.OS b, h.RX.below b, h.BB.trans (b.mono h.BB.size), h.hq⟩
theorem Mu.lay {w wr : World} {q g m c : Nat} {L : List S3} (x : S3) (OS : OwnS wr w.heap.size g m c L) (BB : Below w.heap.size w wr) (hq : q = wr.heap.size) : Mu w (wr.alloc (.cells #[.int .i64 x.1, .int .i64 x.2.1, .int .i64 x.2.2] 125)) q x g m c L :=
  ⟨Og.own_below OS ((Below.refl _ wr).alloc (Nat.le_refl _) _), Room.at wr (c3 x) 125 q hq, BB.alloc BB.size _, by have := BB.size; omega⟩

set_option maxHeartbeats 8000000 in
set_option maxRecDepth 100000 in
theorem s_MergedSeals (ak : Option Addr) (nk ck : Nat) (zs : List Int) (a : Option Addr) (n ca : Nat) (A : List S3) (b : Option Addr) (m cb : Nat) (B : List S3) (w : World) (hk : Row w w.heap.size ak nk zs) (hnk : nk ≤ 1048576) (ha : Row3 w w.heap.size a n A) (hn : n ≤ 1048576) (hb : Row3 w w.heap.size b m B) (hm : m ≤ 1048576) :
    Calls Tryz.prog 106 #[.slice ak nk ck, .slice a n ca, .slice b m cb] w fun e w' => (∃ g c, e = .returned (.slice (some ⟨g, 0, none⟩) (MG (RT zs nk) (A ++ B)).length c) ∧ OwnS w' w.heap.size g (MG (RT zs nk) (A ++ B)).length c (MG (RT zs nk) (A ++ B))) ∧ Below w.heap.size w w' := by
  have lA : A.length = n := ha.1
  have lB : B.length = m := hb.1
  have lAB : (A ++ B).length = n + m := by simp [lA, lB]
  have O1 := Og.ownS_made w
  have B1 := (Below.refl w.heap.size w).alloc (Nat.le_refl _) (.cells #[] 125)
  go_enter Tryz.func106, Tryz.ntmps106
  go_wp2_with fail
  refine (Sl.s_KeysOk ak nk ck zs _ ((hk.later B1 (Nat.le_refl _)).more B1.size) hnk).mono ?_
  rintro e w1 ⟨rfl, rfl⟩
  cases hko : KO zs nk with
  | false =>
    have HE : Hid (MG (RT zs nk) (A ++ B) = []) := mg_none (rt_ko hko) _ _
    go_wp2
    go_ret
    rw [HE.out]
    exact ⟨⟨_, _, rfl, O1⟩, B1⟩
  | true =>
    clear hko
    go_wp2_with fail
    go_loopw [7, 8, 9] (fun v q _ wr => ∃ (k g m2 c : Nat) (L : List S3), k ≤ n + m ∧ v = .slice (some ⟨g, 0, none⟩) m2 c ∧ q = .int .i64 (k : Int) ∧ Hid (mg (RT zs nk) (A ++ B) k = L) ∧ OwnS wr w.heap.size g m2 c L ∧ Below w.heap.size w wr) (fun _ q _ _ => n + m - (intOf q).toNat)
    case atStart => exact ⟨0, _, 0, 0, [], Nat.zero_le _, rfl, rfl, rfl, O1, B1⟩
    case round =>
      clear O1 B1
      obtain ⟨k, g, m2, c, L, hkk, rfl, rfl, HM, OS, BB⟩ := hrel
      have hLm : L.length = m2 := OS.len
      have hml : m2 ≤ k := by rw [← hLm, ← HM.out]; exact mg_len _ _ _
      have hsum : IntKind.i64.wrap ((n : Int) + (m : Int)) = (n : Int) + (m : Int) := by rw [IntKind.wrap_i64]; omega
      by_cases hlt : k < n + m
      · have hi2 : (k : Int) < (n : Int) + (m : Int) := by omega
        obtain ⟨q, hq⟩ : ∃ q, q = wr.heap.size := ⟨_, rfl⟩
        have HQ : Hid (q = wr.heap.size) := hq
        by_cases hkn : k < n
        · have hi3 : (k : Int) < (n : Int) := by omega
          obtain ⟨_, hz | ⟨bb, off, rfl, hB, hc⟩⟩ := ha
          · omega
          obtain ⟨q0, q1, q2⟩ := hc k hkn
          clear hc
          have e0 := (BB.cell (p := ⟨bb, off + k * 3, none⟩) hB).trans q0
          have e1 := (BB.cell (p := ⟨bb, off + k * 3 + 1, none⟩) hB).trans q1
          have e2 := (BB.cell (p := ⟨bb, off + k * 3 + 2, none⟩) hB).trans q2
          have HX : Hid (es (A ++ B) k = es A k) := es_left (by omega)
          clear q0 q1 q2
          have hbl : bb < wr.heap.size := by have := BB.size; omega
          have hn1 : ¬ (bb = wr.heap.size) := by omega
          have hn2 : ¬ (wr.heap.size = bb) := by omega
          have MU := Mu.lay (es A k) OS BB hq
          clear hq OS
          have hwb := BB.size
          clear BB
          obtain ⟨x, hx⟩ : ∃ x, x = (es A k) := ⟨_, rfl⟩
          rw [← hx] at MU HX e0 e1 e2
          clear hx
          go_wp2_with fail
          rw [← HQ.out]
          generalize wr.alloc (.cells #[.int .i64 x.1, .int .i64 x.2.1, .int .i64 x.2.2] 125) = wS at MU ⊢
          clear e0 e1 e2 HQ hbl hn1 hn2
          refine (Sl.s_SealRight ak nk ck zs x.1 x.2.1 x.2.2 _ ((hk.later MU.BB (Nat.le_refl _)).more MU.BB.size) hnk).mono ?_
          rintro e w4 ⟨rfl, b4⟩
          replace MU := MU.below b4
          clear b4
          cases hR : SR zs nk x.1 x.2.1 x.2.2 with
          | false =>
            have HN : Hid (mg (RT zs nk) (A ++ B) (k + 1) = L) := mg_no HM.out HX.out hR
            clear hR
            go_wp2
            go_roundw
            case rel => exact ⟨k + 1, g, m2, c, L, by omega, rfl, by go_num, HN, MU.OS, MU.BB⟩
            case measure => simp [intOf]; omega
          | true =>
            have HN : Hid (mg (RT zs nk) (A ++ B) (k + 1) = put L x) := mg_yes HM.out HX.out hR
            clear hR
            have x0 := MU.RX.cell 0 rfl
            have x1 := MU.RX.cell 1 rfl
            have x2 := MU.RX.cell 2 rfl
            go_wp2_with fail
            refine (l11Put (some ⟨g, 0, none⟩) m2 c L x _ MU.OS.row (by omega)).mono ?_
            rintro e w5 ⟨⟨g5, c5, rfl, O5⟩, b5⟩
            have hSz := MU.BB.size
            have O6 := Og.own_low O5 hSz
            replace MU := MU.below b5
            clear x0 x1 x2 b5 hSz O5
            go_wp2
            go_roundw
            case rel => exact ⟨k + 1, g5, _, c5, _, by omega, rfl, by go_num, HN, O6, MU.BB⟩
            case measure => simp [intOf]; omega
        · have hi3 : ¬ (k : Int) < (n : Int) := by omega
          obtain ⟨j, hj⟩ : ∃ j, k = n + j := ⟨k - n, by omega⟩
          have hjm : j < m := by omega
          have hji : IntKind.i64.wrap ((k : Int) - (n : Int)) = (j : Int) := by rw [IntKind.wrap_i64]; omega
          obtain ⟨_, hz | ⟨bb, off, rfl, hB, hc⟩⟩ := hb
          · omega
          obtain ⟨q0, q1, q2⟩ := hc j hjm
          clear hc
          have e0 := (BB.cell (p := ⟨bb, off + j * 3, none⟩) hB).trans q0
          have e1 := (BB.cell (p := ⟨bb, off + j * 3 + 1, none⟩) hB).trans q1
          have e2 := (BB.cell (p := ⟨bb, off + j * 3 + 2, none⟩) hB).trans q2
          have HX : Hid (es (A ++ B) k = es B j) := by show es (A ++ B) k = _; rw [es_right (by omega)]; congr 1; omega
          clear hj
          clear q0 q1 q2
          have hbl : bb < wr.heap.size := by have := BB.size; omega
          have hn1 : ¬ (bb = wr.heap.size) := by omega
          have hn2 : ¬ (wr.heap.size = bb) := by omega
          have MU := Mu.lay (es B j) OS BB hq
          clear hq OS
          have hwb := BB.size
          clear BB
          obtain ⟨x, hx⟩ : ∃ x, x = (es B j) := ⟨_, rfl⟩
          rw [← hx] at MU HX e0 e1 e2
          clear hx
          go_wp2_with fail
          rw [← HQ.out]
          generalize wr.alloc (.cells #[.int .i64 x.1, .int .i64 x.2.1, .int .i64 x.2.2] 125) = wS at MU ⊢
          clear e0 e1 e2 HQ hbl hn1 hn2
          refine (Sl.s_SealRight ak nk ck zs x.1 x.2.1 x.2.2 _ ((hk.later MU.BB (Nat.le_refl _)).more MU.BB.size) hnk).mono ?_
          rintro e w4 ⟨rfl, b4⟩
          replace MU := MU.below b4
          clear b4
          cases hR : SR zs nk x.1 x.2.1 x.2.2 with
          | false =>
            have HN : Hid (mg (RT zs nk) (A ++ B) (k + 1) = L) := mg_no HM.out HX.out hR
            clear hR
            go_wp2
            go_roundw
            case rel => exact ⟨k + 1, g, m2, c, L, by omega, rfl, by go_num, HN, MU.OS, MU.BB⟩
            case measure => simp [intOf]; omega
          | true =>
            have HN : Hid (mg (RT zs nk) (A ++ B) (k + 1) = put L x) := mg_yes HM.out HX.out hR
            clear hR
            have x0 := MU.RX.cell 0 rfl
            have x1 := MU.RX.cell 1 rfl
            have x2 := MU.RX.cell 2 rfl
            go_wp2_with fail
            refine (l11Put (some ⟨g, 0, none⟩) m2 c L x _ MU.OS.row (by omega)).mono ?_
            rintro e w5 ⟨⟨g5, c5, rfl, O5⟩, b5⟩
            have hSz := MU.BB.size
            have O6 := Og.own_low O5 hSz
            replace MU := MU.below b5
            clear x0 x1 x2 b5 hSz O5
            go_wp2
            go_roundw
            case rel => exact ⟨k + 1, g5, _, c5, _, by omega, rfl, by go_num, HN, O6, MU.BB⟩
            case measure => simp [intOf]; omega
      · have hi2 : ¬ (k : Int) < (n : Int) + (m : Int) := by omega
        obtain rfl : k = n + m := by omega
        have HE : Hid (MG (RT zs nk) (A ++ B) = L ∧ L.length = m2) := ⟨by unfold MG; rw [lAB, HM.out], hLm⟩
        clear hLm hml
        go_wp2
        go_ret
        obtain ⟨HE1, HE2⟩ := HE.out
        rw [HE1, HE2]
        exact ⟨⟨g, c, rfl, OS⟩, BB⟩

end Go.Proofs.YtimakfokgcnklaaGreat.Mg
