/-
  slices.IndexFunc, slices.ContainsFunc with closures, slices.Equal at seals; what impl's court asks of seals.
-/
import Derived.Test.YtimakfokgcnklaaGreatCs1
namespace Go.Proofs.YtimakfokgcnklaaGreat.Mi
open Go.ChangeShapes Go.WideShapes Go.ChangeAt Go.RowKit
open Ls (el Row)
open Rm (Room)
open Rd (Flags)
open Sb (S3 es es_ext fl sl Row3 SHas)
open Mg (MG RT neqS)
open Sl (KO SR lk_yes lk_no)
open Sp (LK retb)
set_option linter.unusedVariables false
set_option linter.unusedSimpArgs false

theorem hid {p : Prop} (h : p) : Hid p := h
def AN (G : Nat → Bool) : Nat → Bool
  | 0 => false
  | k + 1 => AN G k || G k
theorem an_next {G : Nat → Bool} {k : Nat} (h : AN G k = false) (hg : G k = false) : AN G (k + 1) = false := by show (AN G k || G k) = false; rw [h, hg]; rfl
theorem an_yes {G : Nat → Bool} {k n : Nat} (hk : k < n) (hg : G k = true) : AN G n = true := by
  induction n with
  | zero => omega
  | succ n ih =>
    show (AN G n || G n) = true
    by_cases e : k = n
    · subst e; rw [hg]; simp
    · rw [ih (by omega)]; rfl
theorem an_no {G : Nat → Bool} {n : Nat} (h : ∀ k, k < n → G k = false) : AN G n = false := by
  induction n with
  | zero => rfl
  | succ n ih => exact an_next (ih fun k hk => h k (by omega)) (h n (by omega))
theorem an_iff {G : Nat → Bool} {n : Nat} : AN G n = false ↔ ∀ k, k < n → G k = false := by
  refine ⟨fun h k hk => ?_, an_no⟩
  cases hg : G k with
  | false => rfl
  | true => rw [an_yes hk hg] at h; cases h

/-- One of a row is so, as a closure tells. -/
abbrev HEKept (p : Nat) (a : Option Addr) (n : Nat) (G : Nat → Bool) (w : World) : Prop := ∀ k, k < n → ∃ (b off : Nat) (x0 x1 x2 : Int), a = some ⟨b, off, none⟩ ∧ (∀ w', Below w.heap.size w w' → w'.cell? ⟨b, off + k * 3, none⟩ = some (.int .i64 x0) ∧ w'.cell? ⟨b, off + k * 3 + 1, none⟩ = some (.int .i64 x1) ∧ w'.cell? ⟨b, off + k * 3 + 2, none⟩ = some (.int .i64 x2)) ∧ (∀ w', Below w.heap.size w w' → Calls Tryz.prog 181 #[.agg #[.int .i64 x0, .int .i64 x1, .int .i64 x2], .pointer (some ⟨p, 0, none⟩)] w' fun e w'' => e = .returned (.bool (G k)) ∧ Below w'.heap.size w' w'')
set_option maxHeartbeats 1000000 in
theorem indexKept (p : Nat) (a : Option Addr) (n cap : Nat) (G : Nat → Bool) (w : World) (hn : n ≤ 1048576) (HE : Hid (HEKept p a n G w)) :
    Calls Tryz.prog 138 #[.slice a n cap, .func (Fn.func 181) #[] #[.pointer (some ⟨p, 0, none⟩)]] w fun e w' => (∃ i : Int, e = .returned (.int .i64 i) ∧ decide (0 ≤ i) = AN G n) ∧ Below w.heap.size w w' := by
  go_enter Tryz.func138, Tryz.ntmps138
  go_wp2
  go_loopw [8] (fun i w' => ∃ k : Nat, k ≤ n ∧ i = .int .i64 k ∧ Hid (AN G k = false ∧ Below w.heap.size w w')) (fun i _ => n - (intOf i).toNat)
  case atStart => exact ⟨0, Nat.zero_le _, rfl, ⟨rfl, Below.refl _ _⟩⟩
  case round =>
    obtain ⟨k, hk, rfl, HH⟩ := hrel
    by_cases hlt : k < n
    · have hi : (k : Int) < n := by omega
      obtain ⟨b, off, x0, x1, x2, rfl, hc, hcall⟩ := HE.out k hlt
      obtain ⟨e0, e1, e2⟩ := hc _ HH.out.2
      have HC := hid (hcall _ HH.out.2)
      clear hc hcall
      cases hg : G k with
      | true =>
        have HF : Hid (AN G n = true) := an_yes hlt hg
        rw [hg] at HC
        clear hg
        go_wp2_with (go_at_call 181; refine (HC.out).mono ?_; rintro e w2 ⟨rfl, hb2⟩)
        go_ret
        exact ⟨⟨_, rfl, by rw [HF.out]; exact decide_eq_true (by omega)⟩, HH.out.2.trans (hb2.mono HH.out.2.size)⟩
      | false =>
        have HN : Hid (AN G (k + 1) = false) := an_next HH.out.1 hg
        rw [hg] at HC
        clear hg
        go_wp2_with (go_at_call 181; refine (HC.out).mono ?_; rintro e w2 ⟨rfl, hb2⟩)
        go_roundw
        case rel => exact ⟨k + 1, by omega, by go_num, ⟨HN.out, HH.out.2.trans (hb2.mono HH.out.2.size)⟩⟩
        case measure => simp [intOf]; omega
    · have hi : ¬ (k : Int) < n := by omega
      obtain rfl : k = n := by omega
      go_wp2
      go_ret
      exact ⟨⟨_, rfl, by rw [HH.out.1]; rfl⟩, HH.out.2⟩

theorem containsKept (p : Nat) (a : Option Addr) (n cap : Nat) (G : Nat → Bool) (w : World) (hn : n ≤ 1048576) (HE : Hid (HEKept p a n G w)) :
    Calls Tryz.prog 126 #[.slice a n cap, .func (Fn.func 181) #[] #[.pointer (some ⟨p, 0, none⟩)]] w fun e w' => e = .returned (.bool (AN G n)) ∧ Below w.heap.size w w' := by
  go_enter Tryz.func126, Tryz.ntmps126
  go_wp2_with fail
  refine (indexKept p a n cap G _ hn HE).mono ?_
  rintro e w2 ⟨⟨i, rfl, hi⟩, hb⟩
  go_wp2
  go_ret
  exact ⟨retb rfl, hb⟩

/-- One of a row is so, as a closure tells. -/
abbrev HERight (p : Nat) (a : Option Addr) (n : Nat) (G : Nat → Bool) (w : World) : Prop := ∀ k, k < n → ∃ (b off : Nat) (x0 x1 x2 : Int), a = some ⟨b, off, none⟩ ∧ (∀ w', Below w.heap.size w w' → w'.cell? ⟨b, off + k * 3, none⟩ = some (.int .i64 x0) ∧ w'.cell? ⟨b, off + k * 3 + 1, none⟩ = some (.int .i64 x1) ∧ w'.cell? ⟨b, off + k * 3 + 2, none⟩ = some (.int .i64 x2)) ∧ (∀ w', Below w.heap.size w w' → Calls Tryz.prog 127 #[.agg #[.int .i64 x0, .int .i64 x1, .int .i64 x2], .pointer (some ⟨p, 0, none⟩)] w' fun e w'' => e = .returned (.bool (G k)) ∧ Below w'.heap.size w' w'')
set_option maxHeartbeats 1000000 in
theorem indexRight (p : Nat) (a : Option Addr) (n cap : Nat) (G : Nat → Bool) (w : World) (hn : n ≤ 1048576) (HE : Hid (HERight p a n G w)) :
    Calls Tryz.prog 138 #[.slice a n cap, .func (Fn.func 127) #[] #[.pointer (some ⟨p, 0, none⟩)]] w fun e w' => (∃ i : Int, e = .returned (.int .i64 i) ∧ decide (0 ≤ i) = AN G n) ∧ Below w.heap.size w w' := by
  go_enter Tryz.func138, Tryz.ntmps138
  go_wp2
  go_loopw [8] (fun i w' => ∃ k : Nat, k ≤ n ∧ i = .int .i64 k ∧ Hid (AN G k = false ∧ Below w.heap.size w w')) (fun i _ => n - (intOf i).toNat)
  case atStart => exact ⟨0, Nat.zero_le _, rfl, ⟨rfl, Below.refl _ _⟩⟩
  case round =>
    obtain ⟨k, hk, rfl, HH⟩ := hrel
    by_cases hlt : k < n
    · have hi : (k : Int) < n := by omega
      obtain ⟨b, off, x0, x1, x2, rfl, hc, hcall⟩ := HE.out k hlt
      obtain ⟨e0, e1, e2⟩ := hc _ HH.out.2
      have HC := hid (hcall _ HH.out.2)
      clear hc hcall
      cases hg : G k with
      | true =>
        have HF : Hid (AN G n = true) := an_yes hlt hg
        rw [hg] at HC
        clear hg
        go_wp2_with (go_at_call 127; refine (HC.out).mono ?_; rintro e w2 ⟨rfl, hb2⟩)
        go_ret
        exact ⟨⟨_, rfl, by rw [HF.out]; exact decide_eq_true (by omega)⟩, HH.out.2.trans (hb2.mono HH.out.2.size)⟩
      | false =>
        have HN : Hid (AN G (k + 1) = false) := an_next HH.out.1 hg
        rw [hg] at HC
        clear hg
        go_wp2_with (go_at_call 127; refine (HC.out).mono ?_; rintro e w2 ⟨rfl, hb2⟩)
        go_roundw
        case rel => exact ⟨k + 1, by omega, by go_num, ⟨HN.out, HH.out.2.trans (hb2.mono HH.out.2.size)⟩⟩
        case measure => simp [intOf]; omega
    · have hi : ¬ (k : Int) < n := by omega
      obtain rfl : k = n := by omega
      go_wp2
      go_ret
      exact ⟨⟨_, rfl, by rw [HH.out.1]; rfl⟩, HH.out.2⟩

theorem containsRight (p : Nat) (a : Option Addr) (n cap : Nat) (G : Nat → Bool) (w : World) (hn : n ≤ 1048576) (HE : Hid (HERight p a n G w)) :
    Calls Tryz.prog 126 #[.slice a n cap, .func (Fn.func 127) #[] #[.pointer (some ⟨p, 0, none⟩)]] w fun e w' => e = .returned (.bool (AN G n)) ∧ Below w.heap.size w w' := by
  go_enter Tryz.func126, Tryz.ntmps126
  go_wp2_with fail
  refine (indexRight p a n cap G _ hn HE).mono ?_
  rintro e w2 ⟨⟨i, rfl, hi⟩, hb⟩
  go_wp2
  go_ret
  exact ⟨retb rfl, hb⟩

theorem keptF (p : Nat) (lo hi x0 x1 x2 : Int) (w : World) (h0 : w.cell? ⟨p, 0, none⟩ = some (.int .i64 lo)) (h1 : w.cell? ⟨p, 1, none⟩ = some (.int .i64 hi)) :
    Calls Tryz.prog 181 #[.agg #[.int .i64 x0, .int .i64 x1, .int .i64 x2], .pointer (some ⟨p, 0, none⟩)] w fun e w' => e = .returned (.bool (LK lo hi x0)) ∧ Below w.heap.size w w' := by
  have B := (Below.refl w.heap.size w).alloc (Nat.le_refl _) (.cells #[.int .i64 x0, .int .i64 x1, .int .i64 x2] 125)
  have hp := World.block_lt_of_cell? _ _ h0
  have g0 : (w.alloc (.cells #[.int .i64 x0, .int .i64 x1, .int .i64 x2] 125)).cell? ⟨p, 0, none⟩ = some (.int .i64 lo) := (B.cell (p := ⟨p, 0, none⟩) hp).trans h0
  have g1 : (w.alloc (.cells #[.int .i64 x0, .int .i64 x1, .int .i64 x2] 125)).cell? ⟨p, 1, none⟩ = some (.int .i64 hi) := (B.cell (p := ⟨p, 1, none⟩) hp).trans h1
  have R := Room.new w [.int .i64 x0, .int .i64 x1, .int .i64 x2] 125
  have c0 := R.cell 0 rfl
  go_enter Tryz.func181, Tryz.ntmps181
  go_wp2_with fail
  refine (Sp.i_lacks lo hi x0 _).mono ?_
  rintro e w2 ⟨rfl, b2⟩
  go_wp2
  go_ret
  exact ⟨rfl, B.trans (b2.mono B.size)⟩

theorem rightF (p : Nat) (aK : Option Addr) (n cK : Nat) (zs : List Int) (x0 x1 x2 : Int) (w : World) (h0 : w.cell? ⟨p, 0, none⟩ = some (.slice aK n cK)) (hk : Row w w.heap.size aK n zs) (hn : n ≤ 1048576) :
    Calls Tryz.prog 127 #[.agg #[.int .i64 x0, .int .i64 x1, .int .i64 x2], .pointer (some ⟨p, 0, none⟩)] w fun e w' => e = .returned (.bool (!SR zs n x0 x1 x2)) ∧ Below w.heap.size w w' := by
  have B := (Below.refl w.heap.size w).alloc (Nat.le_refl _) (.cells #[.int .i64 x0, .int .i64 x1, .int .i64 x2] 125)
  have hp := World.block_lt_of_cell? _ _ h0
  have g0 : (w.alloc (.cells #[.int .i64 x0, .int .i64 x1, .int .i64 x2] 125)).cell? ⟨p, 0, none⟩ = some (.slice aK n cK) := (B.cell (p := ⟨p, 0, none⟩) hp).trans h0
  have R := Room.new w [.int .i64 x0, .int .i64 x1, .int .i64 x2] 125
  have c0 := R.cell 0 rfl
  have c1 := R.cell 1 rfl
  have c2 := R.cell 2 rfl
  go_enter Tryz.func127, Tryz.ntmps127
  go_wp2_with fail
  refine (Sl.i_SealRight aK n cK zs x0 x1 x2 _ ((hk.later B (Nat.le_refl _)).more B.size) hn).mono ?_
  rintro e w2 ⟨rfl, b2⟩
  go_wp2
  go_ret
  exact ⟨rfl, B.trans (b2.mono B.size)⟩

/-- Every one of a row's cells, in every later world. -/
theorem row3_he {w : World} {a : Option Addr} {n k : Nat} {A : List S3} (h : Row3 w w.heap.size a n A) (hk : k < n) : ∃ b off, a = some ⟨b, off, none⟩ ∧ ∀ w', Below w.heap.size w w' → w'.cell? ⟨b, off + k * 3, none⟩ = some (.int .i64 (es A k).1) ∧ w'.cell? ⟨b, off + k * 3 + 1, none⟩ = some (.int .i64 (es A k).2.1) ∧ w'.cell? ⟨b, off + k * 3 + 2, none⟩ = some (.int .i64 (es A k).2.2) := by
  obtain ⟨_, hz | ⟨b, off, rfl, hB, hc⟩⟩ := h
  · omega
  · refine ⟨b, off, rfl, fun w' B => ?_⟩
    have q : ∀ o, w'.cell? ⟨b, o, none⟩ = w.cell? ⟨b, o, none⟩ := fun o => B.cell (p := ⟨b, o, none⟩) hB
    simp only [q]
    exact hc k hk

/-- Each of them is right. -/
def AL (zs : List Int) (n : Nat) (A : List S3) : Bool := !AN (fun k => !SR zs n (es A k).1 (es A k).2.1 (es A k).2.2) A.length
theorem i_allRight (aK : Option Addr) (n cK : Nat) (zs : List Int) (a : Option Addr) (m ca : Nat) (A : List S3) (w : World) (hk : Row w w.heap.size aK n zs) (hn : n ≤ 1048576) (ha : Row3 w w.heap.size a m A) (hm : m ≤ 1048576) :
    Calls Tryz.prog 99 #[.slice aK n cK, .slice a m ca] w fun e w' => e = .returned (.bool (AL zs n A)) ∧ Below w.heap.size w w' := by
  have B := (Below.refl w.heap.size w).alloc (Nat.le_refl _) (.cells #[.slice aK n cK] 26)
  have R := Room.new w [.slice aK n cK] 26
  have hk2 := (hk.later B (Nat.le_refl _)).more B.size
  have ha2 := ha.below B
  have HV : Hid (AL zs n A = !AN (fun k => !SR zs n (es A k).1 (es A k).2.1 (es A k).2.2) m) := by show AL zs n A = _; unfold AL; rw [ha.1]
  go_enter Tryz.func99, Tryz.ntmps99
  go_wp2_with fail
  refine (containsRight w.heap.size a m ca (fun k => !SR zs n (es A k).1 (es A k).2.1 (es A k).2.2) _ hm (fun k hkm => ?_)).mono ?_
  · obtain ⟨b, off, rfl, hc⟩ := row3_he ha2 hkm
    exact ⟨b, off, _, _, _, rfl, hc, fun w' B' => rightF w.heap.size aK n cK zs _ _ _ w' ((R.below B').cell 0 rfl) ((hk2.later B' (Nat.le_refl _)).more B'.size) hn⟩
  · rintro e w2 ⟨rfl, b2⟩
    go_wp2
    go_ret
    exact ⟨retb HV.out.symm, B.trans (b2.mono B.size)⟩

set_option maxHeartbeats 4000000 in
theorem i_equal (a b : Option Addr) (n m ca cb : Nat) (A B : List S3) (w : World) (hA : Row3 w w.heap.size a n A) (hB : Row3 w w.heap.size b m B) (hn : n ≤ 3000000) (hm : m ≤ 3000000) :
    Calls Tryz.prog 95 #[.slice a n ca, .slice b m cb] w fun e w' => e = .returned (.bool (decide (A = B))) ∧ Below w.heap.size w w' := by
  by_cases hnm : n = m
  · subst hnm
    have hv0 : ((n : Int) != (n : Int)) = false := by simp
    go_enter Tryz.func95, Tryz.ntmps95
    go_wp2
    go_loopw [13] (fun q wr => ∃ k : Nat, k ≤ n ∧ q = .int .i64 (k : Int) ∧ Hid ((∀ i, i < k → es A i = es B i) ∧ Below w.heap.size w wr)) (fun q _ => n - (intOf q).toNat)
    case atStart => exact ⟨0, Nat.zero_le _, rfl, ⟨fun i hi => by omega, Below.refl _ _⟩⟩
    case round =>
      obtain ⟨k, hk, rfl, HH⟩ := hrel
      by_cases hlt : k < n
      · have hi : (k : Int) < n := by omega
        have lA := hA.1
        have lB := hB.1
        obtain ⟨_, hz | ⟨b1, o1, rfl, hB1, hc1⟩⟩ := hA
        · omega
        obtain ⟨_, hz | ⟨b2, o2, rfl, hB2, hc2⟩⟩ := hB
        · omega
        obtain ⟨q0, q1, q2⟩ := hc1 k hlt
        obtain ⟨p0, p1, p2⟩ := hc2 k hlt
        clear hc1 hc2
        have e0 := (HH.out.2.cell (p := ⟨b1, o1 + k * 3, none⟩) hB1).trans q0
        have e1 := (HH.out.2.cell (p := ⟨b1, o1 + k * 3 + 1, none⟩) hB1).trans q1
        have e2 := (HH.out.2.cell (p := ⟨b1, o1 + k * 3 + 2, none⟩) hB1).trans q2
        have f0 := (HH.out.2.cell (p := ⟨b2, o2 + k * 3, none⟩) hB2).trans p0
        have f1 := (HH.out.2.cell (p := ⟨b2, o2 + k * 3 + 1, none⟩) hB2).trans p1
        have f2 := (HH.out.2.cell (p := ⟨b2, o2 + k * 3 + 2, none⟩) hB2).trans p2
        clear q0 q1 q2 p0 p1 p2
        by_cases hd : es A k = es B k
        · have hv : ∀ W, (binOp .neq 125 (sl (es A k)) (sl (es B k))).run Tryz.prog W = .ok (.bool false) W := fun W => by rw [neqS, decide_eq_true hd]; rfl
          have HD : Hid (es A k = es B k) := hd
          clear hd lA lB
          go_wp2_with fail
          go_region
          go_wp2
          go_roundw
          case rel =>
            refine ⟨k + 1, by omega, by go_num, ⟨fun i hi => ?_, HH.out.2.drew⟩⟩
            by_cases e : i = k
            · subst e; exact HD.out
            · exact HH.out.1 i (by omega)
          case measure => simp [intOf]; omega
        · have hv : ∀ W, (binOp .neq 125 (sl (es A k)) (sl (es B k))).run Tryz.prog W = .ok (.bool true) W := fun W => by rw [neqS, decide_eq_false hd]; rfl
          have HD : Hid (decide (A = B) = false) := Cd.differ lA lB hlt hd
          clear hd lA lB
          go_wp2_with fail
          go_region
          go_wp2
          go_ret
          exact ⟨retb HD.out.symm, HH.out.2.drew⟩
      · have hi : ¬ (k : Int) < n := by omega
        obtain rfl : k = n := by omega
        have HD : Hid (decide (A = B) = true) := decide_eq_true (es_ext (by rw [hA.1, hB.1]) fun i hi => HH.out.1 i (by have := hA.1; omega))
        go_wp2
        go_ret
        exact ⟨retb HD.out.symm, HH.out.2⟩
  · have HD : Hid (decide (A = B) = false) := decide_eq_false fun e => hnm (by rw [← hA.1, ← hB.1, e])
    have hv : ((n : Int) != (m : Int)) = true := by simp; omega
    clear hnm
    go_enter Tryz.func95, Tryz.ntmps95
    go_wp2
    go_ret
    exact ⟨retb HD.out.symm, Below.refl _ _⟩

end Go.Proofs.YtimakfokgcnklaaGreat.Mi
