/-
  What a node guesses in the middle of a turn (plain); spec.l6Offs: where each is when all have drifted.
-/
import Derived.Test.YtcgcmceobmpdiaaGreatTIa
import Derived.Test.YtcgcmceobmpdiaaGreatOwnAt
import Derived.Deep.RegionLaw
namespace Go.Proofs.YtcgcmceobmpdiaaGreat.Tu
open Go.ChangeShapes Go.WideShapes Go.ChangeAt Go.RowKit
open Ls (el Row)
open Ow (Has Own ints)
open Rd (Flags)
open Bo (eb HasB)
open Rm (Room)
open Sp (span LK)
open Wl (wld c9 WO bad allIn)
open Ss (RowsAt ln rw_ tot)
set_option linter.unusedVariables false
set_option linter.unusedSimpArgs false

/-- Where the first j are when all have drifted. -/
def OP (os ds : List Int) (j : Nat) : List Int := (List.range j).map (fun q => el os q + el ds q)
theorem op_succ (os ds : List Int) (j : Nat) : OP os ds (j + 1) = OP os ds j ++ [el os j + el ds j] := by unfold OP; rw [List.range_succ, List.map_append]; rfl
theorem op_len (os ds : List Int) (j : Nat) : (OP os ds j).length = j := by simp [OP]
theorem op_el (os ds : List Int) {j q : Nat} (h : q < j) : el (OP os ds j) q = el os q + el ds q := by simp [OP, el, h]
theorem mo_el (os ds : List Int) {q : Nat} (h : q < os.length) : el (MO os ds) q = el os q + el ds q := by unfold MO; rw [do_el os ds os.length q h, if_pos h]
/-- What the node i guesses of the node j. -/
def GS (ks os ds : List Int) (es ls : List (List Int)) (i j : Nat) : Int := if el ks j = 0 then (if j = i then 0 else (el os j + el ds j) - (el os i + el ds i) + el (rw_ es i) j) else el (rw_ ls i) j
/-- What the node i guesses of the first j. -/
def GL (ks os ds : List Int) (es ls : List (List Int)) (i j : Nat) : List Int := (List.range j).map (GS ks os ds es ls i)
theorem gl_succ (ks os ds : List Int) (es ls : List (List Int)) (i j : Nat) : GL ks os ds es ls i (j + 1) = GL ks os ds es ls i j ++ [GS ks os ds es ls i j] := by unfold GL; rw [List.range_succ, List.map_append]; rfl
theorem gl_len (ks os ds : List Int) (es ls : List (List Int)) (i j : Nat) : (GL ks os ds es ls i j).length = j := by simp [GL]
/-- All that the node i guesses, none where the turn is not right, or i is no node that asks. -/
def GO (n l d r p s : Int) (ks : List Int) (k : Nat) (os : List Int) (m : Nat) (t : Int) (ds : List Int) (es ls : List (List Int)) (fs rs : List Bool) (nF nR : Nat) (i : Int) : List Int :=
  if TO n l d r p s ks k os m t ds es ls fs rs nF nR = true ∧ (0 ≤ i ∧ i < (k : Int)) ∧ (el (FK ks fs) i.toNat = 0 ∨ eb rs i.toNat = true) then GL (FK ks fs) os ds es ls i.toNat k else []
theorem go_len (n l d r p s : Int) (ks : List Int) (k : Nat) (os : List Int) (m : Nat) (t : Int) (ds : List Int) (es ls : List (List Int)) (fs rs : List Bool) (nF nR : Nat) (i : Int) : (GO n l d r p s ks k os m t ds es ls fs rs nF nR i).length ≤ k := by
  unfold GO
  split
  · rw [gl_len]; exact Nat.le_refl _
  · exact Nat.zero_le _
/-- What a right turn says. -/
theorem to_facts {n l d r p s : Int} {ks os ds : List Int} {k m : Nat} {t : Int} {es ls : List (List Int)} {fs rs : List Bool} {nF nR : Nat} (h : TO n l d r p s ks k os m t ds es ls fs rs nF nR = true) :
    WO n l d r p s ks k os m t = true ∧ nF = k ∧ nR = k ∧ R1 d k ds = true ∧ RS r k es = true ∧ RS 1000000000000000 k ls = true := by
  unfold TO at h
  simp only [Bool.and_eq_true, beq_iff_eq] at h
  exact ⟨h.1, h.2.1, h.2.2.1, h.2.2.2.1, h.2.2.2.2.1, h.2.2.2.2.2.1⟩
theorem r1_facts {q : Int} {k : Nat} {zs : List Int} (h : R1 q k zs = true) : zs.length = k ∧ ∀ j, j < k → -q ≤ el zs j ∧ el zs j ≤ q := by
  unfold R1 at h
  simp only [Bool.and_eq_true, beq_iff_eq] at h
  exact ⟨h.1, all_at h.2⟩
theorem rs_facts {q : Int} {k : Nat} {zss : List (List Int)} (h : RS q k zss = true) : zss.length = k ∧ ∀ i, i < k → ln zss i = k ∧ ∀ j, j < k → -q ≤ el (rw_ zss i) j ∧ el (rw_ zss i) j ≤ q := by
  unfold RS at h
  simp only [Bool.and_eq_true, beq_iff_eq] at h
  refine ⟨h.1, fun i hi => ?_⟩
  have e : R1 q k (rw_ zss i) = true := by
    cases hx : R1 q k (rw_ zss i) with
    | true => rfl
    | false => have := rows_no (most := q) (n := k) (zss := zss) (k := i) (by rw [rowsK, hx]; simp) k hi; rw [h.2] at this; cases this
  exact r1_facts e

set_option maxHeartbeats 4000000 in
theorem l6Offs (n l d r p s t : Int) (K : Value) (bo oo k cO bd od cD : Nat) (E L F R : Value) (os ds : List Int) (w : World) (hco : ∀ j, j < k → w.cell? ⟨bo, oo + j, none⟩ = some (.int .i64 (el os j))) (hbo : bo < w.heap.size) (hcd : ∀ j, j < k → w.cell? ⟨bd, od + j, none⟩ = some (.int .i64 (el ds j))) (hbd : bd < w.heap.size) (hk : k ≤ 1048576) (hO : Hid (∀ j, j < k → -1000000000000000 ≤ el os j ∧ el os j ≤ 1000000000000000)) (hD : Hid (∀ j, j < k → -1000000 ≤ el ds j ∧ el ds j ≤ 1000000)) :
    Calls Tryz.prog 42 #[wld n l d r p s K (.slice (some ⟨bo, oo, none⟩) k cO) t, trn (.slice (some ⟨bd, od, none⟩) k cD) E L F R] w fun e w' => (∃ g c, e = .returned (.slice (some ⟨g, 0, none⟩) k c) ∧ Own w' w.heap.size g k c (OP os ds k)) ∧ Below w.heap.size w w' := by
  obtain ⟨i0, hi0, hz0, hz1, hz2⟩ := info_parts Ls.info
  have R0 := ((Room.new w (c9 n l d r p s K (.slice (some ⟨bo, oo, none⟩) k cO) t) 32).alloc (.cells #[.slice (some ⟨bd, od, none⟩) k cD, E, L, F, R] 53)).alloc (.cells #[] 2)
  have R1 : Room ((w.alloc (.cells (c9 n l d r p s K (.slice (some ⟨bo, oo, none⟩) k cO) t).toArray 32)).alloc (.cells #[.slice (some ⟨bd, od, none⟩) k cD, E, L, F, R] 53)) (w.heap.size + 1) [.slice (some ⟨bd, od, none⟩) k cD, E, L, F, R] := Room.at _ [.slice (some ⟨bd, od, none⟩) k cD, E, L, F, R] 53 _ (by simp)
  replace R1 := R1.alloc (.cells #[] 2)
  have BB := (((Below.refl w.heap.size w).alloc (Nat.le_refl _) (.cells (c9 n l d r p s K (.slice (some ⟨bo, oo, none⟩) k cO) t).toArray 32)).alloc (by simp) (.cells #[.slice (some ⟨bd, od, none⟩) k cD, E, L, F, R] 53)).alloc (by simp; omega) (.cells #[] 2)
  have O1 : Hid (Own (((w.alloc (.cells (c9 n l d r p s K (.slice (some ⟨bo, oo, none⟩) k cO) t).toArray 32)).alloc (.cells #[.slice (some ⟨bd, od, none⟩) k cD, E, L, F, R] 53)).alloc (.cells #[] 2)) (w.heap.size + 2) (w.heap.size + 2) 0 0 []) := Ow.own_made _ _ _ (by simp) (by simp)
  have HRR : Hid (Room _ _ _ ∧ Room _ _ _) := ⟨R0, R1⟩
  clear R0 R1
  have HC : Hid (∀ j, j < k → w.cell? ⟨bo, oo + j, none⟩ = some (.int .i64 (el os j))) := hco
  have HE : Hid (∀ j, j < k → w.cell? ⟨bd, od + j, none⟩ = some (.int .i64 (el ds j))) := hcd
  clear hco hcd
  go_enter Tryz.func42, Tryz.ntmps42
  go_wp2_with fail
  go_loopw [5, 6] (fun v q wr => ∃ (j g c : Nat), j ≤ k ∧ q = .int .i64 (j : Int) ∧ v = .slice (some ⟨g, 0, none⟩) j c ∧ Hid (Own wr (w.heap.size + 2) g j c (OP os ds j)) ∧ Hid (Room wr w.heap.size (c9 n l d r p s K (.slice (some ⟨bo, oo, none⟩) k cO) t) ∧ Room wr (w.heap.size + 1) [.slice (some ⟨bd, od, none⟩) k cD, E, L, F, R]) ∧ w.heap.size + 2 ≤ wr.heap.size ∧ Below w.heap.size w wr) (fun _ q _ => k - (intOf q).toNat)
  case atStart => exact ⟨0, _, _, Nat.zero_le _, rfl, rfl, O1.out, HRR.out, by simp, BB⟩
  case round =>
    obtain ⟨j, g, c, hj, rfl, rfl, HO, HR, hsz, hb⟩ := hrel
    have hgl := HO.out.data.2.1
    clear BB O1 HRR
    by_cases hlt : j < k
    · have hi : (j : Int) < k := by omega
      have c7 := HR.out.1.cell 7 rfl
      have c0 := HR.out.2.cell 0 rfl
      have hc1 := HC.out j hlt
      rw [← hb.cell (p := ⟨bo, oo + j, none⟩) hbo] at hc1
      have hc2 := HE.out j hlt
      rw [← hb.cell (p := ⟨bd, od + j, none⟩) hbd] at hc2
      have hw : IntKind.i64.wrap (el os j + el ds j) = el os j + el ds j := by
        have := hO.out j hlt
        have := hD.out j hlt
        rw [IntKind.wrap_i64]; omega
      have E1 : Hid (OP os ds (j + 1) = OP os ds j ++ [el os j + el ds j]) := op_succ os ds j
      generalize hX : el os j + el ds j = X at hw E1
      go_wp2_with fail
      go_region_law (refine Ow.step_own_at rfl (.tmp 15) (.tmp 27) 24 rfl (w.heap.size + 2) 2 i0 (.int .i64 0) 1 8 Tryz.underlying24 hi0 hz0 hz1 hz2 rfl (by decide) _ _ _ rfl (World.ownsRow.alloc (w := wr.drew) HO.out _) ⟨wr.heap.size, 0, none⟩ 1 1 (ints [X]) rfl rfl (Ow.one_new wr.drew X _ _ rfl) (Ow.one _) (by unfold maxLen; omega) (by omega) (by simp; omega) ?_; intro v2 w2 hx2 hg3 hn2 ha2)
      all_goals
        obtain ⟨g2, c2, rfl, ho2, hat⟩ := Ow.more_at (W := wr.drew) (t := g) hx2 (Ow.no_nil hn2 rfl) ha2
        replace hg3 : World.grownBy _ w2 (some g) := hg3
        have HR2 : Hid (Room w2 w.heap.size (c9 n l d r p s K (.slice (some ⟨bo, oo, none⟩) k cO) t) ∧ Room w2 (w.heap.size + 1) [.slice (some ⟨bd, od, none⟩) k cD, E, L, F, R]) := ⟨(HR.out.1.drew.alloc _).other hg3 (by omega), (HR.out.2.drew.alloc _).other hg3 (by omega)⟩
        have hb2 : Below w.heap.size w w2 := (hb.drew.alloc hb.size _).grown hg3 (by simp; omega) (by intro j hj; cases hj; omega)
        have hs2 : w.heap.size + 2 ≤ w2.heap.size := by have := hg3.size; simp at this; omega
        clear hx2 hg3 hn2 ha2 HO HR hat
        go_wp2_with fail
        go_roundw
        case rel => exact ⟨j + 1, g2, c2, by omega, by go_num, rfl, by rw [E1.out]; exact ho2, HR2, hs2, hb2⟩
        case measure => simp [intOf]; omega
    · have hi : ¬ (j : Int) < k := by omega
      have e : j = k := by omega
      subst e
      have c7 := HR.out.1.cell 7 rfl
      go_wp2
      go_ret
      exact ⟨⟨g, c, rfl, HO.out.mono (by omega)⟩, hb⟩

end Go.Proofs.YtcgcmceobmpdiaaGreat.Tu
