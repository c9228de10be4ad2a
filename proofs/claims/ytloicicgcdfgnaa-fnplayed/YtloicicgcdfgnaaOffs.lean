/-
  The offs of those that are up: OffsOf of impl and of spec by one answer, in new memory.
-/
import Derived.Test.YtloicicgcdfgnaaUp
import Derived.Test.YtloicicgcdfgnaaOwnAt
namespace Go.Proofs.Ytloicicgcdfgnaa.Wl
open Go.ChangeShapes Go.WideShapes Go.ChangeAt Go.RowKit
open Ls (el Row)
open Rm (Room)
open Ow (Has Own ints)
open Cf (cfg CP)
set_option linter.unusedVariables false
set_option linter.unusedSimpArgs false

/-- The answer of OffsOf. -/
def OL (n l d r p s : Int) (ks : List Int) (k : Nat) (os : List Int) (m : Nat) (t : Int) : List Int := (UL n l d r p s ks k os m t).map fun x => el os x.toNat
theorem ol_len (n l d r p s : Int) (ks : List Int) (k : Nat) (os : List Int) (m : Nat) (t : Int) : (OL n l d r p s ks k os m t).length = (UL n l d r p s ks k os m t).length := by unfold OL; simp
theorem smallO (n l d r p s : Int) (ks : List Int) (k : Nat) (os : List Int) (m : Nat) (t : Int) (hk : k ≤ 1048576) : (OL n l d r p s ks k os m t).length ≤ 1048576 := by
  rw [ol_len]; exact smallU n l d r p s ks k os m t hk
theorem el_mem (zs : List Int) (j : Nat) (h : j < zs.length) : el zs j ∈ zs := by
  unfold el List.getD
  rw [List.getElem?_eq_getElem h]
  exact List.getElem_mem h
theorem ul_at {n l d r p s : Int} {ks : List Int} {k : Nat} {os : List Int} {m : Nat} {t : Int} {j : Nat} (h : j < (UL n l d r p s ks k os m t).length) :
    ∃ i : Nat, el (UL n l d r p s ks k os m t) j = i ∧ i < m ∧ el (OL n l d r p s ks k os m t) j = el os i := by
  have hm := el_mem _ j h
  have hw : WO n l d r p s ks k os m t = true := by
    cases hq : WO n l d r p s ks k os m t with
    | true => rfl
    | false => unfold UL at h; rw [hq] at h; simp at h
  have e1 : UL n l d r p s ks k os m t = up ks k := by unfold UL; rw [hw]; rfl
  rw [e1] at hm
  obtain ⟨i, h1, h2, h3⟩ := up_mem hm
  refine ⟨i, by rw [e1]; exact h1, ?_, ?_⟩
  · unfold WO at hw
    simp only [Bool.and_eq_true, beq_iff_eq] at hw
    have a1 := hw.2.1.1
    have a2 := hw.2.2.1.1
    omega
  · have e2 : el (OL n l d r p s ks k os m t) j = el os (el (UL n l d r p s ks k os m t) j).toNat := by
      unfold OL el List.getD
      rw [List.getElem?_map, List.getElem?_eq_getElem h]
      rfl
    rw [e2, e1, h1]
    rfl

/-- The offs of those that are up, whatever world it is. -/
def OB (ks : List Int) (k : Nat) (os : List Int) : List Int := (up ks k).map fun x => el os x.toNat
theorem ob_len (ks : List Int) (k : Nat) (os : List Int) : (OB ks k os).length = (up ks k).length := by unfold OB; simp
theorem ob_at {ks : List Int} {k : Nat} {os : List Int} {j : Nat} (h : j < (up ks k).length) :
    ∃ i : Nat, el (up ks k) j = i ∧ i < k ∧ el (OB ks k os) j = el os i := by
  have hm := el_mem _ j h
  obtain ⟨i, h1, h2, h3⟩ := up_mem hm
  refine ⟨i, h1, h2, ?_⟩
  have e2 : el (OB ks k os) j = el os (el (up ks k) j).toNat := by
    unfold OB el List.getD
    rw [List.getElem?_map, List.getElem?_eq_getElem h]
    rfl
  rw [e2, h1]
  rfl
theorem ol_b {n l d r p s : Int} {ks : List Int} {k : Nat} {os : List Int} {m : Nat} {t : Int} (h : WO n l d r p s ks k os m t = true) : OL n l d r p s ks k os m t = OB ks k os := by
  unfold OL UL OB; rw [h]; rfl
theorem ol_0 {n l d r p s : Int} {ks : List Int} {k : Nat} {os : List Int} {m : Nat} {t : Int} (h : WO n l d r p s ks k os m t = false) : OL n l d r p s ks k os m t = [] := by
  unfold OL UL; rw [h]; rfl
theorem wo_km {n l d r p s : Int} {ks : List Int} {k : Nat} {os : List Int} {m : Nat} {t : Int} (hw : WO n l d r p s ks k os m t = true) : k = m := by
  unfold WO at hw
  simp only [Bool.and_eq_true, beq_iff_eq] at hw
  have a1 := hw.2.1.1
  have a2 := hw.2.2.1.1
  omega

set_option maxHeartbeats 4000000 in
theorem bareOffs (n l d r p s t : Int) (a b : Option Addr) (k ka m mb : Nat) (ks os : List Int) (w : World) (hr : Row w w.heap.size a k ks) (hs : Row w w.heap.size b m os) (hk : k ≤ 1048576) (hkm : k ≤ m) :
    Calls Try.prog 58 #[wld n l d r p s (.slice a k ka) (.slice b m mb) t] w fun e w' => (∃ g, (∃ c, e = .returned (.slice (some ⟨g, 0, none⟩) (OB ks k os).length c)) ∧ Has w' w.heap.size g 0 (OB ks k os).length (OB ks k os)) ∧ Below w.heap.size w w' := by
  have hL : (up ks k).length ≤ 1048576 := by have := up_len ks k; omega
  have B1 := (Below.refl w.heap.size w).alloc (Nat.le_refl _) (.cells #[.int .i64 n, .int .i64 l, .int .i64 d, .int .i64 r, .int .i64 p, .int .i64 s, .slice a k ka, .slice b m mb, .int .i64 t] 31)
  have R1 := Room.new w (c9 n l d r p s (.slice a k ka) (.slice b m mb) t) 31
  have key := bareUp n l d r p s t a (.slice b m mb) k ka ks _ ((hr.later B1 (Nat.le_refl _)).more B1.size) hk
  rw [ob_len]
  have HA : Hid (∀ j, j < (up ks k).length → ∃ i : Nat, el (up ks k) j = i ∧ i < k ∧ el (OB ks k os) j = el os i) := fun j hj => ob_at hj
  have HL : Hid ((OB ks k os).length = (up ks k).length) := ob_len ks k os
  generalize up ks k = U at hL key HA HL ⊢
  generalize OB ks k os = O at HA HL ⊢
  generalize hLL : U.length = L at hL key HA HL ⊢
  have hmk := run_make_row' (P := Try.prog) 29 2 (.int .i64 0) 8 Try.underlying29 Ls.info rfl .i64 .i64 L (by omega) (by omega)
  obtain ⟨hz, hrow⟩ := hs
  go_enter Try.func58, Try.ntmps58
  go_wp2_with fail
  refine key.mono ?_
  rintro e w2 ⟨⟨gU, cU, rfl, oU⟩, b2⟩
  have B2 := B1.trans (b2.mono B1.size)
  have z2 := B2.size
  have R2 := R1.below b2
  have hgU := oU.lt
  have HU : Hid (Own w2 (w.heap.size + 1) gU L cU U) := by
    have q := oU
    simp at q
    exact q
  have HR : Hid (Room w2 w.heap.size (c9 n l d r p s (.slice a k ka) (.slice b m mb) t)) := R2
  clear oU R2 R1 B1 b2 key hr
  go_wp2_with fail
  go_loopw [14] (fun i wr => ∃ j : Nat, j ≤ L ∧ i = .int .i64 j ∧ wr.rowIs w2.heap.size 2 L (Ls.part O j) ∧ Below w2.heap.size w2 wr) (fun i _ => L - (intOf i).toNat)
  case atStart =>
    exact ⟨0, Nat.zero_le _, rfl, (World.rowIs_made w2 _ L _).congr (fun i _ => by simp [Ls.part]), (Below.refl _ _).alloc (Nat.le_refl _) _⟩
  case round =>
    obtain ⟨j, hj, rfl, hown, hb⟩ := hrel
    have hlw := hown.lt
    by_cases hlt : j < L
    · have hi : (j : Int) < L := by omega
      obtain ⟨i, e1, e2, e3⟩ := HA.out j hlt
      have hcU := (HU.out.cell j hlt).1
      rw [← hb.cell (p := ⟨gU, j, none⟩) hgU, e1] at hcU
      have c7 := HR.out.cell 7 rfl
      rw [← hb.cell (p := ⟨w.heap.size, 7, none⟩) (HR.out.lt (by simp))] at c7
      have hi2 : (i : Int) < m := by omega
      rcases hrow with hrow | ⟨g, off, rfl, hB, hc⟩
      · omega
      have hc1 := hc i (by omega)
      rw [← B2.cell (p := ⟨g, off + i, none⟩) hB, ← hb.cell (p := ⟨g, off + i, none⟩) (by simp; omega)] at hc1
      have hc2 := hown.cell hlt
      have hf2 := hown.frozen j
      have hne : g ≠ w2.heap.size := by omega
      have hs1 := Ls.row_step hown
      rw [e3] at hs1
      have hb1 := hb.setCell (p := ⟨w2.heap.size, j, none⟩) (Nat.le_refl _) (.int .i64 (el os i))
      clear e1 e3
      go_wp2
      go_roundw
      case rel => exact ⟨j + 1, by omega, by go_num, hs1, hb1⟩
      case measure => simp [intOf]; omega
    · have hi : ¬ (j : Int) < L := by omega
      have e : j = L := by omega
      subst e
      go_wp2
      go_ret
      exact ⟨⟨_, ⟨_, rfl⟩, Ow.has_new HL.out z2 hown⟩, B2.trans (hb.mono z2)⟩

set_option maxHeartbeats 2000000 in
theorem i_OffsOf (n l d r p s t : Int) (a b : Option Addr) (k ka m mb : Nat) (ks os : List Int) (w : World) (hr : Row w w.heap.size a k ks) (hs : Row w w.heap.size b m os) (hk : k ≤ 1048576) (hm : m ≤ 1048576) :
    Calls Try.prog 30 #[wld n l d r p s (.slice a k ka) (.slice b m mb) t] w fun e w' => (∃ g, (∃ c, e = .returned (.slice (some ⟨g, 0, none⟩) (OL n l d r p s ks k os m t).length c)) ∧ Has w' w.heap.size g 0 (OL n l d r p s ks k os m t).length (OL n l d r p s ks k os m t)) ∧ Below w.heap.size w w' := by
  have B1 := (Below.refl w.heap.size w).alloc (Nat.le_refl _) (.cells #[.int .i64 n, .int .i64 l, .int .i64 d, .int .i64 r, .int .i64 p, .int .i64 s, .slice a k ka, .slice b m mb, .int .i64 t] 31)
  have R1 := Room.new w (c9 n l d r p s (.slice a k ka) (.slice b m mb) t) 31
  cases hq : WO n l d r p s ks k os m t with
  | false =>
    rw [ol_0 hq]
    go_enter Try.func30, Try.ntmps30
    go_wp2_with fail
    refine (i_WorldOk n l d r p s t a b k ka m mb ks os _ ((hr.later B1 (Nat.le_refl _)).more B1.size) ((hs.later B1 (Nat.le_refl _)).more B1.size) hk hm).mono ?_
    rintro e w2 ⟨rfl, bb⟩
    rw [hq]
    have b2 := B1.trans (bb.mono B1.size)
    have z2 := b2.size
    go_wp2
    go_ret
    exact ⟨⟨_, ⟨_, rfl⟩, (Ow.own_made w2 w.heap.size w2.heap.size rfl z2).has⟩, b2.alloc z2 _⟩
  | true =>
    have hkm : k ≤ m := by rw [wo_km hq]; exact Nat.le_refl _
    rw [ol_b hq]
    go_enter Try.func30, Try.ntmps30
    go_wp2_with fail
    refine (i_WorldOk n l d r p s t a b k ka m mb ks os _ ((hr.later B1 (Nat.le_refl _)).more B1.size) ((hs.later B1 (Nat.le_refl _)).more B1.size) hk hm).mono ?_
    rintro e w2 ⟨rfl, bb⟩
    rw [hq]
    have b2 := B1.trans (bb.mono B1.size)
    have z2 := b2.size
    have R2 := R1.below bb
    have c0 := R2.cell 0 rfl
    have c1 := R2.cell 1 rfl
    have c2 := R2.cell 2 rfl
    have c3 := R2.cell 3 rfl
    have c4 := R2.cell 4 rfl
    have c5 := R2.cell 5 rfl
    have c6 := R2.cell 6 rfl
    have c7 := R2.cell 7 rfl
    have c8 := R2.cell 8 rfl
    go_wp2_with fail
    refine (bareOffs n l d r p s t a b k ka m mb ks os _ ((hr.later b2 (Nat.le_refl _)).more b2.size) ((hs.later b2 (Nat.le_refl _)).more b2.size) hk hkm).mono ?_
    rintro e w3 ⟨⟨g, ⟨c, rfl⟩, ho⟩, b3⟩
    go_wp2
    go_ret
    exact ⟨⟨g, ⟨c, rfl⟩, ho.mono z2⟩, b2.trans (b3.mono z2)⟩

set_option maxHeartbeats 4000000 in
theorem s_OffsOf (n l d r p s t : Int) (a b : Option Addr) (k ka m mb : Nat) (ks os : List Int) (w : World) (hr : Row w w.heap.size a k ks) (hs : Row w w.heap.size b m os) (hk : k ≤ 1048576) (hm : m ≤ 1048576) :
    Calls Try.prog 42 #[wld n l d r p s (.slice a k ka) (.slice b m mb) t] w fun e w' => (∃ g, (∃ c, e = .returned (.slice (some ⟨g, 0, none⟩) (OL n l d r p s ks k os m t).length c)) ∧ Has w' w.heap.size g 0 (OL n l d r p s ks k os m t).length (OL n l d r p s ks k os m t)) ∧ Below w.heap.size w w' := by
  obtain ⟨i0, hi0, hz0, hz1, hz2⟩ := info_parts Ls.info
  have hL := smallU n l d r p s ks k os m t hk
  have B1 := ((Below.refl w.heap.size w).alloc (Nat.le_refl _) (.cells #[.int .i64 n, .int .i64 l, .int .i64 d, .int .i64 r, .int .i64 p, .int .i64 s, .slice a k ka, .slice b m mb, .int .i64 t] 31)).alloc (by simp) (.cells #[] 2)
  have R1 := (Room.new w (c9 n l d r p s (.slice a k ka) (.slice b m mb) t) 31).alloc (.cells #[] 2)
  have O1 : Hid (Own ((w.alloc (.cells #[.int .i64 n, .int .i64 l, .int .i64 d, .int .i64 r, .int .i64 p, .int .i64 s, .slice a k ka, .slice b m mb, .int .i64 t] 31)).alloc (.cells #[] 2)) w.heap.size (w.heap.size + 1) 0 0 []) := Ow.own_made _ _ _ (by simp) (by simp)
  have key := s_UpIn n l d r p s t a b k ka m mb ks os _ ((hr.later B1 (Nat.le_refl _)).more B1.size) ((hs.later B1 (Nat.le_refl _)).more B1.size) hk hm
  rw [ol_len]
  have HA : Hid (∀ j, j < (UL n l d r p s ks k os m t).length → ∃ i : Nat, el (UL n l d r p s ks k os m t) j = i ∧ i < m ∧ el (OL n l d r p s ks k os m t) j = el os i) := fun j hj => ul_at hj
  have HL : Hid ((OL n l d r p s ks k os m t).length = (UL n l d r p s ks k os m t).length) := ol_len n l d r p s ks k os m t
  generalize UL n l d r p s ks k os m t = U at hL key HA HL ⊢
  generalize OL n l d r p s ks k os m t = O at HA HL ⊢
  generalize hLL : U.length = L at hL key HA HL ⊢
  obtain ⟨hz, hrow⟩ := hs
  go_enter Try.func42, Try.ntmps42
  go_wp2_with fail
  refine key.mono ?_
  rintro e w2 ⟨⟨gU, cU, rfl, oU⟩, b2⟩
  have B2 := B1.trans (b2.mono B1.size)
  have z2 := B2.size
  have hgU := oU.lt
  have HU : Hid (Own w2 (w.heap.size + 1 + 1) gU L cU U) := by
    have q := oU
    simp at q
    exact q
  have hgU2 := HU.out.data.2.1
  have HR : Hid (Room w2 w.heap.size (c9 n l d r p s (.slice a k ka) (.slice b m mb) t)) := R1.below b2
  have HO2 : Hid (Own w2 w.heap.size (w.heap.size + 1) 0 0 []) := O1.out.later b2 (by simp)
  clear oU R1 B1 b2 key hr O1
  go_wp2_with fail
  go_loopw [3, 5] (fun v q wr => ∃ (j g c : Nat), j ≤ L ∧ q = .int .i64 (j : Int) ∧ v = .slice (some ⟨g, 0, none⟩) j c ∧ Hid (Own wr w.heap.size g j c (O.take j)) ∧ Hid (Own wr (w.heap.size + 1 + 1) gU L cU U) ∧ Hid (Room wr w.heap.size (c9 n l d r p s (.slice a k ka) (.slice b m mb) t)) ∧ w.heap.size < g ∧ g ≠ gU ∧ Below w.heap.size w wr) (fun _ q _ => L - (intOf q).toNat)
  case atStart => exact ⟨0, _, _, Nat.zero_le _, rfl, rfl, HO2.out, HU.out, HR.out, by omega, by omega, B2⟩
  case round =>
    obtain ⟨j, g, c, hj, rfl, rfl, HO, HU, HR, hg1, hg2, hb⟩ := hrel
    have hsz := hb.size
    have hgUl := HU.out.lt
    by_cases hlt : j < L
    · have hi : (j : Int) < L := by omega
      obtain ⟨i, e1, e2, e3⟩ := HA.out j hlt
      have hcU := (HU.out.cell j hlt).1
      rw [e1] at hcU
      have c7 := HR.out.cell 7 rfl
      have hi2 : (i : Int) < m := by omega
      rcases hrow with hrow | ⟨gO, off, rfl, hB, hc⟩
      · omega
      have hc1 := hc i e2
      rw [← hb.cell (p := ⟨gO, off + i, none⟩) hB] at hc1
      have E : Hid (O.take (j + 1) = O.take j ++ [el os i]) := by unfold Hid; rw [Ow.take_el O j (by have := HL.out; omega), e3]
      clear e1 e3
      go_wp2_with fail
      go_region_law (refine Ow.step_own_at rfl (.tmp 15) (.tmp 24) 29 rfl w.heap.size 2 i0 (.int .i64 0) 1 8 Try.underlying29 hi0 hz0 hz1 hz2 rfl (by decide) _ _ _ rfl (World.ownsRow.alloc (w := wr.drew) HO.out _) ⟨wr.heap.size, 0, none⟩ 1 1 (ints [el os i]) rfl rfl (Ow.one_new wr.drew (el os i) _ _ rfl) (Ow.one _) (by unfold maxLen; omega) (by omega) (by simp; omega) ?_; intro v2 w2 hx2 hg3 hn2 ha2)
      all_goals
        obtain ⟨g2, c2, rfl, ho2, hat⟩ := Ow.more_at (W := wr.drew) (t := g) hx2 (Ow.no_nil hn2 rfl) ha2
        replace hg3 : World.grownBy _ w2 (some g) := hg3
        have HU2 : Hid (Own w2 (w.heap.size + 1 + 1) gU L cU U) := Ow.Own.kept (W := wr.drew) HU.out hg3 (by omega)
        have HR2 : Hid (Room w2 w.heap.size (c9 n l d r p s (.slice a k ka) (.slice (some ⟨gO, off, none⟩) m mb) t)) := (HR.out.drew.alloc _).other hg3 (by omega)
        have hb2 : Below w.heap.size w w2 := (hb.drew.alloc hsz _).grown hg3 (by simp; omega) (by intro j hj; cases hj; omega)
        have hd : wr.drew.heap.size = wr.heap.size := rfl
        rw [hd] at hat
        clear hx2 hg3 hn2 ha2 HO HU HR
        have hg4 : w.heap.size < g2 := by rcases hat with hat | hat <;> omega
        have hg5 : g2 ≠ gU := by rcases hat with hat | hat <;> omega
        clear hat
        go_wp2_with fail
        go_roundw
        case rel => exact ⟨j + 1, g2, c2, by omega, by go_num, rfl, by rw [E.out]; exact ho2, HU2, HR2, hg4, hg5, hb2⟩
        case measure => simp [intOf]; omega
    · have hi : ¬ (j : Int) < L := by omega
      have e : j = L := by omega
      subst e
      have HF : Hid (Has wr w.heap.size g 0 j O) := by
        have q := HO.out.has
        rw [List.take_of_length_le (by have := HL.out; omega)] at q
        exact q
      go_wp2
      go_ret
      exact ⟨⟨_, ⟨_, rfl⟩, HF.out⟩, hb⟩

end Go.Proofs.Ytloicicgcdfgnaa.Wl
