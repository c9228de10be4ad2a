/-
  Seals sorted: slices.SortFunc by its contract.
-/
import Derived.Test.YtimakfokgcnklaaGreatSo
import Derived.Test.YtimakfokgcnklaaGreatSrf
import Derived.Test.YtimakfokgcnklaaGreatMg1
namespace Go.Proofs.YtimakfokgcnklaaGreat.Mi
open Go.ChangeShapes Go.WideShapes Go.ChangeAt Go.RowKit
open Go.Sort (SWO PermIn SortedIn HoldsK Holds flatK grow)
open Sb (S3 es fl sl fl_len fl_at)
open Og (OwnS)
open Mg (AH c3)
set_option linter.unusedVariables false
set_option linter.unusedSimpArgs false

/-- The block of a slice of seals. -/
def Sh (w : World) (g cap : Nat) : Prop := ∃ cur, w.heap[g]? = some (.cells cur 125 (0, 0)) ∧ cur.size = cap * 3 ∧ cap ≤ maxLen
theorem own_sh {w : World} {B g n cap : Nat} {l : List S3} (h : OwnS w B g n cap l) : Sh w g cap ∧ n ≤ cap ∧ B ≤ g := by
  rcases h.2 with ⟨h2, _⟩ | ⟨g', cap', cur, e, hB, hb, h3, h4, h5, h6⟩
  · cases h2
  · cases e
    exact ⟨⟨cur, hb, h5, h4⟩, h3, hB⟩
theorem own_back {w : World} {B g n cap : Nat} {l : List S3} (hs : Sh w g cap) (hB : B ≤ g) (hl : l.length = n) (hn : n ≤ cap) (hc : ∀ i v, (fl l)[i]? = some v → w.cell? ⟨g, i, none⟩ = some v) : OwnS w B g n cap l := by
  obtain ⟨cur, hb, h5, h4⟩ := hs
  refine ⟨by rw [fl_len, hl], .inr ⟨g, cap, cur, rfl, hB, hb, hn, h4, h5, ?_⟩⟩
  apply List.ext_getElem?
  intro i
  have hfl : (fl l).length = n * 3 := by rw [fl_len, hl]
  rw [List.getElem?_take]
  split
  · rename_i hi
    have q := hc i _ (List.getElem?_eq_getElem (by omega))
    simp only [World.cell?, hb] at q
    simp only [Option.isSome_none, Bool.false_eq_true, if_false] at q
    rw [Array.getElem?_toList, q, List.getElem?_eq_getElem]
  · rename_i hi
    rw [List.getElem?_eq_none (by omega)]
theorem Sh.set {w : World} {g cap : Nat} (h : Sh w g cap) (p i : Nat) (v : Value) : Sh (w.setCell ⟨p, i, none⟩ v) g cap := by
  obtain ⟨cur, hb, h5, h4⟩ := h
  by_cases e : p = g
  · subst e
    refine ⟨cur.setIfInBounds i v, ?_, by simp [h5], h4⟩
    rw [Sort.setCell_eq]
    simp [Sort.mapBlock, Array.getElem?_modify, hb, Sort.onCells]
  · exact ⟨cur, by rw [Below.heap_setCell _ _ _ _ (by simp; omega)]; exact hb, h5, h4⟩
theorem Sh.block {w w1 : World} {g cap : Nat} (h : Sh w g cap) (e : w1.heap[g]? = w.heap[g]?) : Sh w1 g cap := by
  obtain ⟨cur, hb, h⟩ := h
  exact ⟨cur, by rw [e]; exact hb, h⟩

theorem Sh.sorted {w : World} {g cap : Nat} (h : Sh w g cap) (hg : g < w.heap.size) (n : Nat) (d : Array S3) (os : Array Obj) : Sh (sortWorldK c3 3 w g 0 n d os) g cap := by
  obtain ⟨cur, hb, h5, h4⟩ := h
  refine ⟨Sort.putCells id 0 (flatK c3 3 d) cur, ?_, by simp [Sort.putCells, h5], h4⟩
  unfold sortWorldK
  rw [Sort.heap_grow_old _ _ (by rw [Sort.size_putRowK]; exact hg)]
  show (w.heap.modify g (Sort.onCells (Sort.putCells id 0 (flatK c3 3 d))))[g]? = _
  rw [Array.getElem?_modify, if_pos rfl, hb]
  rfl
theorem below_sorted {w : World} {g B : Nat} (hB : B ≤ g) (hg : g < w.heap.size) (n : Nat) (d : Array S3) (os : Array Obj) : Below B w (sortWorldK c3 3 w g 0 n d os) := by
  refine ⟨rfl, rfl, rfl, size_sortWorldK_c c3 3 w g 0 n d os, fun k hk => ?_⟩
  unfold sortWorldK
  rw [Sort.heap_grow_old _ _ (by rw [Sort.size_putRowK]; exact (show k < w.heap.size by omega))]
  show (w.heap.modify g (Sort.onCells (Sort.putCells id 0 (flatK c3 3 d))))[k]? = _
  rw [Array.getElem?_modify, if_neg (by omega)]

theorem fl_three (l : List S3) (t : Nat) (h : t < l.length * 3) : (fl l)[t]? = some (c3 (es l (t / 3)))[t % 3]! := by
  obtain ⟨q0, q1, q2⟩ := fl_at l (t / 3) (by omega)
  have h3 : t % 3 < 3 := Nat.mod_lt _ (by decide)
  have e := Nat.div_add_mod t 3
  rcases (show t % 3 = 0 ∨ t % 3 = 1 ∨ t % 3 = 2 by omega) with h | h | h
  · rw [h]; have : t = t / 3 * 3 := by omega
    conv => lhs; rw [this]
    exact q0
  · rw [h]; have : t = t / 3 * 3 + 1 := by omega
    conv => lhs; rw [this]
    exact q1
  · rw [h]; have : t = t / 3 * 3 + 2 := by omega
    conv => lhs; rw [this]
    exact q2
theorem arr_es (l : List S3) (k : Nat) : l.toArray[k]! = es l k := by
  simp [es, List.getD, Array.getElem!_eq_getD, Array.getD]
  by_cases h : k < l.length
  · simp [h]
  · simp [h]; rfl
theorem holds_own {w : World} {B g n cap : Nat} {l : List S3} (h : OwnS w B g n cap l) : HoldsK c3 3 w g 0 l.toArray := by
  intro j hj
  have hj' : j < l.length * 3 := by simpa using hj
  rw [Sort.get_flatK _ _ _ _ (by simpa using hj'), arr_es, Nat.zero_add]
  exact Og.own_cell h j _ (fl_three l j hj')
theorem of_holds {w : World} {g : Nat} {l : List S3} (h : HoldsK c3 3 w g 0 l.toArray) (i : Nat) (v : Value) (hv : (fl l)[i]? = some v) : w.cell? ⟨g, i, none⟩ = some v := by
  have hi : i < l.length * 3 := by
    have := (List.getElem?_eq_some_iff.1 hv).1
    rw [fl_len] at this; exact this
  have q := (h i (by simpa using hi)).1
  rw [Sort.get_flatK _ _ _ _ (by simpa using hi), arr_es, Nat.zero_add] at q
  rw [fl_three l i hi] at hv
  rw [← hv]; exact q

instance (a b : S3) : Decidable (AH a b) := by unfold AH; infer_instance
theorem so_neg (x y : S3) : so x y < 0 ↔ AH x y := by
  unfold so cp AH
  by_cases h1 : x.1 < y.1
  · simp [h1]
  · by_cases h2 : y.1 < x.1
    · simp [h1, h2]; omega
    · have e : x.1 = y.1 := by omega
      by_cases h3 : x.2.1 < y.2.1
      · simp [e, h3]
      · by_cases h4 : y.2.1 < x.2.1
        · simp [e, h3, h4]
        · simp [e, h3, h4]
theorem so_lt (x y : S3) : ltOf so x y = decide (AH x y) := by
  unfold ltOf
  exact decide_eq_decide.2 (so_neg x y)
theorem swo : SWO (ltOf so) where
  irrefl x := by rw [so_lt]; exact decide_eq_false Mg.AH.irrefl
  trans x y z h1 h2 := by rw [so_lt] at *; exact decide_eq_true ((of_decide_eq_true h1).trans (of_decide_eq_true h2))
  ntrans x y z h1 h2 := by
    rw [so_lt] at *
    have q1 := of_decide_eq_false h1
    have q2 := of_decide_eq_false h2
    refine decide_eq_false ?_
    unfold AH at *
    omega

set_option maxHeartbeats 2000000 in
theorem sortSeals (g cap B : Nat) (l : List S3) (w : World) (h : OwnS w B g l.length cap l) (hn : l.length ≤ 4194304) :
    Calls Tryz.prog 122 #[.slice (some ⟨g, 0, none⟩) l.length cap, .func (.func 123) #[] #[]] w fun e w' => e = .returned (.tuple #[]) ∧ (∃ l', l'.Perm l ∧ l'.Pairwise (fun a b => ¬ AH b a) ∧ OwnS w' B g l.length cap l') ∧ Below B w w' := by
  have eg : ∀ args w, (callFunc 123 args).run Tryz.prog w = .ok (.enter 123 args) w := enters_of Tryz.func123 (by kernel_rfl) rfl
  have hc : CmpLays Tryz.prog 123 #[] c3 3 so g 0 l.toArray.size w := fun _ _ _ _ x y => sealOrder x y _
  obtain ⟨hsh, hcap, hBg⟩ := own_sh h
  have hcon := AnyQ.slices_SortFunc Sf.mSort 3 Tryz.isAgg125 Tryz.sizeOf125 c3 (fun _ => rfl) (fun x v hv => by simp [c3] at hv; rcases hv with rfl | rfl | rfl <;> rfl) so swo 123 #[] g 0 cap l.toArray w eg hc (holds_own h) h.lt.2 (by simp; omega)
  change Calls Tryz.prog 122 _ _ _ at hcon
  refine hcon.mono ?_
  rintro e w' ⟨rfl, d', n, os, ⟨hs, _, hp⟩, hsort, rfl⟩
  have hl : l.toArray.size = l.length := by simp
  have hs' : d'.toList.length = l.length := by simpa using hs
  refine ⟨rfl, ⟨d'.toList, ?_, ?_, ?_⟩, ?_⟩
  · rw [hl] at hp
    have e1 : d'.extract 0 l.length = d' := by rw [← hl, ← hs]; simp
    have e2 : l.toArray.extract 0 l.length = l.toArray := by rw [← hl]; simp
    rw [e1, e2] at hp
    exact hp
  · rw [List.pairwise_iff_getElem]
    intro i j hi hj hij
    have q := hsort i j (Nat.zero_le _) hij (by rw [hl, ← hs']; exact hj)
    rw [so_lt] at q
    have q2 := of_decide_eq_false q
    have ei : d'[i]! = d'.toList[i] := by simp at hi; simp [hi]
    have ej : d'[j]! = d'.toList[j] := by simp at hj; simp [hj]
    rw [ei, ej] at q2
    exact q2
  · refine own_back (hsh.sorted h.lt.2 n d' os) hBg hs' hcap fun i v hv => ?_
    have hH := holdsK_sortWorldK_c c3 3 w g 0 l.toArray d' n os (holds_own h) h.lt.2 hs
    have e : d' = d'.toList.toArray := by simp
    rw [e] at hH
    exact of_holds hH i v hv
  · exact below_sorted hBg h.lt.2 n d' os

end Go.Proofs.YtimakfokgcnklaaGreat.Mi
