/-
  What a slice that a call owns is behind steps; slices of seals that a call owns.
-/
import Derived.Test.YtimakfokgcnklaaGreatSb2
import Derived.Test.YtimakfokgcnklaaGreatMp
import Derived.Test.YtimakfokgcnklaaGreatDg
import Derived.Maps.AppendAt
namespace Go.Proofs.YtimakfokgcnklaaGreat.Og
open Go.ChangeShapes Go.WideShapes Go.ChangeAt Go.RowKit
open Dr (Step)
open Rm (Room)
open Sb (S3 es fl fl_len fl_at Row3 SHas At)
set_option linter.unusedVariables false
set_option linter.unusedSimpArgs false

theorem own_keep {w w' : World} {B s n : Nat} {e : TypeId} {v : Value} {xs : List Value} (h : w.ownsRow B e s v n xs) (hb : ∀ g, v.ownBlock = some g → w'.heap[g]? = w.heap[g]?) : w'.ownsRow B e s v n xs := by
  obtain ⟨h1, h2⟩ := h
  refine ⟨h1, ?_⟩
  rcases h2 with h2 | ⟨g, cap, cur, rfl, hB, hg, rest⟩
  · exact .inl h2
  · exact .inr ⟨g, cap, cur, rfl, hB, by rw [hb g rfl]; exact hg, rest⟩
theorem own_lt {w : World} {B s n g : Nat} {e : TypeId} {v : Value} {xs : List Value} (h : w.ownsRow B e s v n xs) (hv : v.ownBlock = some g) : B ≤ g ∧ g < w.heap.size := by
  rcases h.2 with ⟨rfl, _⟩ | ⟨g', cap, cur, rfl, hB, hg, rest⟩
  · cases hv
  · cases hv
    exact ⟨hB, (Array.getElem?_eq_some_iff.1 hg).1⟩
theorem own_below {w w' : World} {B s n : Nat} {e : TypeId} {v : Value} {xs : List Value} (h : w.ownsRow B e s v n xs) (b : Below w.heap.size w w') : w'.ownsRow B e s v n xs :=
  own_keep h fun g hg => b.block g (own_lt h hg).2
theorem own_stp {w w' : World} {B s n p : Nat} {e : TypeId} {v : Value} {xs : List Value} (h : w.ownsRow B e s v n xs) (b : Step p w w') (hp : p < B) : w'.ownsRow B e s v n xs :=
  own_keep h fun g hg => b.block g (own_lt h hg).2 (by have := (own_lt h hg).1; omega)
theorem own_low {w : World} {B B' s n : Nat} {e : TypeId} {v : Value} {xs : List Value} (h : w.ownsRow B e s v n xs) (hB : B' ≤ B) : w.ownsRow B' e s v n xs := by
  obtain ⟨h1, h2⟩ := h
  refine ⟨h1, ?_⟩
  rcases h2 with h2 | ⟨g, cap, cur, rfl, hB2, rest⟩
  · exact .inl h2
  · exact .inr ⟨g, cap, cur, rfl, by omega, rest⟩
/-- The cells of a slice that is owned. -/
theorem own_cell {w : World} {B s n g c : Nat} {e : TypeId} {xs : List Value} (h : w.ownsRow B e s (.slice (some ⟨g, 0, none⟩) n c) n xs) (k : Nat) (u : Value) (hu : xs[k]? = some u) : w.cell? ⟨g, k, none⟩ = some u ∧ w.frozen? ⟨g, k, none⟩ = false := by
  rcases h.2 with ⟨h2, _⟩ | ⟨g', cap', cur, e', hB, hb, h3, h4, h5, h6⟩
  · cases h2
  · cases e'
    refine ⟨?_, by simp [World.frozen?, hb]⟩
    rw [← h6] at hu
    rw [List.getElem?_take] at hu
    split at hu
    · simp only [World.cell?, hb]
      simp only [Option.isSome_none, Bool.false_eq_true, if_false]
      rw [← Array.getElem?_toList, hu]
    · cases hu

theorem fl_app (a b : List S3) : fl (a ++ b) = fl a ++ fl b := by
  induction a with
  | nil => rfl
  | cons x a ih => simp [fl, ih]
theorem fl_one (ss : List S3) : ∀ u ∈ fl ss, u.oneCell' = true := by
  induction ss with
  | nil => intro u hu; cases hu
  | cons s ss ih =>
    intro u hu
    simp only [fl, List.mem_cons] at hu
    rcases hu with rfl | rfl | rfl | hu
    · rfl
    · rfl
    · rfl
    · exact ih u hu

/-- The slice at block g, which is no older than B, holds ss. -/
abbrev OwnS (w : World) (B g n cap : Nat) (ss : List S3) : Prop := w.ownsRow B 125 3 (.slice (some ⟨g, 0, none⟩) n cap) n (fl ss)
theorem OwnS.len {w : World} {B g n cap : Nat} {ss : List S3} (h : OwnS w B g n cap ss) : ss.length = n := by have := h.1; rw [fl_len] at this; omega
theorem OwnS.lt {w : World} {B g n cap : Nat} {ss : List S3} (h : OwnS w B g n cap ss) : B ≤ g ∧ g < w.heap.size := own_lt h rfl
theorem OwnS.has {w : World} {B g n cap : Nat} {ss : List S3} (h : OwnS w B g n cap ss) : SHas w B g 0 n ss :=
  ⟨h.len, h.lt.1, h.lt.2, fun i v hv => by rw [Nat.zero_add]; exact own_cell h i v hv⟩
theorem OwnS.row {w : World} {B g n cap : Nat} {ss : List S3} (h : OwnS w B g n cap ss) : Row3 w w.heap.size (some ⟨g, 0, none⟩) n ss := h.has.row
theorem OwnS.cells {w : World} {B g n cap : Nat} {ss : List S3} (h : OwnS w B g n cap ss) (k : Nat) (hk : k < n) : w.cell? ⟨g, k * 3, none⟩ = some (.int .i64 (es ss k).1) ∧ w.cell? ⟨g, k * 3 + 1, none⟩ = some (.int .i64 (es ss k).2.1) ∧ w.cell? ⟨g, k * 3 + 2, none⟩ = some (.int .i64 (es ss k).2.2) := by
  obtain ⟨q0, q1, q2⟩ := fl_at ss k (by rw [h.len]; exact hk)
  exact ⟨(own_cell h _ _ q0).1, (own_cell h _ _ q1).1, (own_cell h _ _ q2).1⟩
theorem ownS_made (w : World) : OwnS (w.alloc (.cells #[] 125)) w.heap.size w.heap.size 0 0 [] := World.ownsRow_made w #[] 0 (Nat.le_refl _) (by unfold maxLen; omega) rfl
/-- A row that was appended to: no nil comes of it. -/
theorem ownS_of {w : World} {B n : Nat} {v : Value} {ss : List S3} (h : w.ownsRow B 125 3 v n (fl ss)) (hv : v ≠ .slice none 0 0) : ∃ g cap, v = .slice (some ⟨g, 0, none⟩) n cap ∧ OwnS w B g n cap ss := by
  rcases h.2 with ⟨h2, _⟩ | ⟨g', cap', cur, e, rest⟩
  · exact absurd h2 hv
  · exact ⟨g', cap', e, by rw [e] at h; exact h⟩
theorem moreS {W w2 : World} {B t k : Nat} {xs : List S3} {x : S3} {v2 : Value} {o : Obj} (h : w2.ownsRow B 125 3 v2 (k + 1) (fl xs ++ fl [x])) (hn : v2 ≠ .slice none 0 0)
    (hat : v2.ownBlock = some t ∨ v2.ownBlock = some (W.alloc o).heap.size) : ∃ t' c', v2 = .slice (some ⟨t', 0, none⟩) (k + 1) c' ∧ OwnS w2 B t' (k + 1) c' (xs ++ [x]) ∧ (t' = t ∨ t' = W.heap.size + 1) := by
  obtain ⟨t', c', e, ho⟩ := ownS_of (ss := xs ++ [x]) (by rw [fl_app]; exact h) hn
  refine ⟨t', c', e, ho, ?_⟩
  rw [e] at hat
  rcases hat with hat | hat
  · exact .inl (Option.some.inj hat)
  · exact .inr (by have := Option.some.inj hat; simpa using this)
/-- The one that is appended first lies in a block of its own. -/
theorem one_newS (w : World) (x : S3) (b : Nat) (hb : b = w.heap.size) : ∀ j u, (fl [x])[j]? = some u → (w.alloc (.cells #[.int .i64 x.1, .int .i64 x.2.1, .int .i64 x.2.2] 125)).cell? ((⟨b, 0, none⟩ : Addr).add j) = some u := by
  intro j u hj
  subst hb
  match j, hj with
  | 0, hj => rw [Ow.addr_add]; simp [fl] at hj; subst hj; simp
  | 1, hj => rw [Ow.addr_add]; simp [fl] at hj; subst hj; simp
  | 2, hj => rw [Ow.addr_add]; simp [fl] at hj; subst hj; simp
  | j + 3, hj => simp [fl] at hj
theorem infoS : (Tryz.prog.info? 125).map (fun i => (i.zero, i.size, i.bytes)) = some (some (.agg #[.int .i64 0, .int .i64 0, .int .i64 0]), 3, 24) := by kernel_rfl

end Go.Proofs.YtimakfokgcnklaaGreat.Og
