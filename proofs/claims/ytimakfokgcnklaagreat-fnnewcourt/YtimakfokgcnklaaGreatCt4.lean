/-
  What owns its memory, behind steps; a list copied; the peers of a new court.
-/
import Derived.Test.YtimakfokgcnklaaGreatCt3
import Derived.Test.YtimakfokgcnklaaGreatDg
import Derived.Deep.Cut
namespace Go.Proofs.YtimakfokgcnklaaGreat.Ct
open Go.ChangeShapes Go.WideShapes Go.ChangeAt Go.RowKit
open Ls (el Row)
open Ow (Has Own ints)
open Rm (Room)
open Rd (Flags)
open Sp (LK retb reti)
open Sl (KO sl lk_yes)
open Dr (Step)
set_option linter.unusedVariables false
set_option linter.unusedSimpArgs false

theorem own_keep {w w' : World} {B s n : Nat} {e : TypeId} {v : Value} {xs : List Value} (h : w.ownsRow B e s v n xs) (hb : ∀ g, v.ownBlock = some g → w'.heap[g]? = w.heap[g]?) : w'.ownsRow B e s v n xs := by
  obtain ⟨h1, h2⟩ := h
  refine ⟨h1, ?_⟩
  rcases h2 with h2 | ⟨g, cap, cur, rfl, hB, hg, rest⟩
  · exact .inl h2
  · exact .inr ⟨g, cap, cur, rfl, hB, by rw [hb g rfl]; exact hg, rest⟩
theorem own_lt {w : World} {B s n g : Nat} {e : TypeId} {v : Value} {xs : List Value} (h : w.ownsRow B e s v n xs) (hv : v.ownBlock = some g) : B ≤ g ∧ g < w.heap.size := by
  rcases h.2 with ⟨rfl, _⟩ | ⟨g', cap, cur, rfl, hB, hg, rest⟩
  · cases hv
  · cases hv
    exact ⟨hB, (Array.getElem?_eq_some_iff.1 hg).1⟩
theorem own_below {w w' : World} {B s n : Nat} {e : TypeId} {v : Value} {xs : List Value} (h : w.ownsRow B e s v n xs) (b : Below w.heap.size w w') : w'.ownsRow B e s v n xs :=
  own_keep h fun g hg => b.block g (own_lt h hg).2
theorem own_stp {w w' : World} {B s n p : Nat} {e : TypeId} {v : Value} {xs : List Value} (h : w.ownsRow B e s v n xs) (b : Step p w w') (hp : p < B) : w'.ownsRow B e s v n xs :=
  own_keep h fun g hg => b.block g (own_lt h hg).2 (by have := (own_lt h hg).1; omega)
theorem own_low {w : World} {B B' s n : Nat} {e : TypeId} {v : Value} {xs : List Value} (h : w.ownsRow B e s v n xs) (hB : B' ≤ B) : w.ownsRow B' e s v n xs := by
  obtain ⟨h1, h2⟩ := h
  refine ⟨h1, ?_⟩
  rcases h2 with h2 | ⟨g, cap, cur, rfl, hB2, rest⟩
  · exact .inl h2
  · exact .inr ⟨g, cap, cur, rfl, by omega, rest⟩
/-- The cells of a slice that is owned. -/
theorem own_cell {w : World} {B s n g c : Nat} {e : TypeId} {xs : List Value} (h : w.ownsRow B e s (.slice (some ⟨g, 0, none⟩) n c) n xs) (k : Nat) (u : Value) (hu : xs[k]? = some u) : w.cell? ⟨g, k, none⟩ = some u ∧ w.frozen? ⟨g, k, none⟩ = false := by
  rcases h.2 with ⟨h2, _⟩ | ⟨g', cap', cur, e', hB, hb, h3, h4, h5, h6⟩
  · cases h2
  · cases e'
    refine ⟨?_, by simp [World.frozen?, hb]⟩
    rw [← h6] at hu
    rw [List.getElem?_take] at hu
    split at hu
    · simp only [World.cell?, hb]
      simp only [Option.isSome_none, Bool.false_eq_true, if_false]
      rw [← Array.getElem?_toList, hu]
    · cases hu
def bools (bs : List Bool) : List Value := bs.map Value.bool
theorem bools_len (bs : List Bool) : (bools bs).length = bs.length := by simp [bools]
/-- The slice at block g, which is no older than B, holds bs. -/
abbrev OwnB (w : World) (B g n cap : Nat) (bs : List Bool) : Prop := w.ownsRow B 4 1 (.slice (some ⟨g, 0, none⟩) n cap) n (bools bs)
theorem OwnB.flags {w : World} {B g n cap : Nat} {bs : List Bool} (h : OwnB w B g n cap bs) : Flags w w.heap.size (some ⟨g, 0, none⟩) n bs := by
  have hl : bs.length = n := by have := h.1; rw [bools_len] at this; omega
  refine ⟨hl, .inr ⟨g, 0, rfl, (own_lt h rfl).2, fun k hk => ?_⟩⟩
  rw [Nat.zero_add]
  exact (own_cell h k _ (by simp [bools, List.getD, hl, hk])).1
theorem ownb_of {w : World} {B n : Nat} {v : Value} {bs : List Bool} (h : w.ownsRow B 4 1 v n (bools bs)) (hv : v ≠ .slice none 0 0) : ∃ g cap, v = .slice (some ⟨g, 0, none⟩) n cap ∧ OwnB w B g n cap bs := by
  rcases h.2 with ⟨h2, _⟩ | ⟨g', cap', cur, e, rest⟩
  · exact absurd h2 hv
  · exact ⟨g', cap', e, by rw [e] at h; exact h⟩
theorem newsb {w : World} {b off n : Nat} {bs : List Bool} (hz : bs.length = n) (h : ∀ k, k < n → w.cell? ⟨b, off + k, none⟩ = some (.bool (bs.getD k false))) :
    ∀ j u, (bools bs)[j]? = some u → w.cell? ((⟨b, off, none⟩ : Addr).add j) = some u := by
  intro j u hu
  rw [Ow.addr_add]
  have hj : j < bs.length := by
    have := (List.getElem?_eq_some_iff.1 hu).1
    rw [bools_len] at this
    exact this
  rw [h j (by omega), ← hu]
  simp [bools, List.getD, hj]
theorem oneb (bs : List Bool) : ∀ u ∈ bools bs, u.oneCell' = true := by
  intro u hu
  simp only [bools, List.mem_map] at hu
  obtain ⟨b, _, rfl⟩ := hu
  rfl
theorem info_bool : (Tryz.prog.info? 4).map (fun i => (i.zero, i.size, i.bytes)) = some (some (.bool false), 1, 1) := by kernel_rfl
theorem info_peer : (Tryz.prog.info? 44).map (fun i => (i.zero, i.size, i.bytes)) = some (some (.agg #[.int .i64 0, .int .i64 0, .bool false, .slice none 0 0]), 4, 48) := by kernel_rfl

set_option maxHeartbeats 1000000 in
theorem l1Copy (b off n cap : Nat) (zs : List Int) (w : World) (hz : zs.length = n) (hc : ∀ k, k < n → w.cell? ⟨b, off + k, none⟩ = some (.int .i64 (el zs k))) (hn : n ≤ 1048576) (hb : b < w.heap.size) :
    Calls Tryz.prog 46 #[.slice (some ⟨b, off, none⟩) n cap] w fun e w' => (∃ g c, e = .returned (.slice (some ⟨g, 0, none⟩) n c) ∧ Own w' w.heap.size g n c zs) ∧ Below w.heap.size w w' := by
  obtain ⟨i0, hi, hz0, hz1, hz2⟩ := info_parts Ls.info
  have hc' : ∀ o k, k < n → (w.alloc o).cell? ⟨b, off + k, none⟩ = some (.int .i64 (el zs k)) := fun o k hk => by
    rw [World.cell?_alloc_lt _ _ _ (by simp; omega)]; exact hc k hk
  have HN := fun o => Ow.news hz (hc' o)
  clear hc hc'
  go_enter Tryz.func46, Tryz.ntmps46
  go_wp2_with (at_builtin; refine wpList_append_own _ rfl _ _ 26 rfl w.heap.size 2 i0 (.int .i64 0) 1 8 Tryz.underlying26 hi hz0 hz1 hz2 rfl (by decide) _ _ _ rfl (World.ownsRow_made w #[] 0 (Nat.le_refl _) (by unfold maxLen; omega) rfl) ⟨b, off, none⟩ n cap (ints zs) rfl (by rw [Ow.ints_len]; omega) (HN _) (Ow.one _) (by unfold maxLen; omega) (by omega) (by simp) ?_; intro v1 w1 ho hg hnil)
  have hv : v1 ≠ .slice none 0 0 := fun e => by have := (hnil.1 e).1; cases this
  rw [Nat.zero_add, List.nil_append] at ho
  obtain ⟨g, c, rfl, ho2⟩ := Ow.own_of (zs := zs) ho rfl hv
  clear ho
  have hB : Below w.heap.size w w1 := ((Below.refl _ _).alloc (Nat.le_refl _) _).grown hg (by simp) (by intro k hk; have e : w.heap.size = k := Option.some.inj hk; omega)
  clear hg hnil hv HN
  go_wp2_with fail
  go_ret
  exact ⟨⟨g, c, rfl, ho2⟩, hB⟩

/-- The cells of new peers with these offs. -/
def pcs : List Int → List Value
  | [] => []
  | x :: os => .int .i64 x :: .int .i64 1 :: .bool false :: .slice none 0 0 :: pcs os
theorem pcs_len (os : List Int) : (pcs os).length = os.length * 4 := by
  induction os with
  | nil => rfl
  | cons x os ih => simp [pcs, ih]; omega
theorem pcs_app (os : List Int) (x : Int) : pcs (os ++ [x]) = pcs os ++ [.int .i64 x, .int .i64 1, .bool false, .slice none 0 0] := by
  induction os with
  | nil => rfl
  | cons y os ih => simp [pcs, ih]
theorem pcs_at (os : List Int) (k : Nat) (hk : k < os.length) : (pcs os)[k * 4]? = some (.int .i64 (el os k)) ∧ (pcs os)[k * 4 + 1]? = some (.int .i64 1) ∧ (pcs os)[k * 4 + 2]? = some (.bool false) ∧ (pcs os)[k * 4 + 3]? = some (.slice none 0 0) := by
  induction os generalizing k with
  | nil => simp at hk
  | cons x os ih =>
    cases k with
    | zero => exact ⟨rfl, rfl, rfl, rfl⟩
    | succ k =>
      have e : (k + 1) * 4 = k * 4 + 4 := by omega
      have q := ih k (by simpa using hk)
      rw [e]
      exact q
theorem one_peer (w : World) (x : Int) : ∀ j u, ([.int .i64 x, .int .i64 1, .bool false, .slice none 0 0] : List Value)[j]? = some u → (w.alloc (.cells #[.int .i64 x, .int .i64 1, .bool false, .slice none 0 0] 44)).cell? ((⟨w.heap.size, 0, none⟩ : Addr).add j) = some u := by
  intro j u hj
  rw [Ow.addr_add, Nat.zero_add]
  match j, hj with
  | 0, hj => simp at hj; subst hj; simp
  | 1, hj => simp at hj; subst hj; simp
  | 2, hj => simp at hj; subst hj; simp
  | 3, hj => simp at hj; subst hj; simp
  | j + 4, hj => simp at hj
/-- v owns new peers. -/
abbrev OwnP (w : World) (B : Nat) (v : Value) (n : Nat) (os : List Int) : Prop := w.ownsRow B 44 4 v n (pcs os)
theorem OwnP.peers {w : World} {B n : Nat} {v : Value} {os : List Int} (h : OwnP w B v n os) : ∃ a c, v = .slice a n c ∧ Peers w w.heap.size a n os := by
  have hl : os.length = n := by have := h.1; rw [pcs_len] at this; omega
  have h0 := h
  rcases h.2 with ⟨rfl, rfl⟩ | ⟨g, cap, cur, rfl, hB, hb, rest⟩
  · exact ⟨none, 0, rfl, hl, .inl rfl⟩
  · refine ⟨_, cap, rfl, hl, .inr ⟨g, 0, rfl, (Array.getElem?_eq_some_iff.1 hb).1, fun k hk => ?_⟩⟩
    obtain ⟨q0, q1, q2, q3⟩ := pcs_at os k (by omega)
    rw [Nat.zero_add]
    exact ⟨(own_cell h0 _ _ q0).1, (own_cell h0 _ _ q1).1, (own_cell h0 _ _ q2).1, (own_cell h0 _ _ q3).1⟩

end Go.Proofs.YtimakfokgcnklaaGreat.Ct
