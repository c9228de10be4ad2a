/-
  What a new world is made of: impl.kindsOf, slices.Clone, spec.l1Copy, each into new memory.
-/
import Derived.Test.YtcgcmceobmpdiaaGreatUp
import Derived.Test.YtcgcmceobmpdiaaGreatBools
import Derived.Lib.SliceRun
namespace Go.Proofs.YtcgcmceobmpdiaaGreat.Wl
open Go.ChangeShapes Go.WideShapes Go.ChangeAt Go.RowKit
open Ls (el Row)
open Rm (Room)
open Ow (Has Own ints)
open Rd (Flags)
open Bo (eb HasB)
set_option linter.unusedVariables false
set_option linter.unusedSimpArgs false

/-- The kinds of those that lie, and of the others. -/
def KL (bs : List Bool) : List Int := bs.map fun b => if b then 2 else 0
theorem kl_len (bs : List Bool) : (KL bs).length = bs.length := by simp [KL]
theorem kl_el (bs : List Bool) (k : Nat) : el (KL bs) k = if eb bs k then 2 else 0 := by
  unfold el KL eb List.getD
  rw [List.getElem?_map]
  cases h : bs[k]? with
  | none => rfl
  | some b => rfl

theorem keep_part {w : World} {b n k : Nat} {zs : List Int} (h : w.rowIs b 2 n (Ls.part zs k)) (h0 : el zs k = 0) : w.rowIs b 2 n (Ls.part zs (k + 1)) :=
  h.congr fun i hi => by
    unfold Ls.part
    by_cases e : i = k
    · subst e; simp [h0]
    · by_cases h2 : i < k
      · rw [if_pos h2, if_pos (by omega)]
      · rw [if_neg h2, if_neg (by omega)]

set_option maxHeartbeats 1000000 in
theorem l1Copy (b off n cap : Nat) (zs : List Int) (w : World) (hz : zs.length = n) (hc : ∀ k, k < n → w.cell? ⟨b, off + k, none⟩ = some (.int .i64 (el zs k))) (hn : n ≤ 1048576) (hb : b < w.heap.size) :
    Calls Tryz.prog 39 #[.slice (some ⟨b, off, none⟩) n cap] w fun e w' => (∃ g c, e = .returned (.slice (some ⟨g, 0, none⟩) n c) ∧ Own w' w.heap.size g n c zs) ∧ Below w.heap.size w w' := by
  obtain ⟨i0, hi, hz0, hz1, hz2⟩ := info_parts Ls.info
  have hc' : ∀ o k, k < n → (w.alloc o).cell? ⟨b, off + k, none⟩ = some (.int .i64 (el zs k)) := fun o k hk => by
    rw [World.cell?_alloc_lt _ _ _ (by simp; omega)]; exact hc k hk
  have HN := fun o => Ow.news hz (hc' o)
  clear hc hc'
  go_enter Tryz.func39, Tryz.ntmps39
  go_wp2_with (at_builtin; refine wpList_append_own _ rfl _ _ 24 rfl w.heap.size 2 i0 (.int .i64 0) 1 8 Tryz.underlying24 hi hz0 hz1 hz2 rfl (by decide) _ _ _ rfl (World.ownsRow_made w #[] 0 (Nat.le_refl _) (by unfold maxLen; omega) rfl) ⟨b, off, none⟩ n cap (ints zs) rfl (by rw [Ow.ints_len]; omega) (HN _) (Ow.one _) (by unfold maxLen; omega) (by omega) (by simp) ?_; intro v1 w1 ho hg hnil)
  have hv : v1 ≠ .slice none 0 0 := fun e => by have := (hnil.1 e).1; cases this
  rw [Nat.zero_add, List.nil_append] at ho
  obtain ⟨g, c, rfl, ho2⟩ := Ow.own_of (zs := zs) ho rfl hv
  clear ho
  have hB : Below w.heap.size w w1 := ((Below.refl _ _).alloc (Nat.le_refl _) _).grown hg (by simp) (by intro k hk; have e : w.heap.size = k := Option.some.inj hk; omega)
  clear hg hnil hv HN
  go_wp2_with fail
  go_ret
  exact ⟨⟨g, c, rfl, ho2⟩, hB⟩

set_option maxHeartbeats 1000000 in
theorem clone (b off n cap : Nat) (zs : List Int) (w : World) (hz : zs.length = n) (hc : ∀ k, k < n → w.cell? ⟨b, off + k, none⟩ = some (.int .i64 (el zs k))) (hn : n ≤ 1048576) (hb : b < w.heap.size) :
    Calls Tryz.prog 50 #[.slice (some ⟨b, off, none⟩) n cap] w fun e w' => (∃ g c, e = .returned (.slice (some ⟨g, 0, none⟩) n c) ∧ Own w' w.heap.size g n c zs) ∧ Below w.heap.size w w' := by
  obtain ⟨i0, hi, hz0, hz1, hz2⟩ := info_parts Ls.info
  have hc' : ∀ o k, k < n → (w.alloc o).cell? ⟨b, off + k, none⟩ = some (.int .i64 (el zs k)) := fun o k hk => by
    rw [World.cell?_alloc_lt _ _ _ (by simp; omega)]; exact hc k hk
  have HN := fun o => Ow.news hz (hc' o)
  clear hc hc'
  have hnl := Lib.run_eql_slice_nil (P := Tryz.prog) w 24 2 (some ⟨b, off, none⟩) n cap 0 0 Tryz.underlying24
  go_enter Tryz.func50, Tryz.ntmps50
  go_wp2_with (at_builtin; refine wpList_append_own _ rfl _ _ 24 rfl w.heap.size 2 i0 (.int .i64 0) 1 8 Tryz.underlying24 hi hz0 hz1 hz2 rfl (by decide) _ _ _ rfl (World.ownsRow_made w #[] 0 (Nat.le_refl _) (by unfold maxLen; omega) rfl) ⟨b, off, none⟩ n cap (ints zs) rfl (by rw [Ow.ints_len]; omega) (HN _) (Ow.one _) (by unfold maxLen; omega) (by omega) (by simp) ?_; intro v1 w1 ho hg hnil)
  have hv : v1 ≠ .slice none 0 0 := fun e => by have := (hnil.1 e).1; cases this
  rw [Nat.zero_add, List.nil_append] at ho
  obtain ⟨g, c, rfl, ho2⟩ := Ow.own_of (zs := zs) ho rfl hv
  clear ho
  have hB : Below w.heap.size w w1 := ((Below.refl _ _).alloc (Nat.le_refl _) _).grown hg (by simp) (by intro k hk; have e : w.heap.size = k := Option.some.inj hk; omega)
  clear hg hnil hv HN
  go_wp2_with fail
  go_ret
  exact ⟨⟨g, c, rfl, ho2⟩, hB⟩

end Go.Proofs.YtcgcmceobmpdiaaGreat.Wl
