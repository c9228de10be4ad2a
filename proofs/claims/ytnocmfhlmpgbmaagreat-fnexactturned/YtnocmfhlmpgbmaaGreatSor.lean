/-
  impl.inOrder and impl.Sorted: the sorted list, in new memory.
-/
import Derived.Test.YtnocmfhlmpgbmaaGreatOwn
import Derived.Test.YtnocmfhlmpgbmaaGreatSrt
import Derived.Sort.OwnSortedInts
namespace Go.Proofs.YtnocmfhlmpgbmaaGreat.Ow
open Go.ChangeShapes Go.WideShapes Go.ChangeAt Go.RowKit Go.Sort
open Ls (el Row)
set_option linter.unusedVariables false

theorem srt_len (zs : List Int) : (srt zs).length = zs.length := List.length_mergeSort zs

set_option maxHeartbeats 1000000 in
theorem inOrder (b off n cap : Nat) (zs : List Int) (w : World) (hz : zs.length = n) (hc : ∀ k, k < n → w.cell? ⟨b, off + k, none⟩ = some (.int .i64 (el zs k))) (hn : n ≤ 1048576) (hb : b < w.heap.size ∨ n = 0) :
    Calls Tryz.prog 103 #[.slice (some ⟨b, off, none⟩) n cap] w fun e w' => (∃ g c, e = .returned (.slice (some ⟨g, 0, none⟩) n c) ∧ Own w' w.heap.size g n c (srt zs)) ∧ Below w.heap.size w w' := by
  obtain ⟨i0, hi, hz0, hz1, hz2⟩ := info_parts Ls.info
  have hc' : ∀ o k, k < n → (w.alloc o).cell? ⟨b, off + k, none⟩ = some (.int .i64 (el zs k)) := fun o k hk => by
    rw [World.cell?_alloc_lt _ _ _ (by simp; omega)]; exact hc k hk
  have HN := fun o => news hz (hc' o)
  clear hc hc'
  go_enter Tryz.func103, Tryz.ntmps103
  go_wp2_with (at_builtin; refine wpList_append_own _ rfl _ _ 26 rfl w.heap.size 2 i0 (.int .i64 0) 1 8 Tryz.underlying26 hi hz0 hz1 hz2 rfl (by decide) _ _ _ rfl (World.ownsRow_made w #[] 0 (Nat.le_refl _) (by unfold maxLen; omega) rfl) ⟨b, off, none⟩ n cap (ints zs) rfl (by rw [ints_len]; omega) (HN _) (one _) (by unfold maxLen; omega) (by omega) (by simp) ?_; intro v1 w1 ho hg hnil)
  have hv : v1 ≠ .slice none 0 0 := fun e => by have := (hnil.1 e).1; cases this
  rw [Nat.zero_add, List.nil_append] at ho
  obtain ⟨g, c, rfl, ho2⟩ := own_of (zs := zs) ho rfl hv
  clear ho
  have hB : Below w.heap.size w w1 := ((Below.refl _ _).alloc (Nat.le_refl _) _).grown hg (by simp) (by intro k hk; have e : w.heap.size = k := Option.some.inj hk; omega)
  clear hg hnil hv HN
  obtain ⟨h1, h2, h3, h4, cur, hcur, h5, h6⟩ := ho2.data
  have hlt := ho2.lt
  clear ho2
  have hH : Holds (Value.int .i64) w1 g 0 zs.toArray := holds_of_blockI hcur (by rw [h1]; exact h6)
  have key := slices_Sort g 0 c zs w1 hH hlt (by omega)
  rw [hz] at key
  clear hH
  go_wp2_with (go_at_call 113; refine key.mono ?_; rintro e w2 ⟨rfl, nn, os, rfl⟩)
  go_ret
  have G := grownBy_sortedI (w := w1) (g := g) (n := nn) (os := os) (srt zs).toArray
  have R := ownsRow_sortedI (n := nn) (os := os) (base := w.heap.size) (ts := srt zs) (ss := zs) (srt_len zs) h2 hcur (by omega) h4 (by omega)
  rw [hz] at R
  exact ⟨⟨g, c, rfl, R⟩, hB.grown G (by have := hB.size; omega) (by intro k hk; cases hk; omega)⟩

end Go.Proofs.YtnocmfhlmpgbmaaGreat.Ow
