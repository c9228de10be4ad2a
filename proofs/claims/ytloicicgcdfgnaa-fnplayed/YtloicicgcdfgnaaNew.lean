/-
  What a new world is made of: impl.kindsOf, slices.Clone, spec.l1Copy, each into new memory.
-/
import Derived.Test.YtloicicgcdfgnaaUp
import Derived.Test.YtloicicgcdfgnaaBools
import Derived.Lib.SliceRun
namespace Go.Proofs.Ytloicicgcdfgnaa.Wl
open Go.ChangeShapes Go.WideShapes Go.ChangeAt Go.RowKit
open Ls (el Row)
open Rm (Room)
open Ow (Has Own ints)
open Rd (Flags)
open Bo (eb HasB)
set_option linter.unusedVariables false
set_option linter.unusedSimpArgs false

/-- The kinds of those that lie, and of the others. -/
def KL (bs : List Bool) : List Int := bs.map fun b => if b then 2 else 0
theorem kl_len (bs : List Bool) : (KL bs).length = bs.length := by simp [KL]
theorem kl_el (bs : List Bool) (k : Nat) : el (KL bs) k = if eb bs k then 2 else 0 := by
  unfold el KL eb List.getD
  rw [List.getElem?_map]
  cases h : bs[k]? with
  | none => rfl
  | some b => rfl

theorem keep_part {w : World} {b n k : Nat} {zs : List Int} (h : w.rowIs b 2 n (Ls.part zs k)) (h0 : el zs k = 0) : w.rowIs b 2 n (Ls.part zs (k + 1)) :=
  h.congr fun i hi => by
    unfold Ls.part
    by_cases e : i = k
    · subst e; simp [h0]
    · by_cases h2 : i < k
      · rw [if_pos h2, if_pos (by omega)]
      · rw [if_neg h2, if_neg (by omega)]

set_option maxHeartbeats 1000000 in
theorem kindsOf (a : Option Addr) (n cap : Nat) (bs : List Bool) (w : World) (hr : Flags w w.heap.size a n bs) (hn : n ≤ 1048576) :
    Calls Try.prog 78 #[.slice a n cap] w fun e w' => (∃ g, e = .returned (.slice (some ⟨g, 0, none⟩) n n) ∧ Has w' w.heap.size g 0 n (KL bs)) ∧ Below w.heap.size w w' := by
  have hmk := run_make_row' (P := Try.prog) 29 2 (.int .i64 0) 8 Try.underlying29 Ls.info rfl .i64 .i64 n (by omega) (by omega)
  have ⟨hz, hrow⟩ := hr
  go_enter Try.func78, Try.ntmps78
  go_wp2
  go_loopw [11] (fun i w' => ∃ k : Nat, k ≤ n ∧ i = .int .i64 k ∧ w'.rowIs w.heap.size 2 n (Ls.part (KL bs) k) ∧ Below w.heap.size w w') (fun i _ => n - (intOf i).toNat)
  case atStart =>
    exact ⟨0, Nat.zero_le _, rfl, (World.rowIs_made w _ n _).congr (fun i _ => by simp [Ls.part]), (Below.refl _ _).alloc (Nat.le_refl _) _⟩
  case round =>
    obtain ⟨k, hk, rfl, hown, hb⟩ := hrel
    by_cases hlt : k < n
    · have hi : (k : Int) < n := by omega
      rcases hrow with hrow | ⟨b, off, rfl, hB, hc⟩
      · omega
      · have hc1 : w.cell? ⟨b, off + k, none⟩ = some (.bool (eb bs k)) := hc k hlt
        rw [← hb.cell (p := ⟨b, off + k, none⟩) hB] at hc1
        have hc2 := hown.cell hlt
        have hf2 := hown.frozen k
        have hel := kl_el bs k
        cases hx : eb bs k with
        | true =>
          rw [hx] at hc1 hel
          have HS : Hid ((wr.setCell ⟨w.heap.size, k, none⟩ (.int .i64 2)).rowIs w.heap.size 2 n (Ls.part (KL bs) (k + 1))) := by
            have q := Ls.row_step hown
            rw [hel] at q
            exact q
          clear hel
          go_wp2
          go_roundw
          case rel => exact ⟨k + 1, by omega, by go_num, HS.out, hb.setCell (Nat.le_refl _) _⟩
          case measure => simp [intOf]; omega
        | false =>
          rw [hx] at hc1 hel
          have HS : Hid (wr.rowIs w.heap.size 2 n (Ls.part (KL bs) (k + 1))) := keep_part hown hel
          clear hel
          go_wp2
          go_roundw
          case rel => exact ⟨k + 1, by omega, by go_num, HS.out, hb⟩
          case measure => simp [intOf]; omega
    · have hi : ¬ (k : Int) < n := by omega
      have e : k = n := by omega
      subst e
      go_wp2
      go_ret
      exact ⟨⟨_, rfl, Ow.has_new (by rw [kl_len]; exact hz) (Nat.le_refl _) hown⟩, hb⟩

set_option maxHeartbeats 1000000 in
theorem l1Copy (b off n cap : Nat) (zs : List Int) (w : World) (hz : zs.length = n) (hc : ∀ k, k < n → w.cell? ⟨b, off + k, none⟩ = some (.int .i64 (el zs k))) (hn : n ≤ 1048576) (hb : b < w.heap.size) :
    Calls Try.prog 80 #[.slice (some ⟨b, off, none⟩) n cap] w fun e w' => (∃ g c, e = .returned (.slice (some ⟨g, 0, none⟩) n c) ∧ Own w' w.heap.size g n c zs) ∧ Below w.heap.size w w' := by
  obtain ⟨i0, hi, hz0, hz1, hz2⟩ := info_parts Ls.info
  have hc' : ∀ o k, k < n → (w.alloc o).cell? ⟨b, off + k, none⟩ = some (.int .i64 (el zs k)) := fun o k hk => by
    rw [World.cell?_alloc_lt _ _ _ (by simp; omega)]; exact hc k hk
  have HN := fun o => Ow.news hz (hc' o)
  clear hc hc'
  go_enter Try.func80, Try.ntmps80
  go_wp2_with (at_builtin; refine wpList_append_own _ rfl _ _ 29 rfl w.heap.size 2 i0 (.int .i64 0) 1 8 Try.underlying29 hi hz0 hz1 hz2 rfl (by decide) _ _ _ rfl (World.ownsRow_made w #[] 0 (Nat.le_refl _) (by unfold maxLen; omega) rfl) ⟨b, off, none⟩ n cap (ints zs) rfl (by rw [Ow.ints_len]; omega) (HN _) (Ow.one _) (by unfold maxLen; omega) (by omega) (by simp) ?_; intro v1 w1 ho hg hnil)
  have hv : v1 ≠ .slice none 0 0 := fun e => by have := (hnil.1 e).1; cases this
  rw [Nat.zero_add, List.nil_append] at ho
  obtain ⟨g, c, rfl, ho2⟩ := Ow.own_of (zs := zs) ho rfl hv
  clear ho
  have hB : Below w.heap.size w w1 := ((Below.refl _ _).alloc (Nat.le_refl _) _).grown hg (by simp) (by intro k hk; have e : w.heap.size = k := Option.some.inj hk; omega)
  clear hg hnil hv HN
  go_wp2_with fail
  go_ret
  exact ⟨⟨g, c, rfl, ho2⟩, hB⟩

set_option maxHeartbeats 1000000 in
theorem clone (b off n cap : Nat) (zs : List Int) (w : World) (hz : zs.length = n) (hc : ∀ k, k < n → w.cell? ⟨b, off + k, none⟩ = some (.int .i64 (el zs k))) (hn : n ≤ 1048576) (hb : b < w.heap.size) :
    Calls Try.prog 79 #[.slice (some ⟨b, off, none⟩) n cap] w fun e w' => (∃ g c, e = .returned (.slice (some ⟨g, 0, none⟩) n c) ∧ Own w' w.heap.size g n c zs) ∧ Below w.heap.size w w' := by
  obtain ⟨i0, hi, hz0, hz1, hz2⟩ := info_parts Ls.info
  have hc' : ∀ o k, k < n → (w.alloc o).cell? ⟨b, off + k, none⟩ = some (.int .i64 (el zs k)) := fun o k hk => by
    rw [World.cell?_alloc_lt _ _ _ (by simp; omega)]; exact hc k hk
  have HN := fun o => Ow.news hz (hc' o)
  clear hc hc'
  have hnl := Lib.run_eql_slice_nil (P := Try.prog) w 29 2 (some ⟨b, off, none⟩) n cap 0 0 Try.underlying29
  go_enter Try.func79, Try.ntmps79
  go_wp2_with (at_builtin; refine wpList_append_own _ rfl _ _ 29 rfl w.heap.size 2 i0 (.int .i64 0) 1 8 Try.underlying29 hi hz0 hz1 hz2 rfl (by decide) _ _ _ rfl (World.ownsRow_made w #[] 0 (Nat.le_refl _) (by unfold maxLen; omega) rfl) ⟨b, off, none⟩ n cap (ints zs) rfl (by rw [Ow.ints_len]; omega) (HN _) (Ow.one _) (by unfold maxLen; omega) (by omega) (by simp) ?_; intro v1 w1 ho hg hnil)
  have hv : v1 ≠ .slice none 0 0 := fun e => by have := (hnil.1 e).1; cases this
  rw [Nat.zero_add, List.nil_append] at ho
  obtain ⟨g, c, rfl, ho2⟩ := Ow.own_of (zs := zs) ho rfl hv
  clear ho
  have hB : Below w.heap.size w w1 := ((Below.refl _ _).alloc (Nat.le_refl _) _).grown hg (by simp) (by intro k hk; have e : w.heap.size = k := Option.some.inj hk; omega)
  clear hg hnil hv HN
  go_wp2_with fail
  go_ret
  exact ⟨⟨g, c, rfl, ho2⟩, hB⟩

end Go.Proofs.Ytloicicgcdfgnaa.Wl
