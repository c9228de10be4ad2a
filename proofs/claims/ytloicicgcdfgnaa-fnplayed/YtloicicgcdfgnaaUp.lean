/-
  Those that are up: spec.l5Up, UpIn of impl and of spec by one answer, in new memory.
-/
import Derived.Test.YtloicicgcdfgnaaSWok
namespace Go.Proofs.Ytloicicgcdfgnaa.Ow
open Go.ChangeShapes Go.WideShapes Go.ChangeAt Go.RowKit
open Ls (el Row)
set_option linter.unusedVariables false
theorem no_nil {v v' : Value} {p : Prop} {a : Addr} {n c : Nat} (h : v' = .slice none 0 0 ↔ v = .slice none 0 0 ∧ p) (hv : v = .slice (some a) n c) : v' ≠ .slice none 0 0 := fun e => by
  have := (h.1 e).1
  rw [hv] at this
  cases this

theorem one_new (w : World) (x : Int) (t : TypeId) (b : Nat) (hb : b = w.heap.size) : ∀ j u, (ints [x])[j]? = some u → (w.alloc (.cells #[.int .i64 x] t)).cell? ((⟨b, 0, none⟩ : Addr).add j) = some u := by
  intro j u hj
  subst hb
  match j, hj with
  | 0, hj =>
    rw [addr_add]
    simp [ints] at hj
    subst hj
    simp
  | j + 1, hj => simp [ints] at hj

theorem own_made (w : World) (B g : Nat) (hg : g = w.heap.size) (hB : B ≤ w.heap.size) : Own (w.alloc (.cells #[] 2)) B g 0 0 [] := by
  subst hg
  exact World.ownsRow_made w #[] 0 hB (by unfold maxLen; omega) rfl

/-- One more behind a row. -/
theorem more {w2 : World} {B k : Nat} {zs : List Int} {x : Int} {v2 : Value} (h : w2.ownsRow B 2 1 v2 (k + 1) (ints zs ++ ints [x])) (hn : v2 ≠ .slice none 0 0) :
    ∃ g2 c2, v2 = .slice (some ⟨g2, 0, none⟩) (k + 1) c2 ∧ Own w2 B g2 (k + 1) c2 (zs ++ [x]) := own_of h (by simp [ints]) hn

end Go.Proofs.Ytloicicgcdfgnaa.Ow

namespace Go.Proofs.Ytloicicgcdfgnaa.Wl
open Go.ChangeShapes Go.WideShapes Go.ChangeAt Go.RowKit
open Ls (el Row)
open Rm (Room)
open Ow (Has Own ints)
open Cf (cfg CP)
set_option linter.unusedVariables false
set_option linter.unusedSimpArgs false

/-- Those of the first k that are up. -/
def up (zs : List Int) : Nat → List Int
  | 0 => []
  | k + 1 => if el zs k = 0 then up zs k ++ [(k : Int)] else up zs k
theorem up_len (zs : List Int) (k : Nat) : (up zs k).length + bad zs k = k := by
  induction k with
  | zero => rfl
  | succ k ih => rw [up, bad]; split <;> (try rw [List.length_append, List.length_singleton]) <;> omega
theorem up_mem {zs : List Int} {k : Nat} {x : Int} (h : x ∈ up zs k) : ∃ j : Nat, x = j ∧ j < k ∧ el zs j = 0 := by
  induction k with
  | zero => cases h
  | succ k ih =>
    rw [up] at h
    split at h
    · rcases List.mem_append.1 h with h | h
      · obtain ⟨j, h1, h2, h3⟩ := ih h; exact ⟨j, h1, by omega, h3⟩
      · rw [List.mem_singleton] at h; exact ⟨k, h, by omega, by assumption⟩
    · obtain ⟨j, h1, h2, h3⟩ := ih h; exact ⟨j, h1, by omega, h3⟩

set_option maxHeartbeats 1000000 in
theorem l5Up (a : Option Addr) (n cap : Nat) (zs : List Int) (w : World) (hr : Row w w.heap.size a n zs) (hn : n ≤ 1048576) :
    Calls Try.prog 88 #[.slice a n cap] w fun e w' => (∃ g c, e = .returned (.slice (some ⟨g, 0, none⟩) (up zs n).length c) ∧ Own w' w.heap.size g (up zs n).length c (up zs n)) ∧ Below w.heap.size w w' := by
  obtain ⟨i0, hi, hz0, hz1, hz2⟩ := info_parts Ls.info
  obtain ⟨hz, hrow⟩ := hr
  go_enter Try.func88, Try.ntmps88
  go_wp2
  go_loopw [3, 4] (fun v q wr => ∃ (k g c : Nat), k ≤ n ∧ q = .int .i64 (k : Int) ∧ v = .slice (some ⟨g, 0, none⟩) (up zs k).length c ∧ Hid (Own wr w.heap.size g (up zs k).length c (up zs k)) ∧ Below w.heap.size w wr) (fun _ q _ => n - (intOf q).toNat)
  case atStart => exact ⟨0, _, _, Nat.zero_le _, rfl, rfl, World.ownsRow_made w #[] 0 (Nat.le_refl _) (by unfold maxLen; omega) rfl, (Below.refl _ _).alloc (Nat.le_refl _) _⟩
  case round =>
    obtain ⟨k, g, c, hk, rfl, rfl, HO, hb⟩ := hrel
    have hsz := hb.size
    have hgB := HO.out.data.2.1
    have hul := up_len zs k
    by_cases hlt : k < n
    · have hi' : (k : Int) < n := by omega
      rcases hrow with hrow | ⟨b, off, rfl, hB, hc⟩
      · omega
      have hc1 := hc k hlt
      rw [← hb.cell (p := ⟨b, off + k, none⟩) hB] at hc1
      by_cases h0 : el zs k = 0
      · have E : Hid (up zs (k + 1) = up zs k ++ [(k : Int)]) := by unfold Hid; rw [up, if_pos h0]
        have h1 : (el zs k == 0) = true := by simp [h0]
        go_wp2_with (at_builtin; refine wpList_append_own _ rfl (.tmp 17) (.tmp 19) 29 rfl w.heap.size 2 i0 (.int .i64 0) 1 8 Try.underlying29 hi hz0 hz1 hz2 rfl (by decide) _ _ _ rfl (World.ownsRow.alloc (w := wr) HO.out _) ⟨wr.heap.size, 0, none⟩ 1 1 (ints [(k : Int)]) rfl rfl (Ow.one_new wr (k : Int) _ _ rfl) (Ow.one _) (by unfold maxLen; omega) (by omega) (by simp; omega) ?_; intro v2 w2 hx2 hg2 hn2)
        obtain ⟨g2, c2, rfl, ho2⟩ := Ow.more hx2 (Ow.no_nil hn2 rfl)
        have hb2 : Below w.heap.size w w2 := (hb.alloc hsz _).grown hg2 (by simp; omega) (by intro j hj; cases hj; exact hgB)
        clear hx2 hg2 hn2 HO
        go_wp2_with fail
        go_roundw
        case rel => exact ⟨k + 1, g2, c2, by omega, by go_num, by rw [E.out]; simp, by rw [E.out, List.length_append]; exact ho2, hb2⟩
        case measure => simp [intOf]; omega
      · have E : Hid (up zs (k + 1) = up zs k) := by unfold Hid; rw [up, if_neg h0]
        have h1 : (el zs k == 0) = false := by simp [h0]
        go_wp2
        go_roundw
        case rel => exact ⟨k + 1, g, c, by omega, by go_num, by rw [E.out], by rw [E.out]; exact HO.out, hb⟩
        case measure => simp [intOf]; omega
    · have hi' : ¬ (k : Int) < n := by omega
      have e : k = n := by omega
      subst e
      go_wp2
      go_ret
      exact ⟨⟨g, c, rfl, HO.out⟩, hb⟩

/-- The answer of UpIn. -/
def UL (n l d r p s : Int) (ks : List Int) (k : Nat) (os : List Int) (m : Nat) (t : Int) : List Int := if WO n l d r p s ks k os m t then up ks k else []

theorem smallU (n l d r p s : Int) (ks : List Int) (k : Nat) (os : List Int) (m : Nat) (t : Int) (hk : k ≤ 1048576) : (UL n l d r p s ks k os m t).length ≤ 1048576 := by
  have := up_len ks k
  unfold UL
  split
  · omega
  · simp

set_option maxHeartbeats 2000000 in
theorem s_UpIn (n l d r p s t : Int) (a b : Option Addr) (k ka m mb : Nat) (ks os : List Int) (w : World) (hr : Row w w.heap.size a k ks) (hs : Row w w.heap.size b m os) (hk : k ≤ 1048576) (hm : m ≤ 1048576) :
    Calls Try.prog 35 #[wld n l d r p s (.slice a k ka) (.slice b m mb) t] w fun e w' => (∃ g c, e = .returned (.slice (some ⟨g, 0, none⟩) (UL n l d r p s ks k os m t).length c) ∧ Own w' w.heap.size g (UL n l d r p s ks k os m t).length c (UL n l d r p s ks k os m t)) ∧ Below w.heap.size w w' := by
  have B1 := (Below.refl w.heap.size w).alloc (Nat.le_refl _) (.cells #[.int .i64 n, .int .i64 l, .int .i64 d, .int .i64 r, .int .i64 p, .int .i64 s, .slice a k ka, .slice b m mb, .int .i64 t] 31)
  have R1 := Room.new w (c9 n l d r p s (.slice a k ka) (.slice b m mb) t) 31
  cases hq : WO n l d r p s ks k os m t with
  | false =>
    have E : Hid (UL n l d r p s ks k os m t = []) := by unfold Hid UL; rw [hq]; rfl
    rw [E.out]
    go_enter Try.func35, Try.ntmps35
    go_wp2_with fail
    refine (s_WorldOk n l d r p s t a b k ka m mb ks os _ ((hr.later B1 (Nat.le_refl _)).more B1.size) ((hs.later B1 (Nat.le_refl _)).more B1.size) hk hm).mono ?_
    rintro e w2 ⟨rfl, b2⟩
    rw [hq]
    have B2 := B1.trans (b2.mono B1.size)
    have z2 := B2.size
    go_wp2
    go_ret
    exact ⟨⟨_, _, rfl, World.ownsRow_made w2 #[] 0 z2 (by unfold maxLen; omega) rfl⟩, B2.alloc z2 _⟩
  | true =>
    have E : Hid (UL n l d r p s ks k os m t = up ks k) := by unfold Hid UL; rw [hq]; rfl
    rw [E.out]
    go_enter Try.func35, Try.ntmps35
    go_wp2_with fail
    refine (s_WorldOk n l d r p s t a b k ka m mb ks os _ ((hr.later B1 (Nat.le_refl _)).more B1.size) ((hs.later B1 (Nat.le_refl _)).more B1.size) hk hm).mono ?_
    rintro e w2 ⟨rfl, b2⟩
    rw [hq]
    have B2 := B1.trans (b2.mono B1.size)
    have z2 := B2.size
    have R2 := R1.below b2
    have c6 := R2.cell 6 rfl
    go_wp2_with fail
    refine (l5Up a k ka ks _ ((hr.later B2 (Nat.le_refl _)).more B2.size) hk).mono ?_
    rintro e w3 ⟨⟨g, c, rfl, ho⟩, b3⟩
    go_wp2
    go_ret
    exact ⟨⟨g, c, rfl, ho.mono z2⟩, B2.trans (b3.mono z2)⟩

set_option maxHeartbeats 2000000 in
theorem bareUp (n l d r p s t : Int) (a : Option Addr) (vb : Value) (k ka : Nat) (ks : List Int) (w : World) (hr : Row w w.heap.size a k ks) (hk : k ≤ 1048576) :
    Calls Try.prog 81 #[wld n l d r p s (.slice a k ka) vb t] w fun e w' => (∃ g c, e = .returned (.slice (some ⟨g, 0, none⟩) (up ks k).length c) ∧ Own w' w.heap.size g (up ks k).length c (up ks k)) ∧ Below w.heap.size w w' := by
  obtain ⟨i0, hi, hz0, hz1, hz2⟩ := info_parts Ls.info
  have B1 := ((Below.refl w.heap.size w).alloc (Nat.le_refl _) (.cells #[.int .i64 n, .int .i64 l, .int .i64 d, .int .i64 r, .int .i64 p, .int .i64 s, .slice a k ka, vb, .int .i64 t] 31)).alloc (by simp) (.cells #[] 2)
  have R1 := (Room.new w (c9 n l d r p s (.slice a k ka) vb t) 31).alloc (.cells #[] 2)
  have O1 : Own ((w.alloc (.cells #[.int .i64 n, .int .i64 l, .int .i64 d, .int .i64 r, .int .i64 p, .int .i64 s, .slice a k ka, vb, .int .i64 t] 31)).alloc (.cells #[] 2)) w.heap.size (w.heap.size + 1) 0 0 [] := Ow.own_made _ _ _ (by simp) (by simp)
  have HO1 : Hid (Own _ _ _ _ _ _) := O1
  clear O1
  have c6 := R1.cell 6 rfl
  obtain ⟨hz, hrow⟩ := hr
  go_enter Try.func81, Try.ntmps81
  go_wp2_with fail
  go_loopw [3, 10] (fun v q wr => ∃ (j g c : Nat), j ≤ k ∧ q = .int .i64 (j : Int) ∧ v = .slice (some ⟨g, 0, none⟩) (up ks j).length c ∧ Hid (Own wr w.heap.size g (up ks j).length c (up ks j)) ∧ Below w.heap.size w wr) (fun _ q _ => k - (intOf q).toNat)
  case atStart => exact ⟨0, _, _, Nat.zero_le _, rfl, rfl, HO1.out, B1⟩
  case round =>
    obtain ⟨j, g, c, hj, rfl, rfl, HO, hb⟩ := hrel
    have hsz := hb.size
    have hgB := HO.out.data.2.1
    have hul := up_len ks j
    by_cases hlt : j < k
    · have hi' : (j : Int) < k := by omega
      rcases hrow with hrow | ⟨b, off, rfl, hB, hc⟩
      · omega
      have hc1 := hc j hlt
      rw [← hb.cell (p := ⟨b, off + j, none⟩) hB] at hc1
      by_cases h0 : el ks j = 0
      · have E : Hid (up ks (j + 1) = up ks j ++ [(j : Int)]) := by unfold Hid; rw [up, if_pos h0]
        have h1 : (el ks j == 0) = true := by simp [h0]
        go_wp2_with (at_builtin; refine wpList_append_own _ rfl (.tmp 17) (.tmp 19) 29 rfl w.heap.size 2 i0 (.int .i64 0) 1 8 Try.underlying29 hi hz0 hz1 hz2 rfl (by decide) _ _ _ rfl (World.ownsRow.alloc (w := wr) HO.out _) ⟨wr.heap.size, 0, none⟩ 1 1 (ints [(j : Int)]) rfl rfl (Ow.one_new wr (j : Int) _ _ rfl) (Ow.one _) (by unfold maxLen; omega) (by omega) (by simp; omega) ?_; intro v2 w2 hx2 hg2 hn2)
        obtain ⟨g2, c2, rfl, ho2⟩ := Ow.more hx2 (Ow.no_nil hn2 rfl)
        have hb2 : Below w.heap.size w w2 := (hb.alloc hsz _).grown hg2 (by simp; omega) (by intro j hj; cases hj; exact hgB)
        clear hx2 hg2 hn2 HO
        go_wp2_with fail
        go_roundw
        case rel => exact ⟨j + 1, g2, c2, by omega, by go_num, by rw [E.out]; simp, by rw [E.out, List.length_append]; exact ho2, hb2⟩
        case measure => simp [intOf]; omega
      · have E : Hid (up ks (j + 1) = up ks j) := by unfold Hid; rw [up, if_neg h0]
        have h1 : (el ks j == 0) = false := by simp [h0]
        go_wp2
        go_roundw
        case rel => exact ⟨j + 1, g, c, by omega, by go_num, by rw [E.out], by rw [E.out]; exact HO.out, hb⟩
        case measure => simp [intOf]; omega
    · have hi' : ¬ (j : Int) < k := by omega
      have e : j = k := by omega
      subst e
      go_wp2
      go_ret
      exact ⟨⟨g, c, rfl, HO.out⟩, hb⟩

set_option maxHeartbeats 2000000 in
theorem i_UpIn (n l d r p s t : Int) (a b : Option Addr) (k ka m mb : Nat) (ks os : List Int) (w : World) (hr : Row w w.heap.size a k ks) (hs : Row w w.heap.size b m os) (hk : k ≤ 1048576) (hm : m ≤ 1048576) :
    Calls Try.prog 29 #[wld n l d r p s (.slice a k ka) (.slice b m mb) t] w fun e w' => (∃ g c, e = .returned (.slice (some ⟨g, 0, none⟩) (UL n l d r p s ks k os m t).length c) ∧ Own w' w.heap.size g (UL n l d r p s ks k os m t).length c (UL n l d r p s ks k os m t)) ∧ Below w.heap.size w w' := by
  have B1 := (Below.refl w.heap.size w).alloc (Nat.le_refl _) (.cells #[.int .i64 n, .int .i64 l, .int .i64 d, .int .i64 r, .int .i64 p, .int .i64 s, .slice a k ka, .slice b m mb, .int .i64 t] 31)
  have R1 := Room.new w (c9 n l d r p s (.slice a k ka) (.slice b m mb) t) 31
  cases hq : WO n l d r p s ks k os m t with
  | false =>
    have E : Hid (UL n l d r p s ks k os m t = []) := by unfold Hid UL; rw [hq]; rfl
    rw [E.out]
    go_enter Try.func29, Try.ntmps29
    go_wp2_with fail
    refine (i_WorldOk n l d r p s t a b k ka m mb ks os _ ((hr.later B1 (Nat.le_refl _)).more B1.size) ((hs.later B1 (Nat.le_refl _)).more B1.size) hk hm).mono ?_
    rintro e w2 ⟨rfl, bb⟩
    rw [hq]
    have b2 := B1.trans (bb.mono B1.size)
    have z2 := b2.size
    go_wp2
    go_ret
    exact ⟨⟨_, _, rfl, World.ownsRow_made w2 #[] 0 z2 (by unfold maxLen; omega) rfl⟩, b2.alloc z2 _⟩
  | true =>
    have E : Hid (UL n l d r p s ks k os m t = up ks k) := by unfold Hid UL; rw [hq]; rfl
    rw [E.out]
    go_enter Try.func29, Try.ntmps29
    go_wp2_with fail
    refine (i_WorldOk n l d r p s t a b k ka m mb ks os _ ((hr.later B1 (Nat.le_refl _)).more B1.size) ((hs.later B1 (Nat.le_refl _)).more B1.size) hk hm).mono ?_
    rintro e w2 ⟨rfl, bb⟩
    rw [hq]
    have b2 := B1.trans (bb.mono B1.size)
    have z2 := b2.size
    have R2 := R1.below bb
    have c0 := R2.cell 0 rfl
    have c1 := R2.cell 1 rfl
    have c2 := R2.cell 2 rfl
    have c3 := R2.cell 3 rfl
    have c4 := R2.cell 4 rfl
    have c5 := R2.cell 5 rfl
    have c6 := R2.cell 6 rfl
    have c7 := R2.cell 7 rfl
    have c8 := R2.cell 8 rfl
    go_wp2_with fail
    refine (bareUp n l d r p s t a (.slice b m mb) k ka ks _ ((hr.later b2 (Nat.le_refl _)).more b2.size) hk).mono ?_
    rintro e w3 ⟨⟨g, c, rfl, ho⟩, b3⟩
    go_wp2
    go_ret
    exact ⟨⟨g, c, rfl, ho.mono z2⟩, b2.trans (b3.mono z2)⟩

end Go.Proofs.Ytloicicgcdfgnaa.Wl
