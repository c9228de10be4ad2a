/-
  Whether a seal is ahead of a round and a node (spec.l11Ahead); seals with one right one more, in order (spec.l11Put).
-/
import Derived.Test.YtimakfokgcnklaaGreatOg
import Derived.Deep.RegionHeld3
import Derived.Test.YtimakfokgcnklaaGreatTk
namespace Go.Proofs.YtimakfokgcnklaaGreat.Mg
open Go.ChangeShapes Go.WideShapes Go.ChangeAt Go.RowKit
open Rm (Room)
open Sb (S3 es fl sl Row3 SHas)
open Og (OwnS)
open Dr (Step)
set_option linter.unusedVariables false
set_option linter.unusedSimpArgs false

abbrev c3 (s : S3) : List Value := [.int .i64 s.1, .int .i64 s.2.1, .int .i64 s.2.2]

theorem l11Ahead (x : S3) (r k : Int) (w : World) :
    Calls Tryz.prog 140 #[sl x, .int .i64 r, .int .i64 k] w fun e w' => e = .returned (.bool (ah x r k)) ∧ Below w.heap.size w w' := by
  have BB := (Below.refl w.heap.size w).alloc (Nat.le_refl _) (.cells #[.int .i64 x.1, .int .i64 x.2.1, .int .i64 x.2.2] 125)
  by_cases h1 : x.1 < r
  · have d1 : decide (x.1 < r) = true := decide_eq_true h1
    have HA : Hid (ah x r k = true) := by show ah x r k = true; unfold ah; simp [d1, h1]; try omega
    go_enter Tryz.func140, Tryz.ntmps140
    go_wp2
    go_ret
    exact ⟨Sp.retb HA.out.symm, BB⟩
  · have d1 : decide (x.1 < r) = false := decide_eq_false h1
    by_cases h2 : x.1 = r
    · have d2 : (x.1 == r) = true := by simp [h2]
      by_cases h3 : x.2.1 < k
      · have d3 : decide (x.2.1 < k) = true := decide_eq_true h3
        have HA : Hid (ah x r k = true) := by show ah x r k = true; unfold ah; simp [d1, h2, h3]; try omega
        clear h1 h2 h3
        go_enter Tryz.func140, Tryz.ntmps140
        go_wp2
        go_ret
        exact ⟨Sp.retb HA.out.symm, BB⟩
      · have d3 : decide (x.2.1 < k) = false := decide_eq_false h3
        have HA : Hid (ah x r k = false) := by show ah x r k = false; unfold ah; simp [h2, h3]; try omega
        clear h1 h2 h3
        go_enter Tryz.func140, Tryz.ntmps140
        go_wp2
        go_ret
        exact ⟨Sp.retb HA.out.symm, BB⟩
    · have d2 : (x.1 == r) = false := by simp [h2]
      have HA : Hid (ah x r k = false) := by show ah x r k = false; unfold ah; simp [h1, h2]; try omega
      clear h1 h2
      go_enter Tryz.func140, Tryz.ntmps140
      go_wp2
      go_ret
      exact ⟨Sp.retb HA.out.symm, BB⟩

theorem neq3 (a b c r k t : Int) (W : World) : (binOp .neq 125 (.agg #[.int .i64 a, .int .i64 b, .int .i64 c]) (.agg #[.int .i64 r, .int .i64 k, .int .i64 t])).run Tryz.prog W = .ok (.bool (!decide (a = r ∧ b = k ∧ c = t))) W := by
  by_cases h1 : a = r
  · by_cases h2 : b = k
    · by_cases h3 : c = t
      · subst h1 h2 h3; simp [go_sem, Op.eqFields]
      · subst h1 h2; simp [go_sem, Op.eqFields, h3]
    · subst h1; simp [go_sem, Op.eqFields, h2]
  · simp [go_sem, Op.eqFields, h1]
theorem eq_three {x s : S3} : (x.1 = s.1 ∧ x.2.1 = s.2.1 ∧ x.2.2 = s.2.2) ↔ x = s := by
  obtain ⟨a, b, c⟩ := x
  obtain ⟨r, k, t⟩ := s
  simp
theorem neqS (x s : S3) (W : World) : (binOp .neq 125 (sl x) (sl s)).run Tryz.prog W = .ok (.bool (!decide (x = s))) W := by
  rw [neq3]
  by_cases h : x = s
  · rw [decide_eq_true h, decide_eq_true (eq_three.2 h)]
  · rw [decide_eq_false h, decide_eq_false (fun q => h (eq_three.1 q))]
theorem pg_next {l : List S3} {s : S3} {k : Nat} {L : List S3} {b : Bool} (h : pg l s k = (L, b)) : pg l s (k + 1) = ((if (!b && !ah (es l k) s.1 s.2.1) then L ++ [s] else L) ++ (if es l k = s then [] else [es l k]), b || (!b && !ah (es l k) s.1 s.2.1)) := by
  show ((if (!(pg l s k).2 && !ah (es l k) s.1 s.2.1) then (pg l s k).1 ++ [s] else (pg l s k).1) ++ (if es l k = s then [] else [es l k]), (pg l s k).2 || (!(pg l s k).2 && !ah (es l k) s.1 s.2.1)) = _
  rw [h]
theorem pg_len (l : List S3) (s : S3) (k : Nat) {L : List S3} {b : Bool} (h : pg l s k = (L, b)) : L.length ≤ k + (if b then 1 else 0) := by
  induction k generalizing L b with
  | zero => simp [pg] at h; obtain ⟨rfl, rfl⟩ := h; simp
  | succ k ih =>
    obtain ⟨L0, b0, e⟩ : ∃ L0 b0, pg l s k = (L0, b0) := ⟨_, _, rfl⟩
    have q := ih e
    rw [pg_next e] at h
    simp only [Prod.mk.injEq] at h
    obtain ⟨h1, h2⟩ := h
    subst h1 h2
    cases b0 <;> cases ha : ah (es l k) s.1 s.2.1 <;> by_cases he : es l k = s <;> simp [he] at q ⊢ <;> omega
theorem put_len (l : List S3) (s : S3) : (put l s).length ≤ l.length + 1 := by
  have := pg_len l s l.length (L := (pg l s l.length).1) (b := (pg l s l.length).2) rfl
  unfold put
  cases h : (pg l s l.length).2 <;> simp [h] at this ⊢ <;> omega

/-- What is gathered, and the seal's own cells. -/
structure Pu (w w' : World) (s : S3) (g m c : Nat) (L : List S3) : Prop where
  OS : OwnS w' (w.heap.size + 1) g m c L
  RS : Room w' w.heap.size (c3 s)
  BB : Below w.heap.size w w'
theorem Pu.drew {w w' : World} {s : S3} {g m c : Nat} {L : List S3} (h : Pu w w' s g m c L) : Pu w w'.drew s g m c L := ⟨h.OS, h.RS.drew, h.BB.drew⟩
theorem Pu.below {w w' w2 : World} {s : S3} {g m c : Nat} {L : List S3} (h : Pu w w' s g m c L) (b : Below w'.heap.size w' w2) : Pu w w2 s g m c L := ⟨Og.own_below h.OS b, h.RS.below b, h.BB.trans (b.mono h.BB.size)⟩
theorem Pu.app {w w' w2 : World} {s x : S3} {g m c : Nat} {L : List S3} {v2 : Value} {o : Obj} (h : Pu w w' s g m c L) (hx : w2.ownsRow (w.heap.size + 1) 125 3 v2 (m + 1) (fl L ++ fl [x])) (hg : (w'.alloc o).grownBy w2 (some g)) (hn : v2 ≠ .slice none 0 0)
    (hat : v2.ownBlock = some g ∨ v2.ownBlock = some (w'.alloc o).heap.size) : ∃ g2 c2, v2 = .slice (some ⟨g2, 0, none⟩) (m + 1) c2 ∧ Pu w w2 s g2 (m + 1) c2 (L ++ [x]) := by
  obtain ⟨g2, c2, e, h2, hh⟩ := Og.moreS hx hn hat
  have hgB : w.heap.size + 1 ≤ g := (Og.own_lt h.OS rfl).1
  have hl := h.RS.lt (by simp)
  exact ⟨g2, c2, e, h2, (h.RS.alloc _).other hg (by omega), (h.BB.alloc h.BB.size _).grown hg (by have := h.BB.size; simp; omega) (fun j e => by cases e; omega)⟩
theorem Pu.base {w w' : World} {s : S3} {g m c : Nat} {L : List S3} (h : Pu w w' s g m c L) (o : Obj) : w.heap.size + 1 ≤ (w'.alloc o).heap.size := by
  have := h.RS.lt (by simp)
  simp; omega
theorem Pu.cell {w w' : World} {s : S3} {g m c : Nat} {L : List S3} (h : Pu w w' s g m c L) : w'.cell? ⟨w.heap.size, 0, none⟩ = some (.int .i64 s.1) ∧ w'.cell? ⟨w.heap.size, 1, none⟩ = some (.int .i64 s.2.1) ∧ w'.cell? ⟨w.heap.size, 2, none⟩ = some (.int .i64 s.2.2) := ⟨h.RS.cell 0 rfl, h.RS.cell 1 rfl, h.RS.cell 2 rfl⟩

set_option maxHeartbeats 8000000 in
set_option maxRecDepth 100000 in
theorem l11Put (a : Option Addr) (n cap : Nat) (ss : List S3) (s : S3) (w : World) (hr : Row3 w w.heap.size a n ss) (hn : n ≤ 3000000) :
    Calls Tryz.prog 131 #[.slice a n cap, sl s] w fun e w' => (∃ g c, e = .returned (.slice (some ⟨g, 0, none⟩) (put ss s).length c) ∧ OwnS w' w.heap.size g (put ss s).length c (put ss s)) ∧ Below w.heap.size w w' := by
  obtain ⟨i0, hi, hz0, hz1, hz2⟩ := info_parts Og.infoS
  have hsl : ss.length = n := hr.1
  have PU0 : Pu w ((w.alloc (.cells #[.int .i64 s.1, .int .i64 s.2.1, .int .i64 s.2.2] 125)).alloc (.cells #[] 125)) s (w.heap.size + 1) 0 0 [] := ⟨by have := Og.ownS_made (w.alloc (.cells #[.int .i64 s.1, .int .i64 s.2.1, .int .i64 s.2.2] 125)); simpa using this, (Room.new w (c3 s) 125).alloc _, ((Below.refl _ w).alloc (Nat.le_refl _) _).alloc (by simp) _⟩
  go_enter Tryz.func131, Tryz.ntmps131
  go_wp2
  go_loopw [5, 6, 7] (fun v p q wr => ∃ (k g m c : Nat) (L : List S3) (b : Bool), k ≤ n ∧ v = .slice (some ⟨g, 0, none⟩) m c ∧ p = .bool b ∧ q = .int .i64 (k : Int) ∧ Hid (pg ss s k = (L, b)) ∧ Pu w wr s g m c L) (fun _ _ q _ => n - (intOf q).toNat)
  case atStart => exact ⟨0, _, 0, 0, [], false, Nat.zero_le _, by simp, rfl, rfl, rfl, PU0⟩
  case round =>
    clear PU0
    obtain ⟨k, g, m, c, L, b, hk, rfl, rfl, rfl, HP, PU⟩ := hrel
    have hLm : L.length = m := PU.OS.len
    have hpl := pg_len ss s k HP.out
    by_cases hlt : k < n
    · have hi2 : (k : Int) < n := by omega
      obtain ⟨_, hz | ⟨bb, off, rfl, hB, hc⟩⟩ := hr
      · omega
      have HC : Hid (∀ w', Below w.heap.size w w' → w'.cell? ⟨bb, off + k * 3, none⟩ = some (.int .i64 (es ss k).1) ∧ w'.cell? ⟨bb, off + k * 3 + 1, none⟩ = some (.int .i64 (es ss k).2.1) ∧ w'.cell? ⟨bb, off + k * 3 + 2, none⟩ = some (.int .i64 (es ss k).2.2)) := fun w' q => by
        obtain ⟨q0, q1, q2⟩ := hc k hlt
        exact ⟨(q.cell (p := ⟨bb, off + k * 3, none⟩) hB).trans q0, (q.cell (p := ⟨bb, off + k * 3 + 1, none⟩) hB).trans q1, (q.cell (p := ⟨bb, off + k * 3 + 2, none⟩) hB).trans q2⟩
      clear hc
      have hm2 : m ≤ k + 1 := by cases b <;> simp at hpl <;> omega
      clear hpl
      cases b with
      | true =>
        go_wp2_with fail
        replace PU := PU.drew
        have HK := HC.out _ PU.BB
        have HR := PU.cell
        refine wp_region_noPanic ?_
        refine wp_region_held_drew (S := (fun w' => (w'.cell? ⟨bb, off + k * 3, none⟩ = some (.int .i64 (es ss k).1) ∧ w'.cell? ⟨bb, off + k * 3 + 1, none⟩ = some (.int .i64 (es ss k).2.1) ∧ w'.cell? ⟨bb, off + k * 3 + 2, none⟩ = some (.int .i64 (es ss k).2.2)) ∧ (w'.cell? ⟨w.heap.size, 0, none⟩ = some (.int .i64 s.1) ∧ w'.cell? ⟨w.heap.size, 1, none⟩ = some (.int .i64 s.2.1) ∧ w'.cell? ⟨w.heap.size, 2, none⟩ = some (.int .i64 s.2.2)) ∧ Pu w w' s g m c L)) (by kernel_rfl) ⟨HK, HR, PU⟩ (fun hHeld => ?_)
        refine Tk.W 0 (some 15) (.move (.tmp 6)) 4 none ?_
        refine Tk.W 1 (some 16) (.unOp .not 4 (.tmp 15)) 4 none ?_
        refine Tk.W 2 (some 17) (.move (.tmp 16)) 4 none ?_
        refine Tk.N 3 (some 18) (.move (.tmp 0)) 32 (some (2, true)) ?_
        refine Tk.N 4 (some 19) (.move (.tmp 7)) 3 (some (2, true)) ?_
        refine Tk.N 5 (some 20) (.indexAddr 32 (.tmp 18) (.tmp 19)) 0 (some (2, true)) ?_
        refine Tk.N 6 (some 21) (.load 125 (.tmp 20)) 125 (some (2, true)) ?_
        refine Tk.N 7 (some 22) (.fieldAddr 125 (.tmp 3) 0) 0 (some (2, true)) ?_
        refine Tk.N 8 (some 23) (.load 2 (.tmp 22)) 2 (some (2, true)) ?_
        refine Tk.N 9 (some 24) (.fieldAddr 125 (.tmp 3) 1) 0 (some (2, true)) ?_
        refine Tk.N 10 (some 25) (.load 2 (.tmp 24)) 2 (some (2, true)) ?_
        refine Tk.N 11 (some 26) (.call ⟨.value (.func 140), #[.tmp 21, .tmp 23, .tmp 25], #[125, 2, 2]⟩) 4 (some (2, true)) ?_
        refine Tk.N 12 (some 27) (.unOp .not 4 (.tmp 26)) 4 (some (2, true)) ?_
        refine Tk.W 13 (some 28) (.pick (.tmp 17) (.tmp 27) (.const (.bool false))) 4 none ?_
        refine wpAnyH_done (by kernel_rfl) ?_ _
        refine NoPanic.normal ?_
        have PU := hHeld.2.2
        clear hHeld HK HR
        by_cases hx : es ss k = s
        · have hv : ∀ W, (binOp .neq 125 (sl (es ss k)) (sl s)).run Tryz.prog W = .ok (.bool false) W := fun W => by rw [neqS, decide_eq_true hx]; rfl
          have HN : Hid (pg ss s (k + 1) = (L, true)) := by show pg ss s (k + 1) = _; rw [pg_next HP.out]; simp [hx]
          clear hx
          go_wp2_with fail
          replace PU := PU.drew
          have HK := HC.out _ PU.BB
          have HR := PU.cell
          refine wp_region_noPanic ?_
          refine wp_region_held_drew (S := (fun w' => (w'.cell? ⟨bb, off + k * 3, none⟩ = some (.int .i64 (es ss k).1) ∧ w'.cell? ⟨bb, off + k * 3 + 1, none⟩ = some (.int .i64 (es ss k).2.1) ∧ w'.cell? ⟨bb, off + k * 3 + 2, none⟩ = some (.int .i64 (es ss k).2.2)) ∧ (w'.cell? ⟨w.heap.size, 0, none⟩ = some (.int .i64 s.1) ∧ w'.cell? ⟨w.heap.size, 1, none⟩ = some (.int .i64 s.2.1) ∧ w'.cell? ⟨w.heap.size, 2, none⟩ = some (.int .i64 s.2.2)) ∧ Pu w w' s g m c L)) (by kernel_rfl) ⟨HK, HR, PU⟩ (fun hHeld => ?_)
          refine Tk.W 0 (some 33) (.move (.tmp 0)) 32 none ?_
          refine Tk.W 1 (some 34) (.move (.tmp 7)) 3 none ?_
          refine Tk.W 2 (some 35) (.indexAddr 32 (.tmp 33) (.tmp 34)) 0 none ?_
          refine Tk.W 3 (some 36) (.load 125 (.tmp 35)) 125 none ?_
          refine Tk.W 4 (some 37) (.load 125 (.tmp 3)) 125 none ?_
          refine Tk.W 5 (some 38) (.binOp .neq 125 (.tmp 36) (.tmp 37) 125) 4 none ?_
          refine wpAnyH_done (by kernel_rfl) ?_ _
          refine NoPanic.normal ?_
          have PU := hHeld.2.2
          clear hHeld
          go_wp2
          go_roundw
          case rel => exact ⟨k + 1, g, m, c, L, true, by omega, rfl, rfl, by go_num, HN, PU⟩
          case measure => simp [intOf]; omega
        · have hv : ∀ W, (binOp .neq 125 (sl (es ss k)) (sl s)).run Tryz.prog W = .ok (.bool true) W := fun W => by rw [neqS, decide_eq_false hx]; rfl
          have HN : Hid (pg ss s (k + 1) = (L ++ [es ss k], true)) := by show pg ss s (k + 1) = _; rw [pg_next HP.out]; simp [hx]
          clear hx
          go_wp2_with fail
          replace PU := PU.drew
          have HK := HC.out _ PU.BB
          have HR := PU.cell
          refine wp_region_noPanic ?_
          refine wp_region_held_drew (S := (fun w' => (w'.cell? ⟨bb, off + k * 3, none⟩ = some (.int .i64 (es ss k).1) ∧ w'.cell? ⟨bb, off + k * 3 + 1, none⟩ = some (.int .i64 (es ss k).2.1) ∧ w'.cell? ⟨bb, off + k * 3 + 2, none⟩ = some (.int .i64 (es ss k).2.2)) ∧ (w'.cell? ⟨w.heap.size, 0, none⟩ = some (.int .i64 s.1) ∧ w'.cell? ⟨w.heap.size, 1, none⟩ = some (.int .i64 s.2.1) ∧ w'.cell? ⟨w.heap.size, 2, none⟩ = some (.int .i64 s.2.2)) ∧ Pu w w' s g m c L)) (by kernel_rfl) ⟨HK, HR, PU⟩ (fun hHeld => ?_)
          refine Tk.W 0 (some 33) (.move (.tmp 0)) 32 none ?_
          refine Tk.W 1 (some 34) (.move (.tmp 7)) 3 none ?_
          refine Tk.W 2 (some 35) (.indexAddr 32 (.tmp 33) (.tmp 34)) 0 none ?_
          refine Tk.W 3 (some 36) (.load 125 (.tmp 35)) 125 none ?_
          refine Tk.W 4 (some 37) (.load 125 (.tmp 3)) 125 none ?_
          refine Tk.W 5 (some 38) (.binOp .neq 125 (.tmp 36) (.tmp 37) 125) 4 none ?_
          refine wpAnyH_done (by kernel_rfl) ?_ _
          refine NoPanic.normal ?_
          have PU := hHeld.2.2
          clear hHeld
          obtain ⟨e0, e1, e2⟩ := HC.out _ PU.BB
          obtain ⟨r0, r1, r2⟩ := PU.cell
          have hz := PU.OS
          have HP1 : Hid (Pu w (wr.drew.drew) s _ _ _ _) := PU
          have hlb := PU.BB.size
          clear PU hz
          go_wp2_with (at_builtin; refine wpList_append_own_at _ rfl (.tmp 39) (.tmp 44) 32 rfl (w.heap.size + 1) 125 i0 (.agg #[.int .i64 0, .int .i64 0, .int .i64 0]) 3 24 Tryz.underlying32 hi hz0 hz1 hz2 rfl (by decide) _ _ _ rfl (World.ownsRow.alloc (w := wr.drew.drew) HP1.out.OS _) ⟨(wr.drew.drew).heap.size, 0, none⟩ 1 1 (fl [(es ss k)]) rfl rfl (Og.one_newS (wr.drew.drew) (es ss k) _ rfl) (Og.fl_one _) (by unfold maxLen; omega) (by omega) (HP1.out.base _) ?_; intro v2 wa4 hx2 hg2 hn2 ha2; obtain ⟨gz, cz, rfl, PU⟩ := HP1.out.app hx2 hg2 (Dg.no_nil hn2 rfl) ha2; clear hx2 hg2 hn2 ha2 HP1 hlb e0 e1 e2 r0 r1 r2)
          go_wp2
          go_roundw
          case rel => exact ⟨k + 1, gz, m + 1, cz, L ++ [es ss k], true, by omega, rfl, rfl, by go_num, HN, PU⟩
          case measure => simp [intOf]; omega
      | false =>
        cases qa : ah (es ss k) s.1 s.2.1 with
        | true =>
          have HA : Hid (ah (es ss k) s.1 s.2.1 = true) := qa
          clear qa
          go_wp2_with fail
          replace PU := PU.drew
          have HK := HC.out _ PU.BB
          have HR := PU.cell
          refine wp_region_noPanic ?_
          refine wp_region_held_drew (S := (fun w' => (w'.cell? ⟨bb, off + k * 3, none⟩ = some (.int .i64 (es ss k).1) ∧ w'.cell? ⟨bb, off + k * 3 + 1, none⟩ = some (.int .i64 (es ss k).2.1) ∧ w'.cell? ⟨bb, off + k * 3 + 2, none⟩ = some (.int .i64 (es ss k).2.2)) ∧ (w'.cell? ⟨w.heap.size, 0, none⟩ = some (.int .i64 s.1) ∧ w'.cell? ⟨w.heap.size, 1, none⟩ = some (.int .i64 s.2.1) ∧ w'.cell? ⟨w.heap.size, 2, none⟩ = some (.int .i64 s.2.2)) ∧ Pu w w' s g m c L)) (by kernel_rfl) ⟨HK, HR, PU⟩ (fun hHeld => ?_)
          refine Tk.W 0 (some 15) (.move (.tmp 6)) 4 none ?_
          refine Tk.W 1 (some 16) (.unOp .not 4 (.tmp 15)) 4 none ?_
          refine Tk.W 2 (some 17) (.move (.tmp 16)) 4 none ?_
          refine Tk.W 3 (some 18) (.move (.tmp 0)) 32 (some (2, true)) ?_
          refine Tk.W 4 (some 19) (.move (.tmp 7)) 3 (some (2, true)) ?_
          refine Tk.W 5 (some 20) (.indexAddr 32 (.tmp 18) (.tmp 19)) 0 (some (2, true)) ?_
          refine Tk.W 6 (some 21) (.load 125 (.tmp 20)) 125 (some (2, true)) ?_
          refine Tk.W 7 (some 22) (.fieldAddr 125 (.tmp 3) 0) 0 (some (2, true)) ?_
          refine Tk.W 8 (some 23) (.load 2 (.tmp 22)) 2 (some (2, true)) ?_
          refine Tk.W 9 (some 24) (.fieldAddr 125 (.tmp 3) 1) 0 (some (2, true)) ?_
          refine Tk.W 10 (some 25) (.load 2 (.tmp 24)) 2 (some (2, true)) ?_
          refine Tk.R 11 (some 26) (.call ⟨.value (.func 140), #[.tmp 21, .tmp 23, .tmp 25], #[125, 2, 2]⟩) 4 (some (2, true)) (fun K hK => ?_)
          go_simp
          refine (l11Ahead (es ss k) s.1 s.2.1 _).mono ?_
          rintro e wk ⟨rfl, bf612⟩
          have PU2 := hHeld.2.2.below bf612
          clear bf612
          rw [HA.out]
          try dsimp only
          refine hK.out _ _ ⟨HC.out _ PU2.BB, PU2.cell, PU2⟩ ?_; clear hK K hHeld; intro hHeld; try simp only [Act.put, List.setIfInBounds_toArray, List.set_cons_zero, List.set_cons_succ]
          refine Tk.W 12 (some 27) (.unOp .not 4 (.tmp 26)) 4 (some (2, true)) ?_
          refine Tk.W 13 (some 28) (.pick (.tmp 17) (.tmp 27) (.const (.bool false))) 4 none ?_
          refine wpAnyH_done (by kernel_rfl) ?_ _
          refine NoPanic.normal ?_
          have PU := hHeld.2.2
          clear hHeld HK HR
          by_cases hx : es ss k = s
          · have hv : ∀ W, (binOp .neq 125 (sl (es ss k)) (sl s)).run Tryz.prog W = .ok (.bool false) W := fun W => by rw [neqS, decide_eq_true hx]; rfl
            have HN : Hid (pg ss s (k + 1) = (L, false)) := by show pg ss s (k + 1) = _; rw [pg_next HP.out, HA.out]; simp [hx]
            clear hx
            go_wp2_with fail
            replace PU := PU.drew
            have HK := HC.out _ PU.BB
            have HR := PU.cell
            refine wp_region_noPanic ?_
            refine wp_region_held_drew (S := (fun w' => (w'.cell? ⟨bb, off + k * 3, none⟩ = some (.int .i64 (es ss k).1) ∧ w'.cell? ⟨bb, off + k * 3 + 1, none⟩ = some (.int .i64 (es ss k).2.1) ∧ w'.cell? ⟨bb, off + k * 3 + 2, none⟩ = some (.int .i64 (es ss k).2.2)) ∧ (w'.cell? ⟨w.heap.size, 0, none⟩ = some (.int .i64 s.1) ∧ w'.cell? ⟨w.heap.size, 1, none⟩ = some (.int .i64 s.2.1) ∧ w'.cell? ⟨w.heap.size, 2, none⟩ = some (.int .i64 s.2.2)) ∧ Pu w w' s g m c L)) (by kernel_rfl) ⟨HK, HR, PU⟩ (fun hHeld => ?_)
            refine Tk.W 0 (some 33) (.move (.tmp 0)) 32 none ?_
            refine Tk.W 1 (some 34) (.move (.tmp 7)) 3 none ?_
            refine Tk.W 2 (some 35) (.indexAddr 32 (.tmp 33) (.tmp 34)) 0 none ?_
            refine Tk.W 3 (some 36) (.load 125 (.tmp 35)) 125 none ?_
            refine Tk.W 4 (some 37) (.load 125 (.tmp 3)) 125 none ?_
            refine Tk.W 5 (some 38) (.binOp .neq 125 (.tmp 36) (.tmp 37) 125) 4 none ?_
            refine wpAnyH_done (by kernel_rfl) ?_ _
            refine NoPanic.normal ?_
            have PU := hHeld.2.2
            clear hHeld
            go_wp2
            go_roundw
            case rel => exact ⟨k + 1, g, m, c, L, false, by omega, rfl, rfl, by go_num, HN, PU⟩
            case measure => simp [intOf]; omega
          · have hv : ∀ W, (binOp .neq 125 (sl (es ss k)) (sl s)).run Tryz.prog W = .ok (.bool true) W := fun W => by rw [neqS, decide_eq_false hx]; rfl
            have HN : Hid (pg ss s (k + 1) = (L ++ [es ss k], false)) := by show pg ss s (k + 1) = _; rw [pg_next HP.out, HA.out]; simp [hx]
            clear hx
            go_wp2_with fail
            replace PU := PU.drew
            have HK := HC.out _ PU.BB
            have HR := PU.cell
            refine wp_region_noPanic ?_
            refine wp_region_held_drew (S := (fun w' => (w'.cell? ⟨bb, off + k * 3, none⟩ = some (.int .i64 (es ss k).1) ∧ w'.cell? ⟨bb, off + k * 3 + 1, none⟩ = some (.int .i64 (es ss k).2.1) ∧ w'.cell? ⟨bb, off + k * 3 + 2, none⟩ = some (.int .i64 (es ss k).2.2)) ∧ (w'.cell? ⟨w.heap.size, 0, none⟩ = some (.int .i64 s.1) ∧ w'.cell? ⟨w.heap.size, 1, none⟩ = some (.int .i64 s.2.1) ∧ w'.cell? ⟨w.heap.size, 2, none⟩ = some (.int .i64 s.2.2)) ∧ Pu w w' s g m c L)) (by kernel_rfl) ⟨HK, HR, PU⟩ (fun hHeld => ?_)
            refine Tk.W 0 (some 33) (.move (.tmp 0)) 32 none ?_
            refine Tk.W 1 (some 34) (.move (.tmp 7)) 3 none ?_
            refine Tk.W 2 (some 35) (.indexAddr 32 (.tmp 33) (.tmp 34)) 0 none ?_
            refine Tk.W 3 (some 36) (.load 125 (.tmp 35)) 125 none ?_
            refine Tk.W 4 (some 37) (.load 125 (.tmp 3)) 125 none ?_
            refine Tk.W 5 (some 38) (.binOp .neq 125 (.tmp 36) (.tmp 37) 125) 4 none ?_
            refine wpAnyH_done (by kernel_rfl) ?_ _
            refine NoPanic.normal ?_
            have PU := hHeld.2.2
            clear hHeld
            obtain ⟨e0, e1, e2⟩ := HC.out _ PU.BB
            obtain ⟨r0, r1, r2⟩ := PU.cell
            have hz := PU.OS
            have HP1 : Hid (Pu w (wk.drew) s _ _ _ _) := PU
            have hlb := PU.BB.size
            clear PU hz
            go_wp2_with (at_builtin; refine wpList_append_own_at _ rfl (.tmp 39) (.tmp 44) 32 rfl (w.heap.size + 1) 125 i0 (.agg #[.int .i64 0, .int .i64 0, .int .i64 0]) 3 24 Tryz.underlying32 hi hz0 hz1 hz2 rfl (by decide) _ _ _ rfl (World.ownsRow.alloc (w := wk.drew) HP1.out.OS _) ⟨(wk.drew).heap.size, 0, none⟩ 1 1 (fl [(es ss k)]) rfl rfl (Og.one_newS (wk.drew) (es ss k) _ rfl) (Og.fl_one _) (by unfold maxLen; omega) (by omega) (HP1.out.base _) ?_; intro v2 wa9 hx2 hg2 hn2 ha2; obtain ⟨gz, cz, rfl, PU⟩ := HP1.out.app hx2 hg2 (Dg.no_nil hn2 rfl) ha2; clear hx2 hg2 hn2 ha2 HP1 hlb e0 e1 e2 r0 r1 r2)
            go_wp2
            go_roundw
            case rel => exact ⟨k + 1, gz, m + 1, cz, L ++ [es ss k], false, by omega, rfl, rfl, by go_num, HN, PU⟩
            case measure => simp [intOf]; omega
        | false =>
          have HA : Hid (ah (es ss k) s.1 s.2.1 = false) := qa
          clear qa
          go_wp2_with fail
          replace PU := PU.drew
          have HK := HC.out _ PU.BB
          have HR := PU.cell
          refine wp_region_noPanic ?_
          refine wp_region_held_drew (S := (fun w' => (w'.cell? ⟨bb, off + k * 3, none⟩ = some (.int .i64 (es ss k).1) ∧ w'.cell? ⟨bb, off + k * 3 + 1, none⟩ = some (.int .i64 (es ss k).2.1) ∧ w'.cell? ⟨bb, off + k * 3 + 2, none⟩ = some (.int .i64 (es ss k).2.2)) ∧ (w'.cell? ⟨w.heap.size, 0, none⟩ = some (.int .i64 s.1) ∧ w'.cell? ⟨w.heap.size, 1, none⟩ = some (.int .i64 s.2.1) ∧ w'.cell? ⟨w.heap.size, 2, none⟩ = some (.int .i64 s.2.2)) ∧ Pu w w' s g m c L)) (by kernel_rfl) ⟨HK, HR, PU⟩ (fun hHeld => ?_)
          refine Tk.W 0 (some 15) (.move (.tmp 6)) 4 none ?_
          refine Tk.W 1 (some 16) (.unOp .not 4 (.tmp 15)) 4 none ?_
          refine Tk.W 2 (some 17) (.move (.tmp 16)) 4 none ?_
          refine Tk.W 3 (some 18) (.move (.tmp 0)) 32 (some (2, true)) ?_
          refine Tk.W 4 (some 19) (.move (.tmp 7)) 3 (some (2, true)) ?_
          refine Tk.W 5 (some 20) (.indexAddr 32 (.tmp 18) (.tmp 19)) 0 (some (2, true)) ?_
          refine Tk.W 6 (some 21) (.load 125 (.tmp 20)) 125 (some (2, true)) ?_
          refine Tk.W 7 (some 22) (.fieldAddr 125 (.tmp 3) 0) 0 (some (2, true)) ?_
          refine Tk.W 8 (some 23) (.load 2 (.tmp 22)) 2 (some (2, true)) ?_
          refine Tk.W 9 (some 24) (.fieldAddr 125 (.tmp 3) 1) 0 (some (2, true)) ?_
          refine Tk.W 10 (some 25) (.load 2 (.tmp 24)) 2 (some (2, true)) ?_
          refine Tk.R 11 (some 26) (.call ⟨.value (.func 140), #[.tmp 21, .tmp 23, .tmp 25], #[125, 2, 2]⟩) 4 (some (2, true)) (fun K hK => ?_)
          go_simp
          refine (l11Ahead (es ss k) s.1 s.2.1 _).mono ?_
          rintro e wk ⟨rfl, bf1112⟩
          have PU2 := hHeld.2.2.below bf1112
          clear bf1112
          rw [HA.out]
          try dsimp only
          refine hK.out _ _ ⟨HC.out _ PU2.BB, PU2.cell, PU2⟩ ?_; clear hK K hHeld; intro hHeld; try simp only [Act.put, List.setIfInBounds_toArray, List.set_cons_zero, List.set_cons_succ]
          refine Tk.W 12 (some 27) (.unOp .not 4 (.tmp 26)) 4 (some (2, true)) ?_
          refine Tk.W 13 (some 28) (.pick (.tmp 17) (.tmp 27) (.const (.bool false))) 4 none ?_
          refine wpAnyH_done (by kernel_rfl) ?_ _
          refine NoPanic.normal ?_
          have PU := hHeld.2.2
          clear hHeld HK HR
          obtain ⟨e0, e1, e2⟩ := HC.out _ PU.BB
          obtain ⟨r0, r1, r2⟩ := PU.cell
          have hz := PU.OS
          have HP1 : Hid (Pu w (wk) s _ _ _ _) := PU
          have hlb := PU.BB.size
          clear PU hz
          go_wp2_with (at_builtin; refine wpList_append_own_at _ rfl (.tmp 29) (.tmp 31) 32 rfl (w.heap.size + 1) 125 i0 (.agg #[.int .i64 0, .int .i64 0, .int .i64 0]) 3 24 Tryz.underlying32 hi hz0 hz1 hz2 rfl (by decide) _ _ _ rfl (World.ownsRow.alloc (w := wk) HP1.out.OS _) ⟨(wk).heap.size, 0, none⟩ 1 1 (fl [s]) rfl rfl (Og.one_newS (wk) s _ rfl) (Og.fl_one _) (by unfold maxLen; omega) (by omega) (HP1.out.base _) ?_; intro v2 wa12 hx2 hg2 hn2 ha2; obtain ⟨g2, c2, rfl, PU⟩ := HP1.out.app hx2 hg2 (Dg.no_nil hn2 rfl) ha2; clear hx2 hg2 hn2 ha2 HP1 hlb e0 e1 e2 r0 r1 r2)
          replace PU : Pu w _ s g2 (m + 1) c2 (L ++ [s]) := PU
          by_cases hx : es ss k = s
          · have hv : ∀ W, (binOp .neq 125 (sl (es ss k)) (sl s)).run Tryz.prog W = .ok (.bool false) W := fun W => by rw [neqS, decide_eq_true hx]; rfl
            have HN : Hid (pg ss s (k + 1) = ((L ++ [s]), true)) := by show pg ss s (k + 1) = _; rw [pg_next HP.out, HA.out]; simp [hx]
            clear hx
            go_wp2_with fail
            replace PU := PU.drew
            have HK := HC.out _ PU.BB
            have HR := PU.cell
            refine wp_region_noPanic ?_
            refine wp_region_held_drew (S := (fun w' => (w'.cell? ⟨bb, off + k * 3, none⟩ = some (.int .i64 (es ss k).1) ∧ w'.cell? ⟨bb, off + k * 3 + 1, none⟩ = some (.int .i64 (es ss k).2.1) ∧ w'.cell? ⟨bb, off + k * 3 + 2, none⟩ = some (.int .i64 (es ss k).2.2)) ∧ (w'.cell? ⟨w.heap.size, 0, none⟩ = some (.int .i64 s.1) ∧ w'.cell? ⟨w.heap.size, 1, none⟩ = some (.int .i64 s.2.1) ∧ w'.cell? ⟨w.heap.size, 2, none⟩ = some (.int .i64 s.2.2)) ∧ Pu w w' s g2 (m + 1) c2 (L ++ [s]))) (by kernel_rfl) ⟨HK, HR, PU⟩ (fun hHeld => ?_)
            refine Tk.W 0 (some 33) (.move (.tmp 0)) 32 none ?_
            refine Tk.W 1 (some 34) (.move (.tmp 7)) 3 none ?_
            refine Tk.W 2 (some 35) (.indexAddr 32 (.tmp 33) (.tmp 34)) 0 none ?_
            refine Tk.W 3 (some 36) (.load 125 (.tmp 35)) 125 none ?_
            refine Tk.W 4 (some 37) (.load 125 (.tmp 3)) 125 none ?_
            refine Tk.W 5 (some 38) (.binOp .neq 125 (.tmp 36) (.tmp 37) 125) 4 none ?_
            refine wpAnyH_done (by kernel_rfl) ?_ _
            refine NoPanic.normal ?_
            have PU := hHeld.2.2
            clear hHeld
            go_wp2
            go_roundw
            case rel => exact ⟨k + 1, g2, (m + 1), c2, (L ++ [s]), true, by omega, rfl, rfl, by go_num, HN, PU⟩
            case measure => simp [intOf]; omega
          · have hv : ∀ W, (binOp .neq 125 (sl (es ss k)) (sl s)).run Tryz.prog W = .ok (.bool true) W := fun W => by rw [neqS, decide_eq_false hx]; rfl
            have HN : Hid (pg ss s (k + 1) = ((L ++ [s]) ++ [es ss k], true)) := by show pg ss s (k + 1) = _; rw [pg_next HP.out, HA.out]; simp [hx]
            clear hx
            go_wp2_with fail
            replace PU := PU.drew
            have HK := HC.out _ PU.BB
            have HR := PU.cell
            refine wp_region_noPanic ?_
            refine wp_region_held_drew (S := (fun w' => (w'.cell? ⟨bb, off + k * 3, none⟩ = some (.int .i64 (es ss k).1) ∧ w'.cell? ⟨bb, off + k * 3 + 1, none⟩ = some (.int .i64 (es ss k).2.1) ∧ w'.cell? ⟨bb, off + k * 3 + 2, none⟩ = some (.int .i64 (es ss k).2.2)) ∧ (w'.cell? ⟨w.heap.size, 0, none⟩ = some (.int .i64 s.1) ∧ w'.cell? ⟨w.heap.size, 1, none⟩ = some (.int .i64 s.2.1) ∧ w'.cell? ⟨w.heap.size, 2, none⟩ = some (.int .i64 s.2.2)) ∧ Pu w w' s g2 (m + 1) c2 (L ++ [s]))) (by kernel_rfl) ⟨HK, HR, PU⟩ (fun hHeld => ?_)
            refine Tk.W 0 (some 33) (.move (.tmp 0)) 32 none ?_
            refine Tk.W 1 (some 34) (.move (.tmp 7)) 3 none ?_
            refine Tk.W 2 (some 35) (.indexAddr 32 (.tmp 33) (.tmp 34)) 0 none ?_
            refine Tk.W 3 (some 36) (.load 125 (.tmp 35)) 125 none ?_
            refine Tk.W 4 (some 37) (.load 125 (.tmp 3)) 125 none ?_
            refine Tk.W 5 (some 38) (.binOp .neq 125 (.tmp 36) (.tmp 37) 125) 4 none ?_
            refine wpAnyH_done (by kernel_rfl) ?_ _
            refine NoPanic.normal ?_
            have PU := hHeld.2.2
            clear hHeld
            obtain ⟨e0, e1, e2⟩ := HC.out _ PU.BB
            obtain ⟨r0, r1, r2⟩ := PU.cell
            have hz := PU.OS
            have HP1 : Hid (Pu w (wa12.drew) s _ _ _ _) := PU
            have hlb := PU.BB.size
            clear PU hz
            go_wp2_with (at_builtin; refine wpList_append_own_at _ rfl (.tmp 39) (.tmp 44) 32 rfl (w.heap.size + 1) 125 i0 (.agg #[.int .i64 0, .int .i64 0, .int .i64 0]) 3 24 Tryz.underlying32 hi hz0 hz1 hz2 rfl (by decide) _ _ _ rfl (World.ownsRow.alloc (w := wa12.drew) HP1.out.OS _) ⟨(wa12.drew).heap.size, 0, none⟩ 1 1 (fl [(es ss k)]) rfl rfl (Og.one_newS (wa12.drew) (es ss k) _ rfl) (Og.fl_one _) (by unfold maxLen; omega) (by omega) (HP1.out.base _) ?_; intro v2 wa16 hx2 hg2 hn2 ha2; obtain ⟨gz, cz, rfl, PU⟩ := HP1.out.app hx2 hg2 (Dg.no_nil hn2 rfl) ha2; clear hx2 hg2 hn2 ha2 HP1 hlb e0 e1 e2 r0 r1 r2)
            go_wp2
            go_roundw
            case rel => exact ⟨k + 1, gz, (m + 1) + 1, cz, (L ++ [s]) ++ [es ss k], true, by omega, rfl, rfl, by go_num, HN, PU⟩
            case measure => simp [intOf]; omega
    · have hi2 : ¬ (k : Int) < n := by omega
      obtain rfl : k = n := by omega
      have hm2 : m ≤ k + 1 := by cases b <;> simp at hpl <;> omega
      cases b with
      | true =>
        have HE : Hid (put ss s = L ∧ L.length = m) := by refine ⟨?_, hLm⟩; unfold put; rw [hsl, HP.out]; simp
        clear hLm hpl
        go_wp2
        go_ret
        obtain ⟨HE1, HE2⟩ := HE.out
        rw [HE1, HE2]
        exact ⟨⟨g, c, rfl, Og.own_low PU.OS (by omega)⟩, PU.BB⟩
      | false =>
        have HE : Hid (put ss s = L ++ [s] ∧ L.length = m) := by refine ⟨?_, hLm⟩; unfold put; rw [hsl, HP.out]; simp
        clear hLm hpl
        obtain ⟨r0, r1, r2⟩ := PU.cell
        have hz := PU.OS
        have HP1 : Hid (Pu w (wr) s _ _ _ _) := PU
        have hlb := PU.BB.size
        clear PU hz
        go_wp2_with (at_builtin; refine wpList_append_own_at _ rfl (.tmp 48) (.tmp 50) 32 rfl (w.heap.size + 1) 125 i0 (.agg #[.int .i64 0, .int .i64 0, .int .i64 0]) 3 24 Tryz.underlying32 hi hz0 hz1 hz2 rfl (by decide) _ _ _ rfl (World.ownsRow.alloc (w := wr) HP1.out.OS _) ⟨(wr).heap.size, 0, none⟩ 1 1 (fl [s]) rfl rfl (Og.one_newS (wr) s _ rfl) (Og.fl_one _) (by unfold maxLen; omega) (by omega) (HP1.out.base _) ?_; intro v2 wa18 hx2 hg2 hn2 ha2; obtain ⟨g2, c2, rfl, PU⟩ := HP1.out.app hx2 hg2 (Dg.no_nil hn2 rfl) ha2; clear hx2 hg2 hn2 ha2 HP1 hlb r0 r1 r2)
        go_wp2
        go_ret
        obtain ⟨HE1, HE2⟩ := HE.out
        have HL : (put ss s).length = m + 1 := by rw [HE1]; simp [HE2]
        rw [HL, HE1]
        exact ⟨⟨g2, c2, rfl, Og.own_low PU.OS (by omega)⟩, PU.BB⟩

end Go.Proofs.YtimakfokgcnklaaGreat.Mg
