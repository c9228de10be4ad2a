/-
  The Go functions MiddleOf of impl and of spec by one answer, at every list of up to 1048576 int64s and every f.
-/
import Derived.Test.YtnocmfhlmpgbmaaGreatTrim
namespace Go.Proofs.YtnocmfhlmpgbmaaGreat.Tr
open Go.ChangeShapes Go.WideShapes Go.ChangeAt Go.RowKit
open Ad (Tm)
open Ls (el Row)
open Hu (mnK mxK tmK HT)
open Ow (Own Has srt ints)
set_option linter.unusedVariables false

theorem tm_all {zs : List Int} : ∀ n, tmK zs n = true → ∀ k, k < n → Tm (el zs k)
  | 0 => by intro _ k hk; omega
  | n + 1 => by
    intro h k hk
    have h2 : (tmK zs n && decide (Tm (el zs n))) = true := h
    rw [Bool.and_eq_true] at h2
    by_cases e : k = n
    · rw [e]; exact of_decide_eq_true h2.2
    · exact tm_all n h2.1 k (by omega)
theorem tm_mem {zs : List Int} {n : Nat} (hz : zs.length = n) (h : tmK zs n = true) : ∀ x ∈ zs, Tm x := by
  intro x hx
  obtain ⟨k, hk, rfl⟩ := List.mem_iff_getElem.1 hx
  have := tm_all n h k (by omega)
  rw [Ow.el_get hk] at this
  exact this
theorem tl_tm {zs : List Int} {n : Nat} {f : Int} (hz : zs.length = n) (h : TT zs n f = true) : ∀ x ∈ TL zs n f, Tm x := by
  intro x hx
  rw [TL, if_pos h] at hx
  have h3 : tmK zs n = true := by
    unfold TT at h
    rw [Bool.and_eq_true] at h
    exact h.2
  exact tm_mem hz h3 x ((Ow.srt_perm zs).mem_iff.1 (List.mem_of_mem_drop (List.mem_of_mem_take hx)))
theorem tt_dom {zs : List Int} {n : Nat} {f : Int} (h : TT zs n f = true) : n ≤ 16 ∧ 0 ≤ f ∧ 2 * f < n := by
  unfold TT at h
  rw [Bool.and_eq_true] at h
  exact of_decide_eq_true h.1
theorem tl_pos {zs : List Int} {n : Nat} {f : Int} (hz : zs.length = n) (h : TT zs n f = true) : 0 < (TL zs n f).length := by
  have hd := tt_dom h
  obtain ⟨F, rfl⟩ : ∃ F : Nat, f = F := ⟨f.toNat, by omega⟩
  rw [tl_len hz h]; omega
theorem el_tm {ls : List Int} (h : ∀ x ∈ ls, Tm x) {k : Nat} (hk : k < ls.length) : Tm (el ls k) := by
  rw [Ow.el_get hk]; exact h _ (List.getElem_mem hk)

theorem tl_le (zs : List Int) (n : Nat) (f : Int) : (TL zs n f).length ≤ n := by
  unfold TL
  split
  · rw [List.length_take]; omega
  · simp

/-- The first one and the last one that are left, and their middle. -/
def FL (zs : List Int) (n : Nat) (f : Int) : Int := el (TL zs n f) 0 + el (TL zs n f) ((TL zs n f).length - 1)
def MV (zs : List Int) (n : Nat) (f : Int) : Int := if TT zs n f = true then FL zs n f / 2 else 0
theorem mv_no {zs : List Int} {n : Nat} {f : Int} (h : TT zs n f = false) : MV zs n f = 0 := by rw [MV, h]; rfl
theorem mv_yes {zs : List Int} {n : Nat} {f : Int} (h : TT zs n f = true) : MV zs n f = FL zs n f / 2 := by rw [MV, if_pos h]

set_option maxHeartbeats 1000000 in
theorem s_floor (n : Int) (h0 : -9000000000000000000 ≤ n) (h1 : n ≤ 9000000000000000000) (w : World) :
    Calls Tryz.prog 95 #[.int .i64 n, .int .i64 2] w fun e w' => e = .returned (.int .i64 (n / 2)) ∧ w' = w := by
  by_cases hm : n.tmod 2 < 0
  · have e := Ad.floor_t (n := n) (k := 2) (by omega) hm
    have HE : Hid (n.tdiv 2 - 1 = n / 2) := e
    have b0 : -4500000000000000001 ≤ n.tdiv 2 := by omega
    have b1 : n.tdiv 2 ≤ 4500000000000000001 := by omega
    clear e
    go_enter Tryz.func95, Tryz.ntmps95
    go_wp2
    go_ret
    exact ⟨Sp.reti HE.out, rfl⟩
  · have e := Ad.floor_e (n := n) (k := 2) (by omega) hm
    have HE : Hid (n.tdiv 2 = n / 2) := e
    clear e
    go_enter Tryz.func95, Tryz.ntmps95
    go_wp2
    go_ret
    exact ⟨Sp.reti HE.out, rfl⟩

set_option maxHeartbeats 1000000 in
theorem i_MiddleOf (b off n cap : Nat) (f : Int) (zs : List Int) (w : World) (hz : zs.length = n) (hb : b < w.heap.size) (hc : ∀ k, k < n → w.cell? ⟨b, off + k, none⟩ = some (.int .i64 (el zs k))) (hn : n ≤ 1048576) :
    Calls Tryz.prog 72 #[.slice (some ⟨b, off, none⟩) n cap, .int .i64 f] w fun e w' => e = .returned (.tuple #[.int .i64 (MV zs n f), .bool (TT zs n f)]) ∧ Below w.heap.size w w' := by
  have key := i_Trimmed b off n cap f zs w hz hb hc hn
  clear hc
  unfold TR at key
  cases hT : TT zs n f with
  | false =>
    rw [mv_no hT]
    rw [hT] at key
    go_enter Tryz.func72, Tryz.ntmps72
    go_wp2_with fail
    refine key.mono ?_
    rintro e w2 ⟨⟨g, o, c, rfl, hH⟩, hb2⟩
    clear hH
    go_wp2
    go_ret2
    exact ⟨rfl, hb2⟩
  | true =>
    rw [mv_yes hT]
    have hp := tl_pos hz hT
    have hle := tl_le zs n f
    have ht := tl_tm hz hT
    have t0 := el_tm ht hp
    have t1 := el_tm ht (k := (TL zs n f).length - 1) (by omega)
    clear ht
    rw [hT] at key
    unfold FL
    generalize TL zs n f = L at key hp hle t0 t1
    obtain ⟨p, hpL⟩ : ∃ p, Hid (L.length = p + 1) := ⟨L.length - 1, by show _ = _; omega⟩
    rw [hpL.out] at key t1 ⊢
    rw [Nat.add_sub_cancel] at t1 ⊢
    have hpb : (p : Int) < 1048576 := by have := hpL.out; omega
    clear hp hle
    go_enter Tryz.func72, Tryz.ntmps72
    go_wp2_with fail
    refine key.mono ?_
    rintro e w2 ⟨⟨g, o, c, rfl, hH⟩, hb2⟩
    have c0 := hH.2.2.2.1 0 (by omega)
    have c1 := hH.2.2.2.1 p (by omega)
    rw [Nat.add_zero] at c0
    clear hH
    obtain ⟨a0, a1⟩ := t0
    obtain ⟨b0, b1⟩ := t1
    go_wp2
    go_quiet (fail)
    go_wp2
    go_ret2
    exact ⟨rfl, below_drewN hb2 _⟩

set_option maxHeartbeats 1000000 in
theorem s_MiddleOf (b off n cap : Nat) (f : Int) (zs : List Int) (w : World) (hz : zs.length = n) (hb : b < w.heap.size) (hc : ∀ k, k < n → w.cell? ⟨b, off + k, none⟩ = some (.int .i64 (el zs k))) (hn : n ≤ 1048576) :
    Calls Tryz.prog 76 #[.slice (some ⟨b, off, none⟩) n cap, .int .i64 f] w fun e w' => e = .returned (.tuple #[.int .i64 (MV zs n f), .bool (TT zs n f)]) ∧ Below w.heap.size w w' := by
  have key := s_Trimmed b off n cap f zs w hz hb hc hn
  clear hc
  unfold TR at key
  cases hT : TT zs n f with
  | false =>
    rw [mv_no hT]
    rw [hT] at key
    go_enter Tryz.func76, Tryz.ntmps76
    go_wp2_with fail
    refine key.mono ?_
    rintro e w2 ⟨⟨g, o, c, rfl, hH⟩, hb2⟩
    clear hH
    go_wp2
    go_ret2
    exact ⟨rfl, hb2⟩
  | true =>
    rw [mv_yes hT]
    have hp := tl_pos hz hT
    have hle := tl_le zs n f
    have ht := tl_tm hz hT
    have t0 := el_tm ht hp
    have t1 := el_tm ht (k := (TL zs n f).length - 1) (by omega)
    clear ht
    rw [hT] at key
    unfold FL
    generalize TL zs n f = L at key hp hle t0 t1
    obtain ⟨p, hpL⟩ : ∃ p, Hid (L.length = p + 1) := ⟨L.length - 1, by show _ = _; omega⟩
    rw [hpL.out] at key t1 ⊢
    rw [Nat.add_sub_cancel] at t1 ⊢
    have hpb : (p : Int) < 1048576 := by have := hpL.out; omega
    clear hp hle
    go_enter Tryz.func76, Tryz.ntmps76
    go_wp2_with fail
    refine key.mono ?_
    rintro e w2 ⟨⟨g, o, c, rfl, hH⟩, hb2⟩
    have c0 := hH.2.2.2.1 0 (by omega)
    have c1 := hH.2.2.2.1 p (by omega)
    rw [Nat.add_zero] at c0
    clear hH
    obtain ⟨a0, a1⟩ := t0
    obtain ⟨b0, b1⟩ := t1
    go_wp2
    go_quiet (first | (go_at_call 95; refine Calls.quiet_of_same (s_floor (el L 0 + el L p) (by omega) (by omega) _)))
    go_wp2
    go_ret2
    exact ⟨rfl, below_drewN hb2 _⟩

end Go.Proofs.YtnocmfhlmpgbmaaGreat.Tr
