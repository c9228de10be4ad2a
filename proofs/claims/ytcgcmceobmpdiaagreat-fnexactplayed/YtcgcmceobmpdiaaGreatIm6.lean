/-
  impl.eachRowIn, impl.onlyWhere: whether all rows lie within what they may; whether only those are marked that may be.
-/
import Derived.Test.YtcgcmceobmpdiaaGreatSp6b
namespace Go.Proofs.YtcgcmceobmpdiaaGreat.Tu
open Go.ChangeShapes Go.WideShapes Go.ChangeAt Go.RowKit
open Ls (el Row)
open Ow (Has Own ints)
open Rd (Flags)
open Bo (eb HasB)
open Rm (Room)
open Sp (LK span)
open Wl (wld c9 allIn)
open Ss (RowsAt ln rw_ tot ln_tot)
set_option linter.unusedVariables false
set_option linter.unusedSimpArgs false

theorem r1_eq (most : Int) (k : Nat) (zs : List Int) : (((zs.length : Int) == (k : Int)) && allIn (-most) most zs zs.length) = R1 most k zs := by
  unfold R1
  by_cases e : zs.length = k
  · rw [e]; simp
  · have h1 : ((zs.length : Int) == (k : Int)) = false := by rw [beq_eq_false_iff_ne]; omega
    have h2 : (zs.length == k) = false := by rw [beq_eq_false_iff_ne]; exact e
    rw [h1, h2]; rfl

set_option maxHeartbeats 2000000 in
theorem eachRowIn (most : Int) (a : Option Addr) (m cap k : Nat) (zss : List (List Int)) (w : World) (hr : RowsAt w w.heap.size a m zss) (hn : m ≤ 1048576) (ht : tot zss m ≤ 1048576) (hk : k ≤ 1048576) :
    Calls Tryz.prog 65 #[span (-most) most, .slice a m cap, .int .i64 (k : Int)] w fun e w' => e = .returned (.bool (RS most k zss)) ∧ Below w.heap.size w w' := by
  obtain ⟨hz, hrow⟩ := hr
  have B1 := (Below.refl w.heap.size w).alloc (Nat.le_refl _) (.cells #[.int .i64 (-most), .int .i64 most] 74)
  have R0 := Room.new w [.int .i64 (-most), .int .i64 most] 74
  by_cases hm : m = k
  case neg =>
    have h2 : ((m : Int) != (k : Int)) = true := by simp; omega
    have E : Hid (false = RS most k zss) := by
      unfold Hid RS
      have : (zss.length == k) = false := by rw [beq_eq_false_iff_ne]; omega
      rw [this]; rfl
    go_enter Tryz.func65, Tryz.ntmps65
    go_wp2
    go_ret
    exact ⟨Sp.retb E.out, B1⟩
  case pos =>
    subst hm
    have E0 : Hid (RS most m zss = rowsK most m zss m) := by unfold Hid RS; simp [hz]
    go_enter Tryz.func65, Tryz.ntmps65
    go_wp2
    go_loopw [15] (fun i wr => ∃ j : Nat, j ≤ m ∧ i = .int .i64 (j : Int) ∧ Hid (rowsK most m zss j = true ∧ Room wr w.heap.size [.int .i64 (-most), .int .i64 most] ∧ Below w.heap.size w wr)) (fun i _ => m - (intOf i).toNat)
    case atStart => exact ⟨0, Nat.zero_le _, rfl, rfl, R0, B1⟩
    case round =>
      obtain ⟨j, hj, rfl, H⟩ := hrel
      obtain ⟨HT, RX, hB⟩ := H.out
      clear H R0 B1
      by_cases hlt : j < m
      · have hi : (j : Int) < m := by omega
        rcases hrow with hrow | ⟨b, off, rfl, hB1, hc⟩
        · omega
        obtain ⟨ak, ck, hc1, hc2⟩ := hc j hlt
        rw [← hB.cell (p := ⟨b, off + j, none⟩) hB1] at hc1
        have c0 := RX.cell 0 rfl
        have c1 := RX.cell 1 rfl
        have hln := ln_tot zss hlt
        have key := Wl.eachIn (-most) most ak (ln zss j) ck (rw_ zss j) (m : Int) wr ((hc2.later hB (Nat.le_refl _)).more hB.size) (by omega)
        have e1 : (((ln zss j : Int) == (m : Int)) && allIn (-most) most (rw_ zss j) (ln zss j)) = R1 most m (rw_ zss j) := r1_eq most m (rw_ zss j)
        rw [e1] at key
        clear e1
        cases hx : R1 most m (rw_ zss j) with
        | false =>
          have E : Hid (false = RS most m zss) := by unfold Hid; rw [E0.out]; exact (rows_no (k := j) (by rw [rowsK, hx]; simp) m hlt).symm
          go_wp2_with fail
          refine key.mono ?_
          rintro e w2 ⟨rfl, b2⟩
          rw [hx]
          go_wp2
          go_ret
          exact ⟨Sp.retb E.out, hB.trans (b2.mono hB.size)⟩
        | true =>
          have HN : Hid (rowsK most m zss (j + 1) = true) := by unfold Hid; rw [rowsK, hx, HT]; rfl
          go_wp2_with fail
          refine key.mono ?_
          rintro e w2 ⟨rfl, b2⟩
          rw [hx]
          have HM : Hid (rowsK most m zss (j + 1) = true ∧ Room w2 w.heap.size [.int .i64 (-most), .int .i64 most] ∧ Below w.heap.size w w2) := ⟨HN.out, RX.below b2, hB.trans (b2.mono hB.size)⟩
          clear HN HT
          go_wp2
          go_roundw
          case rel => exact ⟨j + 1, by omega, by go_num, HM⟩
          case measure => simp [intOf]; omega
      · have hi : ¬ (j : Int) < m := by omega
        have e : j = m := by omega
        subst e
        go_wp2
        go_ret
        exact ⟨Sp.retb (by rw [E0.out, HT]), hB⟩

/-- Of the first j, only those of this kind are marked. -/
def OW (x : Int) (ks : List Int) (fs : List Bool) : Nat → Bool
  | 0 => true
  | j + 1 => OW x ks fs j && !(eb fs j && (el ks j != x))
theorem ow_no {x : Int} {ks : List Int} {fs : List Bool} {k : Nat} (h : OW x ks fs (k + 1) = false) : ∀ m, k < m → OW x ks fs m = false := by
  intro m hm
  obtain ⟨d, rfl⟩ : ∃ d, m = k + 1 + d := ⟨m - (k + 1), by omega⟩
  clear hm
  induction d with
  | zero => exact h
  | succ d ih => show (OW x ks fs (k + 1 + d) && _) = false; rw [ih]; rfl

set_option maxHeartbeats 2000000 in
theorem onlyWhere (x : Int) (aF aK : Option Addr) (nF cF k cK : Nat) (ks : List Int) (fs : List Bool) (w : World) (rF : Flags w w.heap.size aF nF fs) (rK : Row w w.heap.size aK k ks) (hk : k ≤ 1048576) (hn : nF ≤ 1048576) :
    Calls Tryz.prog 66 #[.int .i64 x, .slice aF nF cF, .slice aK k cK] w fun e w' => e = .returned (.bool ((nF == k) && OW x ks fs k)) ∧ w' = w := by
  obtain ⟨hzf, hrF⟩ := rF
  obtain ⟨hzk, hrK⟩ := rK
  by_cases hm : nF = k
  case neg =>
    have h2 : ((nF : Int) != (k : Int)) = true := by simp; omega
    have E : Hid (false = ((nF == k) && OW x ks fs k)) := by
      unfold Hid
      have : (nF == k) = false := by rw [beq_eq_false_iff_ne]; omega
      rw [this]; rfl
    go_enter Tryz.func66, Tryz.ntmps66
    go_wp2
    go_ret
    exact ⟨Sp.retb E.out, rfl⟩
  case pos =>
    subst hm
    have E0 : Hid (((nF == nF) && OW x ks fs nF) = OW x ks fs nF) := by unfold Hid; simp
    go_enter Tryz.func66, Tryz.ntmps66
    go_wp2
    go_loop [16] (fun i => ∃ j : Nat, j ≤ nF ∧ i = .int .i64 (j : Int) ∧ Hid (OW x ks fs j = true)) (fun i => nF - (intOf i).toNat)
    case atStart => exact ⟨0, Nat.zero_le _, rfl, rfl⟩
    case round =>
      obtain ⟨j, hj, rfl, HT⟩ := hrel
      by_cases hlt : j < nF
      · have hi : (j : Int) < nF := by omega
        rcases hrF with hrF | ⟨bf, of, rfl, hBf, hcf⟩
        · omega
        rcases hrK with hrK | ⟨bk, ok, rfl, hBk, hck⟩
        · omega
        have hcF : w.cell? ⟨bf, of + j, none⟩ = some (.bool (eb fs j)) := hcf j hlt
        have hcK := hck j hlt
        clear hcf hck
        have HS : Hid (OW x ks fs (j + 1) = (OW x ks fs j && !(eb fs j && (el ks j != x)))) := rfl
        cases ef : eb fs j <;> cases e0 : (el ks j != x)
        all_goals
          rw [ef] at hcF
          have HS2 := HS.out
          rw [ef, e0, HT.out] at HS2
          have HS3 : Hid (OW x ks fs (j + 1) = _) := HS2
          clear HS2 HS ef
          first
            | (have E : Hid (false = OW x ks fs nF) := (by unfold Hid; rw [ow_no HS3.out nF hlt]); go_wp2; go_ret; exact ⟨Sp.retb E.out, rfl⟩)
            | (go_wp2 <;> (go_round; (case rel => exact ⟨j + 1, by omega, by go_num, HS3⟩); (case measure => simp [intOf]; omega)))
      · have hi : ¬ (j : Int) < nF := by omega
        have e : j = nF := by omega
        subst e
        go_wp2
        go_ret
        exact ⟨Sp.retb (by first | rw [E0.out, HT.out] | rw [HT.out]), rfl⟩

end Go.Proofs.YtcgcmceobmpdiaaGreat.Tu
