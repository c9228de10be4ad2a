/-
  Keys and seals that are drawn (spec.l9DrawKeys, l9DrawAny, DrawSealRight): new memory.
-/
import Derived.Test.YtimakfokgcnklaaGreatDg
import Derived.Test.YtimakfokgcnklaaGreatSl2
namespace Go.Proofs.YtimakfokgcnklaaGreat.Kd
open Go.ChangeShapes Go.WideShapes Go.ChangeAt Go.RowKit
open Ls (el Row)
open Ow (Has Own ints)
open Dr (Step St)
open Rm (Room)
open Sl (sl c3)
set_option linter.unusedVariables false
set_option linter.unusedSimpArgs false

theorem more {w2 : World} {B k : Nat} {zs : List Int} {x : Int} {v2 : Value} (h : w2.ownsRow B 2 1 v2 (k + 1) (ints zs ++ ints [x])) (hn : v2 ≠ .slice none 0 0) :
    ∃ g2 c2, v2 = .slice (some ⟨g2, 0, none⟩) (k + 1) c2 ∧ Own w2 B g2 (k + 1) c2 (zs ++ [x]) := Ow.own_of h (by simp [ints]) hn

set_option maxHeartbeats 2000000 in
theorem l9DrawKeys (w0 : World) (B p : Nat) (a : Option Addr) (len cap N : Nat) (hN : N ≤ 1000) (w : World) (st : St w0 B p a len cap w) :
    Calls Tryz.prog 41 #[.pointer (some ⟨p, 0, none⟩), .int .i64 N] w fun e w' => (∃ g c, e = .returned (.slice (some ⟨g, 0, none⟩) N c) ∧ ∃ zs, Own w' w.heap.size g N c zs) ∧ St w0 B p a len cap w' ∧ Step p w w' := by
  obtain ⟨i0, hi, hz0, hz1, hz2⟩ := info_parts Ls.info
  have hpl := st.lt
  have hle := st.le
  have hstp := st.step
  go_enter Tryz.func41, Tryz.ntmps41
  go_wp2
  go_loopw [1, 5] (fun q v wr => ∃ (k g c : Nat) (zs : List Int), k ≤ N ∧ q = .int .i64 ((N : Int) - (k : Int)) ∧ v = .slice (some ⟨g, 0, none⟩) k c ∧ Own wr w.heap.size g k c zs ∧ St w B p a len cap wr) (fun q _ _ => (intOf q).toNat)
  case atStart => exact ⟨0, _, _, [], Nat.zero_le _, by simp, rfl, World.ownsRow_made w #[] 0 (Nat.le_refl _) (by unfold maxLen; omega) rfl, st.here.obj _⟩
  case round =>
    obtain ⟨k, g, c, zs, hk, rfl, rfl, ho, sr⟩ := hrel
    have hgB := ho.data.2.1
    have hzl := ho.data.1
    by_cases hlt : k < N
    · have hi' : (0 : Int) < (N : Int) - (k : Int) := by omega
      go_wp2_with fail
      refine (Dr.l1Below' w B p a len cap 1000 (by omega) (by omega) wr sr).mono ?_
      rintro e w1 ⟨⟨x, rfl, x0, x1⟩, sr1, s1⟩
      have HO1 : Hid (Own w1 w.heap.size g k c zs) := Dg.own_step ho s1 (by omega)
      have sz1 : w.heap.size ≤ w1.heap.size := sr1.step.size
      clear ho s1 sr
      go_wp2_with (at_builtin; refine wpList_append_own _ rfl (.tmp 11) (.tmp 15) 26 rfl w.heap.size 2 i0 (.int .i64 0) 1 8 Tryz.underlying26 hi hz0 hz1 hz2 rfl (by decide) _ _ _ rfl (World.ownsRow.alloc (w := w1) HO1.out _) ⟨w1.heap.size, 0, none⟩ 1 1 (ints [1 + x]) rfl rfl (Dg.one_new w1 (1 + x) _ _ rfl) (Ow.one _) (by unfold maxLen; omega) (by omega) (by simp; omega) ?_; intro v2 w2 hx2 hg2 hn2)
      obtain ⟨g2, c2, rfl, ho2⟩ := more hx2 (Dg.no_nil hn2 rfl)
      have sr2 : St w B p a len cap w2 := Dg.dr_grown (g := g) (sr1.obj _) hg2 (by omega) (by omega) hgB
      clear hx2 hg2 hn2 sr1 HO1
      have hg2B := ho2.data.2.1
      go_wp2_with fail
      refine (Dr.l1Once' w B p a len cap 8 (by omega) (by omega) _ sr2).mono ?_
      rintro e w3 ⟨⟨t, rfl⟩, sr3, s3⟩
      have hp2 := sr2.lt
      have ho3 := Dg.own_step ho2 s3 (by omega)
      clear ho2 sr2 s3
      cases t with
      | true =>
        have hc3 := (ho3.cell k (by omega)).1
        have hf3 := (ho3.cell k (by omega)).2
        have ho4 := Dg.own_put ho3 (j := k) (by omega) 1000000000
        have sr4 := sr3.setNew (q := g2) k hg2B (by omega) (by omega) (.int .i64 1000000000)
        have HO4 : Hid (Own (w3.setCell ⟨g2, k, none⟩ (.int .i64 1000000000)) w.heap.size g2 (k + 1) c2 ((zs ++ [1 + x]).set k 1000000000)) := ho4
        clear ho3 ho4
        go_wp2_with fail
        go_roundw
        case rel => exact ⟨k + 1, g2, c2, _, by omega, by go_num, rfl, HO4.out, sr4⟩
        case measure => simp [intOf]; omega
      | false =>
        go_wp2_with fail
        go_roundw
        case rel => exact ⟨k + 1, g2, c2, _, by omega, by go_num, rfl, ho3, sr3⟩
        case measure => simp [intOf]; omega
    · have hi' : ¬ (0 : Int) < (N : Int) - (k : Int) := by omega
      have e : k = N := by omega
      subst e
      go_wp2
      go_ret
      exact ⟨⟨g, c, rfl, zs, ho⟩, ⟨sr.cur, hstp.trans sr.step⟩, sr.step⟩

/-- What is drawn: a slice of the call's own. -/
abbrev KA (w0 : World) (B p : Nat) (a : Option Addr) (len cap : Nat) (w : World) (m : Nat) (e : Ending) (w' : World) : Prop := (∃ g c n, e = .returned (.slice (some ⟨g, 0, none⟩) n c) ∧ (m ≤ n ∧ n ≤ 17) ∧ ∃ zs, Own w' w.heap.size g n c zs) ∧ St w0 B p a len cap w' ∧ Step p w w'

theorem keys' (w0 : World) (B p : Nat) (a : Option Addr) (len cap m : Nat) (v : Int) (h0 : m ≤ v) (h1 : v ≤ 17) (w : World) (st : St w0 B p a len cap w) :
    Calls Tryz.prog 41 #[.pointer (some ⟨p, 0, none⟩), .int .i64 v] w (KA w0 B p a len cap w m) := by
  obtain ⟨N, rfl⟩ := Int.eq_ofNat_of_zero_le (a := v) (by omega)
  refine (l9DrawKeys w0 B p a len cap N (by omega) w st).mono ?_
  rintro e w1 ⟨⟨g, c, rfl, zs, ho⟩, h2, h3⟩
  exact ⟨⟨g, c, N, rfl, by omega, zs, ho⟩, h2, h3⟩

end Go.Proofs.YtimakfokgcnklaaGreat.Kd
