/-
  A world drawn, right or not (spec.l5DrawAny): its offs are new memory; nothing that was there is written but the cursor.
-/
import Derived.Test.YtloicicgcdfgnaaD5
import Derived.Test.YtloicicgcdfgnaaTk
namespace Go.Proofs.Ytloicicgcdfgnaa.Dr
open Go.ChangeShapes Go.WideShapes Go.ChangeAt Go.RowKit
open Ls (el Row)
open Ow (Has Own ints)
open Wl (KL bad z9 c9 wld WO)
open Cf (cfg CP)
set_option linter.unusedVariables false
set_option linter.unusedSimpArgs false

theorem l5Draw' (w0 : World) (B p : Nat) (a : Option Addr) (len cap : Nat) (w : World) (st : St w0 B p a len cap w) :
    Calls Try.prog 116 #[.pointer (some ⟨p, 0, none⟩)] w fun e w' => (∃ (n l d r q s : Int) (k gK cK gO cO : Nat), e = .returned (wld n l d r q s (.slice (some ⟨gK, 0, none⟩) k cK) (.slice (some ⟨gO, 0, none⟩) k cO) 0) ∧ Hid (Drawn5 w.heap.size w' n l d r q s k gK cK gO cO)) ∧ St w0 B p a len cap w' ∧ Step p w w' := l5Draw w0 B p a len cap w st

theorem l4DrawAny' (w0 : World) (B p : Nat) (a : Option Addr) (len cap : Nat) (w : World) (st : St w0 B p a len cap w) :
    Calls Try.prog 118 #[.pointer (some ⟨p, 0, none⟩)] w fun e w' => (∃ n l d r q s : Int, e = .returned (cfg n l d r q s)) ∧ St w0 B p a len cap w' ∧ Step p w w' :=
  (l4DrawAny w B p a len cap w st.here).mono fun e w' ⟨h, s⟩ => ⟨h, St.on st.step s, s.step⟩

def GM (w : World) (B p : Nat) (a : Option Addr) (len cap X k gK m gO cO : Nat) (w' : World) : Prop :=
  St w B p a len cap w' ∧ Rm.Room w' w.heap.size z9 ∧ (∃ ks, Has w' w.heap.size gK 0 k ks) ∧ (∃ os, Own w' w.heap.size gO m cO os)
def GN (w : World) (X k gK m gO : Nat) : Prop := 0 < k ∧ k ≤ 17 ∧ 0 < m ∧ m ≤ 17 ∧ gK ≠ gO ∧ X ≠ gK ∧ X ≠ gO ∧ w.heap.size < X ∧ w.heap.size < gK ∧ w.heap.size < gO
section
variable {w W w' : World} {B p : Nat} {a : Option Addr} {len cap X k gK m gO cO : Nat}
theorem GM.step (h : GM w B p a len cap X k gK m gO cO W) (st : St w B p a len cap w') (s : Step p W w') (hp : p < w.heap.size) (hn : GN w X k gK m gO) : GM w B p a len cap X k gK m gO cO w' := by
  obtain ⟨h1, h2, ⟨ks, h3⟩, ⟨os, h4⟩⟩ := h
  have q := hn.2.2.2.2.2.2.2
  exact ⟨st, room_step h2 s (by omega), ⟨ks, has_step h3 s (by omega)⟩, ⟨os, own_step h4 s (by omega)⟩⟩
theorem GM.below (h : GM w B p a len cap X k gK m gO cO W) (hb : Below W.heap.size W w') : GM w B p a len cap X k gK m gO cO w' := by
  obtain ⟨h1, h2, ⟨ks, h3⟩, ⟨os, h4⟩⟩ := h
  exact ⟨h1.below hb, h2.below hb, ⟨ks, h3.later hb h3.2.2.1⟩, ⟨os, h4.later hb h4.lt⟩⟩
theorem GM.store (h : GM w B p a len cap X k gK m gO cO W) (hn : GN w X k gK m gO) (hp : p < w.heap.size) (hB : B ≤ p) (i : Nat) (v : Value) : GM w B p a len cap X k gK m gO cO (W.setCell ⟨X, i, none⟩ v) := by
  obtain ⟨h1, h2, ⟨ks, h3⟩, ⟨os, h4⟩⟩ := h
  obtain ⟨-, -, -, -, -, q2, q3, q4, q5, q6⟩ := hn
  exact ⟨h1.setNew (q := X) i (by omega) (by omega) (by omega) v, h2.setOther (by omega) i v, ⟨ks, h3.setOther (by omega) i v⟩, ⟨os, h4.setOther (by omega) i v⟩⟩
end
def Lit4 (w : World) (g : Nat) : Prop := g < w.heap.size ∧ ∀ j, j < 4 → ∃ v : Int, w.cell? ⟨g, j, none⟩ = some (.int .i64 v)
theorem lit4 (w : World) (a b c d : Int) (t : TypeId) : Lit4 (w.alloc (.cells #[.int .i64 a, .int .i64 b, .int .i64 c, .int .i64 d] t)) w.heap.size := by
  refine ⟨by simp, fun j hj => ?_⟩
  rw [World.cell?_alloc_new]
  rcases (show j = 0 ∨ j = 1 ∨ j = 2 ∨ j = 3 by omega) with rfl | rfl | rfl | rfl
  all_goals exact ⟨_, rfl⟩
theorem Lit4.step {p : Nat} {w w' : World} {g : Nat} (h : Lit4 w g) (s : Step p w w') (hn : g ≠ p) : Lit4 w' g :=
  ⟨Nat.lt_of_lt_of_le h.1 s.size, fun j hj => by
    obtain ⟨v, hv⟩ := h.2 j hj
    exact ⟨v, by rw [s.cell h.1 hn]; exact hv⟩⟩
def Drawn6 (B0 : Nat) (w : World) (n l d r q s t : Int) (k gK cK m gO cO : Nat) : Prop := (∃ ks os, Has w B0 gK 0 k ks ∧ Own w B0 gO m cO os) ∧ 0 < m ∧ m ≤ 17 ∧ k ≤ 17

set_option maxHeartbeats 16000000 in
set_option maxRecDepth 100000 in
theorem l5DrawAny (w0 : World) (B p : Nat) (a : Option Addr) (len cap : Nat) (w : World) (st : St w0 B p a len cap w) :
    Calls Try.prog 74 #[.pointer (some ⟨p, 0, none⟩)] w fun e w' => (∃ (n l d r q s t : Int) (k gK cK m gO cO : Nat), e = .returned (wld n l d r q s (.slice (some ⟨gK, 0, none⟩) k cK) (.slice (some ⟨gO, 0, none⟩) m cO) t) ∧ Hid (Drawn6 w.heap.size w' n l d r q s t k gK cK m gO cO)) ∧ St w0 B p a len cap w' ∧ Step p w w' := by
  have hp := st.lt
  have hB := st.le
  have hst := st.step
  obtain ⟨i0, hi0, hz0, hz1, hz2⟩ := info_parts Ls.info
  have stA := st.here.obj (.cells z9.toArray 31)
  have RR := Rm.Room.new w z9 31
  go_enter Try.func74, Try.ntmps74
  go_wp2_with fail
  refine (l5Draw w B p a len cap _ stA).mono ?_
  rintro e w1 ⟨⟨n, l, d, r, q, s, k, gK, cK, gO, cO, rfl, HD⟩, st1, s1⟩
  obtain ⟨⟨ks, os, pK, pO⟩, k0, k1, nKO, -, -, -⟩ := HD.out
  clear HD stA
  have z1 := s1.size
  simp at z1
  replace RR := room_step RR s1 (by omega)
  clear s1
  have loK := pK.2.1
  have loO := pO.data.2.1
  simp at loK loO
  have hiK := pK.2.2.1
  have hiO := pO.lt
  have b1 := (Below.refl w1.heap.size w1).alloc (Nat.le_refl _) (.cells (c9 n l d r q s (.slice (some ⟨gK, 0, none⟩) k cK) (.slice (some ⟨gO, 0, none⟩) k cO) 0).toArray 31)
  have RX := Rm.Room.new w1 (c9 n l d r q s (.slice (some ⟨gK, 0, none⟩) k cK) (.slice (some ⟨gO, 0, none⟩) k cO) 0) 31
  have q0 : GM w B p a len cap w1.heap.size k gK k gO cO _ := GM.below ⟨st1, RR, ⟨ks, pK.mono (by simp)⟩, ⟨os, pO.mono (by simp)⟩⟩ b1
  have hn : GN w w1.heap.size k gK k gO := ⟨by omega, by omega, by omega, by omega, by omega, by omega, by omega, by omega, by omega, by omega⟩
  clear b1 RR pK pO st1
  go_wp2_with fail
  refine (l1Once' w B p a len cap 8 (by omega) (by omega) _ q0.1).mono ?_
  rintro e w2 ⟨⟨t, rfl⟩, st2, s2⟩
  replace q0 := q0.step st2 s2 hp hn
  replace RX := room_step RX s2 (by omega)
  clear st2 s2
  obtain ⟨X, hX⟩ : ∃ X, X = w1.heap.size := ⟨_, rfl⟩
  rw [← hX] at RX q0 hn ⊢
  clear hX z1 hiK hiO
  obtain ⟨m, hmk⟩ : ∃ m, m = k := ⟨_, rfl⟩
  have c6 := RX.cell 6 rfl
  go_upto_if 8 with fail
  go_cut [3] from 5 (fun p3 wc => ∃ (n l d r q s t : Int) (k gK cK m gO cO : Nat), p3 = .pointer (some ⟨X, 0, none⟩) ∧ Hid (Rm.Room wc X (c9 n l d r q s (.slice (some ⟨gK, 0, none⟩) k cK) (.slice (some ⟨gO, 0, none⟩) m cO) t) ∧ GM w B p a len cap X k gK m gO cO wc ∧ GN w X k gK m gO))
  case first =>
    cases t with
    | false =>
      go_wp2_with fail
      go_meet
      case rel => exact ⟨n, l, d, r, q, s, 0, k, gK, cK, k, gO, cO, rfl, RX, q0, hn⟩
    | true =>
      have hkk := hn.1
      have hk17 := hn.2.1
      go_wp2_with fail
      refine (l1Below' w B p a len cap k (by omega) (by omega) _ q0.1).mono ?_
      rintro e w3 ⟨⟨i, rfl, i0_, i1_⟩, st3, s3⟩
      obtain ⟨ii, rfl⟩ : ∃ ii : Nat, i = ii := ⟨i.toNat, by omega⟩
      replace q0 := q0.step st3 s3 hp hn
      replace RX := room_step RX s3 (by have := hn.2.2.2.2.2.2.2.1; omega)
      clear st3 s3 c6
      go_wp2_with fail
      refine (l1Below' w B p a len cap 5 (by omega) (by omega) _ q0.1).mono ?_
      rintro e w4 ⟨⟨y, rfl, y0, y1⟩, st4, s4⟩
      replace q0 := q0.step st4 s4 hp hn
      replace RX := room_step RX s4 (by have := hn.2.2.2.2.2.2.2.1; omega)
      clear st4 s4
      have hXp : X ≠ p := by have := hn.2.2.2.2.2.2.2.1; omega
      have hii : ii < k := by omega
      by_cases h0 : y = 0
      · subst h0
        go_wp2_with fail
        refine (l4DrawAny' w B p a len cap _ q0.1).mono ?_
        rintro e w5 ⟨⟨n2, l2, d2, r2, q2, s2, rfl⟩, st5, s5⟩
        replace q0 := q0.step st5 s5 hp hn
        replace RX := room_step RX s5 hXp
        clear st5 s5
        have f0 := RX.froz 0 rfl
        have f1 := RX.froz 1 rfl
        have f2 := RX.froz 2 rfl
        have f3 := RX.froz 3 rfl
        have f4 := RX.froz 4 rfl
        have f5 := RX.froz 5 rfl
        have e0 := RX.cell 0 rfl
        have e1 := RX.cell 1 rfl
        have e2 := RX.cell 2 rfl
        have e3 := RX.cell 3 rfl
        have e4 := RX.cell 4 rfl
        have e5 := RX.cell 5 rfl
        have q6 := ((((((q0.store hn hp hB 0 (.int .i64 n2)).store hn hp hB 1 (.int .i64 l2)).store hn hp hB 2 (.int .i64 d2)).store hn hp hB 3 (.int .i64 r2)).store hn hp hB 4 (.int .i64 q2)).store hn hp hB 5 (.int .i64 s2))
        have RX6 := ((((((RX.set 0 (.int .i64 n2)).set 1 (.int .i64 l2)).set 2 (.int .i64 d2)).set 3 (.int .i64 r2)).set 4 (.int .i64 q2)).set 5 (.int .i64 s2))
        go_wp2_with fail
        go_meet
        case rel => exact ⟨n2, l2, d2, r2, q2, s2, 0, k, gK, cK, k, gO, cO, rfl, RX6, q6, hn⟩
      · have n0 : (y == 0) = false := by simp; omega
        by_cases h1 : y = 1
        · subst h1
          go_wp2_with fail
          refine wp_region_noPanic ?_
          refine wp_region_held_drew (S := (fun w' => w'.cell? ⟨X, 0, none⟩ = some (.int .i64 n) ∧ w'.cell? ⟨X, 1, none⟩ = some (.int .i64 l) ∧ w'.cell? ⟨X, 2, none⟩ = some (.int .i64 d) ∧ w'.cell? ⟨X, 3, none⟩ = some (.int .i64 r) ∧ w'.cell? ⟨X, 4, none⟩ = some (.int .i64 q) ∧ w'.cell? ⟨X, 5, none⟩ = some (.int .i64 s) ∧ w'.cell? ⟨X, 6, none⟩ = some (.slice (some ⟨gK, 0, none⟩) k cK) ∧ w'.cell? ⟨X, 7, none⟩ = some (.slice (some ⟨gO, 0, none⟩) k cO) ∧ w'.cell? ⟨X, 8, none⟩ = some (.int .i64 0) ∧ Hid (Rm.Room w' X (c9 n l d r q s (.slice (some ⟨gK, 0, none⟩) k cK) (.slice (some ⟨gO, 0, none⟩) k cO) 0) ∧ GM w B p a len cap X k gK k gO cO w'))) (by kernel_rfl) ⟨RX.drew.cell 0 rfl, RX.drew.cell 1 rfl, RX.drew.cell 2 rfl, RX.drew.cell 3 rfl, RX.drew.cell 4 rfl, RX.drew.cell 5 rfl, RX.drew.cell 6 rfl, RX.drew.cell 7 rfl, RX.drew.cell 8 rfl, ⟨RX.drew, (q0.below (Below.refl _ _).drew)⟩⟩ (fun hHeld => ?_)
          refine Tk.W 0 (some 23) (.fieldAddr 31 (.tmp 3) 1) 0 none ?_
          refine Tk.W 1 (some 24) (.load 29 (.tmp 23)) 29 none ?_
          refine Tk.W 2 (some 25) (.move (.tmp 4)) 2 none ?_
          refine Tk.W 3 (some 26) (.move (.tmp 0)) 89 none ?_
          refine Tk.R 4 (some 27) (.call ⟨.value (.func 119), #[.tmp 26, .const (.int .i64 (-1)), .const (.int .i64 3)], #[89, 2, 2]⟩) 2 none (fun K hK => ?_)
          go_simp
          refine (l1From' w B p a len cap (-1) 3 (by omega) (by omega) (by omega) _ hHeld.2.2.2.2.2.2.2.2.2.out.2.1).mono ?_
          rintro e w5 ⟨⟨yA, rfl, yA0, yA1⟩, stk5, sk5⟩
          have RXk5 := room_step hHeld.2.2.2.2.2.2.2.2.2.out.1 sk5 hXp
          have qk5 := hHeld.2.2.2.2.2.2.2.2.2.out.2.step stk5 sk5 hp hn
          have kvk5 := Tk.kv hK (w := w5) ⟨RXk5.cell 0 rfl, RXk5.cell 1 rfl, RXk5.cell 2 rfl, RXk5.cell 3 rfl, RXk5.cell 4 rfl, RXk5.cell 5 rfl, RXk5.cell 6 rfl, RXk5.cell 7 rfl, RXk5.cell 8 rfl, ⟨RXk5, qk5⟩⟩
          clear RXk5 qk5 stk5 sk5
          try dsimp only
          refine hK.out _ _ kvk5 ?_; clear hK K hHeld; intro hHeld; try simp only [Act.put, List.setIfInBounds_toArray, List.set_cons_zero, List.set_cons_succ]
          refine Tk.W 5 (some 28) (.indexAddr 29 (.tmp 24) (.tmp 25)) 0 none ?_
          refine Tk.R 6 none (.store 2 (.tmp 28) (.tmp 27)) 0 none (fun K hK => ?_)
          obtain ⟨gs1, gs2, ⟨ks, pK⟩, ⟨os, pO⟩⟩ := hHeld.2.2.2.2.2.2.2.2.2.out.2
          have RXs := hHeld.2.2.2.2.2.2.2.2.2.out.1
          have hck := pK.2.2.2.1 ii hii
          have hfk := pK.2.2.2.2 ii hii
          rw [Nat.zero_add] at hck hfk
          have hi3 : (ii : Int) < k := by omega
          obtain ⟨h1_, h2_, h3_, h4_, g1, g2, g3, g4, g5, g6⟩ := id hn
          go_simp
          have pK3 := has_put pK (j := ii) hii yA
          rw [Nat.zero_add] at pK3
          have RX7 := RXs.setOther (q := gK) (by omega) ii (.int .i64 yA)
          have q7 : GM w B p a len cap X k gK k gO cO _ := ⟨gs1.setNew (q := gK) ii (by omega) (by omega) (by omega) (.int .i64 yA), gs2.setOther (q := gK) (by omega) ii (.int .i64 yA), ⟨_, pK3⟩, ⟨_, pO.setOther (q := gK) (by omega) ii (.int .i64 yA)⟩⟩
          have kvk7 := Tk.kv hK (w := _) ⟨RX7.cell 0 rfl, RX7.cell 1 rfl, RX7.cell 2 rfl, RX7.cell 3 rfl, RX7.cell 4 rfl, RX7.cell 5 rfl, RX7.cell 6 rfl, RX7.cell 7 rfl, RX7.cell 8 rfl, ⟨RX7, q7⟩⟩
          clear pK3 RX7 q7 RXs pK pO gs1 gs2 hck hfk
          try dsimp only
          refine hK.out _ _ kvk7 ?_; clear hK K hHeld; intro hHeld; try simp only [Act.put, List.setIfInBounds_toArray, List.set_cons_zero, List.set_cons_succ]
          refine wpAnyH_done (by kernel_rfl) ?_ _
          refine NoPanic.normal ?_
          obtain ⟨RX9, q9⟩ := hHeld.2.2.2.2.2.2.2.2.2.out
          clear hHeld
          go_wp2_with fail
          go_meet
          case rel => exact ⟨n, l, d, r, q, s, 0, k, gK, cK, k, gO, cO, rfl, RX9, q9, hn⟩
        · have n1 : (y == 1) = false := by simp; omega
          by_cases h2 : y = 2
          · subst h2
            go_wp2_with fail
            refine wp_region_noPanic ?_
            refine wp_region_held_drew (S := (fun w' => w'.cell? ⟨X, 0, none⟩ = some (.int .i64 n) ∧ w'.cell? ⟨X, 1, none⟩ = some (.int .i64 l) ∧ w'.cell? ⟨X, 2, none⟩ = some (.int .i64 d) ∧ w'.cell? ⟨X, 3, none⟩ = some (.int .i64 r) ∧ w'.cell? ⟨X, 4, none⟩ = some (.int .i64 q) ∧ w'.cell? ⟨X, 5, none⟩ = some (.int .i64 s) ∧ w'.cell? ⟨X, 6, none⟩ = some (.slice (some ⟨gK, 0, none⟩) k cK) ∧ w'.cell? ⟨X, 7, none⟩ = some (.slice (some ⟨gO, 0, none⟩) k cO) ∧ w'.cell? ⟨X, 8, none⟩ = some (.int .i64 0) ∧ Hid (Rm.Room w' X (c9 n l d r q s (.slice (some ⟨gK, 0, none⟩) k cK) (.slice (some ⟨gO, 0, none⟩) k cO) 0) ∧ GM w B p a len cap X k gK k gO cO w'))) (by kernel_rfl) ⟨RX.drew.cell 0 rfl, RX.drew.cell 1 rfl, RX.drew.cell 2 rfl, RX.drew.cell 3 rfl, RX.drew.cell 4 rfl, RX.drew.cell 5 rfl, RX.drew.cell 6 rfl, RX.drew.cell 7 rfl, RX.drew.cell 8 rfl, ⟨RX.drew, (q0.below (Below.refl _ _).drew)⟩⟩ (fun hHeld => ?_)
            refine Tk.W 0 (some 31) (.fieldAddr 31 (.tmp 3) 2) 0 none ?_
            refine Tk.W 1 (some 32) (.load 29 (.tmp 31)) 29 none ?_
            refine Tk.W 2 (some 33) (.move (.tmp 4)) 2 none ?_
            refine Tk.W 3 (some 34) (.move (.tmp 0)) 89 none ?_
            refine Tk.W 6 (some 37) (.move (.tmp 0)) 89 none ?_
            refine Tk.R 4 (some 35) (.call ⟨.value (.func 120), #[.tmp 34], #[89]⟩) 2 none (fun K hK => ?_)
            go_simp
            refine (l1Odd' w B p a len cap _ hHeld.2.2.2.2.2.2.2.2.2.out.2.1).mono ?_
            rintro e w5 ⟨⟨yO, rfl, yO0, yO1⟩, sto6, so6⟩
            have RXo6 := room_step hHeld.2.2.2.2.2.2.2.2.2.out.1 so6 hXp
            have qo6 := hHeld.2.2.2.2.2.2.2.2.2.out.2.step sto6 so6 hp hn
            have kvo6 := Tk.kv hK (w := w5) ⟨RXo6.cell 0 rfl, RXo6.cell 1 rfl, RXo6.cell 2 rfl, RXo6.cell 3 rfl, RXo6.cell 4 rfl, RXo6.cell 5 rfl, RXo6.cell 6 rfl, RXo6.cell 7 rfl, RXo6.cell 8 rfl, ⟨RXo6, qo6⟩⟩
            clear RXo6 qo6 sto6
            clear so6
            try dsimp only
            refine hK.out _ _ kvo6 ?_; clear hK K hHeld; intro hHeld; try simp only [Act.put, List.setIfInBounds_toArray, List.set_cons_zero, List.set_cons_succ]
            refine wpAnyH_ready (rs := [5, 7]) (by kernel_rfl) (by simp) ?_
            refine (AllReadyH.cons (o := ⟨some 36, .buildSlice 29 4 #[(0, .const (.int .i64 1000000000000000)), (1, .const (.int .i64 1000000000000001)), (2, .const (.int .i64 (-1000000000000001))), (3, .tmp 35)], 29, _, _, none⟩) rfl (fun K hK => ?_) (AllReadyH.cons (o := ⟨some 38, .call ⟨.value (.func 117), #[.tmp 37, .const (.int .i64 4)], #[89, 2]⟩, 2, _, _, none⟩) rfl (fun K hK => ?_) AllReadyH.nil))
            · go_simp
              have bo7 := (Below.refl w5.heap.size w5).alloc (Nat.le_refl _) (.cells #[.int .i64 1000000000000000, .int .i64 1000000000000001, .int .i64 (-1000000000000001), .int .i64 yO] 2)
              have hl := lit4 w5 1000000000000000 1000000000000001 (-1000000000000001) yO 2
              have lp : p < w5.heap.size := hHeld.2.2.2.2.2.2.2.2.2.out.2.1.lt
              have RXo7 := hHeld.2.2.2.2.2.2.2.2.2.out.1.below bo7
              have qo7 := hHeld.2.2.2.2.2.2.2.2.2.out.2.below bo7
              have kvo7 := Tk.kv hK (w := _) ⟨RXo7.cell 0 rfl, RXo7.cell 1 rfl, RXo7.cell 2 rfl, RXo7.cell 3 rfl, RXo7.cell 4 rfl, RXo7.cell 5 rfl, RXo7.cell 6 rfl, RXo7.cell 7 rfl, RXo7.cell 8 rfl, ⟨RXo7, qo7⟩⟩
              clear RXo7 qo7 bo7
              generalize w5.alloc (.cells #[.int .i64 1000000000000000, .int .i64 1000000000000001, .int .i64 (-1000000000000001), .int .i64 yO] 2) = wD at kvo7 hl ⊢
              generalize w5.heap.size = gl at hl lp ⊢
              try dsimp only
              refine hK.out _ _ kvo7 ?_; clear hK K hHeld; intro hHeld; try simp only [Act.put, List.setIfInBounds_toArray, List.set_cons_zero, List.set_cons_succ]
              refine Tk.R 7 (some 38) (.call ⟨.value (.func 117), #[.tmp 37, .const (.int .i64 4)], #[89, 2]⟩) 2 none (fun K hK => ?_)
              go_simp
              refine (l1Below' w B p a len cap 4 (by omega) (by omega) _ hHeld.2.2.2.2.2.2.2.2.2.out.2.1).mono ?_
              rintro e w6 ⟨⟨yB, rfl, yB0, yB1⟩, sto8, so8⟩
              have RXo8 := room_step hHeld.2.2.2.2.2.2.2.2.2.out.1 so8 hXp
              have qo8 := hHeld.2.2.2.2.2.2.2.2.2.out.2.step sto8 so8 hp hn
              have kvo8 := Tk.kv hK (w := w6) ⟨RXo8.cell 0 rfl, RXo8.cell 1 rfl, RXo8.cell 2 rfl, RXo8.cell 3 rfl, RXo8.cell 4 rfl, RXo8.cell 5 rfl, RXo8.cell 6 rfl, RXo8.cell 7 rfl, RXo8.cell 8 rfl, ⟨RXo8, qo8⟩⟩
              clear RXo8 qo8 sto8
              replace hl := hl.step so8 (by omega)
              obtain ⟨jj, rfl⟩ := Int.eq_ofNat_of_zero_le yB0
              have hjj : jj < 4 := by omega
              obtain ⟨vv, hvv⟩ := hl.2 jj hjj
              clear hl
              clear so8
              try dsimp only
              refine hK.out _ _ kvo8 ?_; clear hK K hHeld; intro hHeld; try simp only [Act.put, List.setIfInBounds_toArray, List.set_cons_zero, List.set_cons_succ]
              refine Tk.W 8 (some 39) (.indexAddr 29 (.tmp 36) (.tmp 38)) 0 none ?_
              refine Tk.R 9 (some 40) (.load 2 (.tmp 39)) 2 none (fun K hK => ?_)
              go_simp
              try dsimp only
              refine hK.out _ _ hHeld ?_; clear hK K hHeld; intro hHeld; try simp only [Act.put, List.setIfInBounds_toArray, List.set_cons_zero, List.set_cons_succ]
              refine Tk.W 10 (some 41) (.indexAddr 29 (.tmp 32) (.tmp 33)) 0 none ?_
              refine Tk.R 11 none (.store 2 (.tmp 41) (.tmp 40)) 0 none (fun K hK => ?_)
              obtain ⟨gs1, gs2, ⟨ks, pK⟩, ⟨os, pO⟩⟩ := hHeld.2.2.2.2.2.2.2.2.2.out.2
              have RXs := hHeld.2.2.2.2.2.2.2.2.2.out.1
              have hck := (pO.cell ii hii).1
              have hfk := (pO.cell ii hii).2
              have hi3 : (ii : Int) < k := by omega
              obtain ⟨h1_, h2_, h3_, h4_, g1, g2, g3, g4, g5, g6⟩ := id hn
              go_simp
              have pO3 := own_put pO (j := ii) hii vv
              have RX7 := RXs.setOther (q := gO) (by omega) ii (.int .i64 vv)
              have q7 : GM w B p a len cap X k gK k gO cO _ := ⟨gs1.setNew (q := gO) ii (by omega) (by omega) (by omega) (.int .i64 vv), gs2.setOther (q := gO) (by omega) ii (.int .i64 vv), ⟨_, pK.setOther (q := gO) (by omega) ii (.int .i64 vv)⟩, ⟨_, pO3⟩⟩
              have kvo12 := Tk.kv hK (w := _) ⟨RX7.cell 0 rfl, RX7.cell 1 rfl, RX7.cell 2 rfl, RX7.cell 3 rfl, RX7.cell 4 rfl, RX7.cell 5 rfl, RX7.cell 6 rfl, RX7.cell 7 rfl, RX7.cell 8 rfl, ⟨RX7, q7⟩⟩
              clear pO3 RX7 q7 RXs pK pO gs1 gs2 hck hfk
              try dsimp only
              refine hK.out _ _ kvo12 ?_; clear hK K hHeld; intro hHeld; try simp only [Act.put, List.setIfInBounds_toArray, List.set_cons_zero, List.set_cons_succ]
              refine wpAnyH_done (by kernel_rfl) ?_ _
              refine NoPanic.normal ?_
              obtain ⟨RX9, q9⟩ := hHeld.2.2.2.2.2.2.2.2.2.out
              clear hHeld
              go_wp2_with fail
              go_meet
              case rel => exact ⟨n, l, d, r, q, s, 0, k, gK, cK, k, gO, cO, rfl, RX9, q9, hn⟩
            · go_simp
              refine (l1Below' w B p a len cap 4 (by omega) (by omega) _ hHeld.2.2.2.2.2.2.2.2.2.out.2.1).mono ?_
              rintro e w6 ⟨⟨yB, rfl, yB0, yB1⟩, sto13, so13⟩
              have RXo13 := room_step hHeld.2.2.2.2.2.2.2.2.2.out.1 so13 hXp
              have qo13 := hHeld.2.2.2.2.2.2.2.2.2.out.2.step sto13 so13 hp hn
              have kvo13 := Tk.kv hK (w := w6) ⟨RXo13.cell 0 rfl, RXo13.cell 1 rfl, RXo13.cell 2 rfl, RXo13.cell 3 rfl, RXo13.cell 4 rfl, RXo13.cell 5 rfl, RXo13.cell 6 rfl, RXo13.cell 7 rfl, RXo13.cell 8 rfl, ⟨RXo13, qo13⟩⟩
              clear RXo13 qo13 sto13
              clear so13
              try dsimp only
              refine hK.out _ _ kvo13 ?_; clear hK K hHeld; intro hHeld; try simp only [Act.put, List.setIfInBounds_toArray, List.set_cons_zero, List.set_cons_succ]
              refine Tk.R 5 (some 36) (.buildSlice 29 4 #[(0, .const (.int .i64 1000000000000000)), (1, .const (.int .i64 1000000000000001)), (2, .const (.int .i64 (-1000000000000001))), (3, .tmp 35)]) 29 none (fun K hK => ?_)
              go_simp
              have bo14 := (Below.refl w6.heap.size w6).alloc (Nat.le_refl _) (.cells #[.int .i64 1000000000000000, .int .i64 1000000000000001, .int .i64 (-1000000000000001), .int .i64 yO] 2)
              have hl := lit4 w6 1000000000000000 1000000000000001 (-1000000000000001) yO 2
              have lp : p < w6.heap.size := hHeld.2.2.2.2.2.2.2.2.2.out.2.1.lt
              have RXo14 := hHeld.2.2.2.2.2.2.2.2.2.out.1.below bo14
              have qo14 := hHeld.2.2.2.2.2.2.2.2.2.out.2.below bo14
              have kvo14 := Tk.kv hK (w := _) ⟨RXo14.cell 0 rfl, RXo14.cell 1 rfl, RXo14.cell 2 rfl, RXo14.cell 3 rfl, RXo14.cell 4 rfl, RXo14.cell 5 rfl, RXo14.cell 6 rfl, RXo14.cell 7 rfl, RXo14.cell 8 rfl, ⟨RXo14, qo14⟩⟩
              clear RXo14 qo14 bo14
              generalize w6.alloc (.cells #[.int .i64 1000000000000000, .int .i64 1000000000000001, .int .i64 (-1000000000000001), .int .i64 yO] 2) = wD at kvo14 hl ⊢
              generalize w6.heap.size = gl at hl lp ⊢
              obtain ⟨jj, rfl⟩ := Int.eq_ofNat_of_zero_le yB0
              have hjj : jj < 4 := by omega
              obtain ⟨vv, hvv⟩ := hl.2 jj hjj
              clear hl
              try dsimp only
              refine hK.out _ _ kvo14 ?_; clear hK K hHeld; intro hHeld; try simp only [Act.put, List.setIfInBounds_toArray, List.set_cons_zero, List.set_cons_succ]
              refine Tk.W 8 (some 39) (.indexAddr 29 (.tmp 36) (.tmp 38)) 0 none ?_
              refine Tk.R 9 (some 40) (.load 2 (.tmp 39)) 2 none (fun K hK => ?_)
              go_simp
              try dsimp only
              refine hK.out _ _ hHeld ?_; clear hK K hHeld; intro hHeld; try simp only [Act.put, List.setIfInBounds_toArray, List.set_cons_zero, List.set_cons_succ]
              refine Tk.W 10 (some 41) (.indexAddr 29 (.tmp 32) (.tmp 33)) 0 none ?_
              refine Tk.R 11 none (.store 2 (.tmp 41) (.tmp 40)) 0 none (fun K hK => ?_)
              obtain ⟨gs1, gs2, ⟨ks, pK⟩, ⟨os, pO⟩⟩ := hHeld.2.2.2.2.2.2.2.2.2.out.2
              have RXs := hHeld.2.2.2.2.2.2.2.2.2.out.1
              have hck := (pO.cell ii hii).1
              have hfk := (pO.cell ii hii).2
              have hi3 : (ii : Int) < k := by omega
              obtain ⟨h1_, h2_, h3_, h4_, g1, g2, g3, g4, g5, g6⟩ := id hn
              go_simp
              have pO3 := own_put pO (j := ii) hii vv
              have RX7 := RXs.setOther (q := gO) (by omega) ii (.int .i64 vv)
              have q7 : GM w B p a len cap X k gK k gO cO _ := ⟨gs1.setNew (q := gO) ii (by omega) (by omega) (by omega) (.int .i64 vv), gs2.setOther (q := gO) (by omega) ii (.int .i64 vv), ⟨_, pK.setOther (q := gO) (by omega) ii (.int .i64 vv)⟩, ⟨_, pO3⟩⟩
              have kvo18 := Tk.kv hK (w := _) ⟨RX7.cell 0 rfl, RX7.cell 1 rfl, RX7.cell 2 rfl, RX7.cell 3 rfl, RX7.cell 4 rfl, RX7.cell 5 rfl, RX7.cell 6 rfl, RX7.cell 7 rfl, RX7.cell 8 rfl, ⟨RX7, q7⟩⟩
              clear pO3 RX7 q7 RXs pK pO gs1 gs2 hck hfk
              try dsimp only
              refine hK.out _ _ kvo18 ?_; clear hK K hHeld; intro hHeld; try simp only [Act.put, List.setIfInBounds_toArray, List.set_cons_zero, List.set_cons_succ]
              refine wpAnyH_done (by kernel_rfl) ?_ _
              refine NoPanic.normal ?_
              obtain ⟨RX9, q9⟩ := hHeld.2.2.2.2.2.2.2.2.2.out
              clear hHeld
              go_wp2_with fail
              go_meet
              case rel => exact ⟨n, l, d, r, q, s, 0, k, gK, cK, k, gO, cO, rfl, RX9, q9, hn⟩
          · have n2 : (y == 2) = false := by simp; omega
            by_cases h3 : y = 3
            · subst h3
              obtain ⟨gs1, gs2, ⟨ks, pK⟩, ⟨os, pO⟩⟩ := q0
              obtain ⟨h1_, h2_, h3_, h4_, g1, g2, g3, g4, g5, g6⟩ := id hn
              have HO : Hid (Own w4 w.heap.size gO k cO os) := pO
              have hzs := gs1.step.size
              clear pO
              have c7 := RX.cell 7 rfl
              have e7 := RX.froz 7 rfl
              go_wp2_with (at_builtin; refine wpList_append_own_at _ rfl (.tmp 45) (.tmp 46) 29 rfl w.heap.size 2 i0 (.int .i64 0) 1 8 Try.underlying29 hi0 hz0 hz1 hz2 rfl (by decide) _ _ _ rfl (World.ownsRow.alloc (w := w4) HO.out _) ⟨w4.heap.size, 0, none⟩ 1 1 (ints [(0 : Int)]) rfl rfl (Ow.one_new w4 (0 : Int) _ _ rfl) (Ow.one _) (by unfold maxLen; omega) (by omega) (by simp; omega) ?_; intro v2 w5 hx2 hg2 hn2 ha2; obtain ⟨gP, cP, rfl, oP, hat⟩ := Ow.more_at (W := w4) (t := gO) hx2 (Ow.no_nil hn2 rfl) ha2; replace hg2 : World.grownBy _ w5 (some gO) := hg2; have lX := RX.lt (by simp); have lK := pK.2.2.1; have nP : gP ≠ X ∧ gP ≠ gK ∧ w.heap.size < gP := (by rcases hat with hat | hat <;> (subst hat; omega)); have zz5 := hg2.size; (try simp at zz5); have RX5 := (RX.alloc _).other hg2 (by omega); have gs15 := (gs1.obj _).grown hg2 (fun x hx => (by cases hx; omega)); have gs25 := (gs2.alloc _).other hg2 (by omega); have pK5 := (pK.later ((Below.refl _ w4).alloc (Nat.le_refl _) _) pK.2.2.1).kept hg2 (by omega); clear hx2 hg2 hn2 ha2 hat c7 e7 HO RX gs1 gs2 pK; have c7 := RX5.cell 7 rfl; have e7 := RX5.froz 7 rfl; have RX6 := RX5.set 7 (.slice (some ⟨gP, 0, none⟩) (k + 1) cP); have q6 : GM w B p a len cap X k gK (k + 1) gP cP _ := ⟨gs15.setNew (q := X) 7 (by omega) (by omega) (by omega) (.slice (some ⟨gP, 0, none⟩) (k + 1) cP), gs25.setOther (q := X) (by omega) 7 (.slice (some ⟨gP, 0, none⟩) (k + 1) cP), ⟨_, pK5.setOther (q := X) (by omega) 7 (.slice (some ⟨gP, 0, none⟩) (k + 1) cP)⟩, ⟨_, oP.setOther (q := X) (by omega) 7 (.slice (some ⟨gP, 0, none⟩) (k + 1) cP)⟩⟩; have hn6 : GN w X k gK (k + 1) gP := ⟨by omega, by omega, by omega, by omega, by omega, by omega, by omega, by omega, by omega, by omega⟩; clear RX5 gs15 gs25 pK5 oP)
              go_meet
              case rel => exact ⟨n, l, d, r, q, s, 0, k, gK, cK, k + 1, gP, cP, rfl, RX6, q6, hn6⟩
            · have n3 : (y == 3) = false := by simp; omega
              have h4 : y = 4 := by omega
              subst h4
              go_wp2_with fail
              refine (l1Num' w B p a len cap 1000000 (by omega) (by omega) _ q0.1).mono ?_
              rintro e w5 ⟨⟨tt, rfl⟩, st5, s5⟩
              replace q0 := q0.step st5 s5 hp hn
              replace RX := room_step RX s5 hXp
              clear st5 s5
              have f8 := RX.froz 8 rfl
              have e8 := RX.cell 8 rfl
              have q6 := q0.store hn hp hB 8 (.int .i64 tt)
              have RX6 := RX.set 8 (.int .i64 tt)
              go_wp2_with fail
              go_meet
              case rel => exact ⟨n, l, d, r, q, s, tt, k, gK, cK, k, gO, cO, rfl, RX6, q6, hn⟩
  case rest =>
    clear q0 hn RX c6 hmk
    obtain ⟨n, l, d, r, q, s, t, k, gK, cK, m, gO, cO, rfl, H⟩ := hcut
    obtain ⟨RX, q0, hn⟩ := H.out
    clear H
    obtain ⟨st1, RR, ⟨ks, pK⟩, ⟨os, pO⟩⟩ := q0
    obtain ⟨h1_, h2_, h3_, h4_, g1, g2, g3, g4, g5, g6⟩ := hn
    have x0 := RX.cell 0 rfl
    have x1 := RX.cell 1 rfl
    have x2 := RX.cell 2 rfl
    have x3 := RX.cell 3 rfl
    have x4 := RX.cell 4 rfl
    have x5 := RX.cell 5 rfl
    have x6 := RX.cell 6 rfl
    have x7 := RX.cell 7 rfl
    have x8 := RX.cell 8 rfl
    have r0 := RR.cell 0 rfl
    have r1 := RR.cell 1 rfl
    have r2 := RR.cell 2 rfl
    have r3 := RR.cell 3 rfl
    have r4 := RR.cell 4 rfl
    have r5 := RR.cell 5 rfl
    have r6 := RR.cell 6 rfl
    have r7 := RR.cell 7 rfl
    have r8 := RR.cell 8 rfl
    have f0 := RR.froz 0 rfl
    have f1 := RR.froz 1 rfl
    have f2 := RR.froz 2 rfl
    have f3 := RR.froz 3 rfl
    have f4 := RR.froz 4 rfl
    have f5 := RR.froz 5 rfl
    have f6 := RR.froz 6 rfl
    have f7 := RR.froz 7 rfl
    have f8 := RR.froz 8 rfl
    have RQ := Rm.over9 RR (.int .i64 n) (.int .i64 l) (.int .i64 d) (.int .i64 r) (.int .i64 q) (.int .i64 s) (.slice (some ⟨gK, 0, none⟩) k cK) (.slice (some ⟨gO, 0, none⟩) m cO) (.int .i64 t)
    have pO9 := (((((((((pO.setOther (q := w.heap.size) (by omega) 0 (.int .i64 n)).setOther (q := w.heap.size) (by omega) 1 (.int .i64 l)).setOther (q := w.heap.size) (by omega) 2 (.int .i64 d)).setOther (q := w.heap.size) (by omega) 3 (.int .i64 r)).setOther (q := w.heap.size) (by omega) 4 (.int .i64 q)).setOther (q := w.heap.size) (by omega) 5 (.int .i64 s)).setOther (q := w.heap.size) (by omega) 6 (.slice (some ⟨gK, 0, none⟩) k cK)).setOther (q := w.heap.size) (by omega) 7 (.slice (some ⟨gO, 0, none⟩) m cO)).setOther (q := w.heap.size) (by omega) 8 (.int .i64 t))
    have pK9 := (((((((((pK.setOther (q := w.heap.size) (by omega) 0 (.int .i64 n)).setOther (q := w.heap.size) (by omega) 1 (.int .i64 l)).setOther (q := w.heap.size) (by omega) 2 (.int .i64 d)).setOther (q := w.heap.size) (by omega) 3 (.int .i64 r)).setOther (q := w.heap.size) (by omega) 4 (.int .i64 q)).setOther (q := w.heap.size) (by omega) 5 (.int .i64 s)).setOther (q := w.heap.size) (by omega) 6 (.slice (some ⟨gK, 0, none⟩) k cK)).setOther (q := w.heap.size) (by omega) 7 (.slice (some ⟨gO, 0, none⟩) m cO)).setOther (q := w.heap.size) (by omega) 8 (.int .i64 t))
    have st9 := (((((((((st1.setNew (q := w.heap.size) 0 (by omega) (by omega) (by omega) (.int .i64 n)).setNew (q := w.heap.size) 1 (by omega) (by omega) (by omega) (.int .i64 l)).setNew (q := w.heap.size) 2 (by omega) (by omega) (by omega) (.int .i64 d)).setNew (q := w.heap.size) 3 (by omega) (by omega) (by omega) (.int .i64 r)).setNew (q := w.heap.size) 4 (by omega) (by omega) (by omega) (.int .i64 q)).setNew (q := w.heap.size) 5 (by omega) (by omega) (by omega) (.int .i64 s)).setNew (q := w.heap.size) 6 (by omega) (by omega) (by omega) (.slice (some ⟨gK, 0, none⟩) k cK)).setNew (q := w.heap.size) 7 (by omega) (by omega) (by omega) (.slice (some ⟨gO, 0, none⟩) m cO)).setNew (q := w.heap.size) 8 (by omega) (by omega) (by omega) (.int .i64 t))
    have nR : w.heap.size ≠ X := by omega
    go_wp2_with fail
    have HD : Hid (Drawn6 w.heap.size _ n l d r q s t k gK cK m gO cO) := ⟨⟨_, _, pK9, pO9⟩, by omega, by omega, by omega⟩
    have HS := And.intro (St.on hst st9) st9.step
    refine bodyPost_ret (v := wld n l d r q s (.slice (some ⟨gK, 0, none⟩) k cK) (.slice (some ⟨gO, 0, none⟩) m cO) t) (ret9 Try.results74 rfl RQ) rfl ⟨⟨n, l, d, r, q, s, t, k, gK, cK, m, gO, cO, rfl, HD⟩, HS⟩

end Go.Proofs.Ytloicicgcdfgnaa.Dr
