/-
  A seal and keys that are drawn (spec.DrawSealRight): the keys in new memory.
-/
import Derived.Test.YtadmkojlobniaaaKd
import Derived.Deep.Cut
import Derived.Test.YtadmkojlobniaaaTk
namespace Go.Proofs.Ytadmkojlobniaaa.Kd
open Go.ChangeShapes Go.WideShapes Go.ChangeAt Go.RowKit
open Ls (el Row)
open Ow (Has Own ints)
open Dr (Step St)
open Rm (Room)
open Sl (sl c3)
set_option linter.unusedVariables false
set_option linter.unusedSimpArgs false

/-- A cursor, keys, a seal, and the result's cells. -/
structure Kz (w wA : World) (B p : Nat) (a : Option Addr) (len cap R g c n : Nat) (zs : List Int) (q : Nat) (r k t : Int) (w' : World) : Prop where
  st : St wA B p a len cap w'
  RR : ∃ x y z, Room w' R (c3 x y z)
  S : Room w' q (c3 r k t)
  ho : Own w' w.heap.size g n c zs
  hz : wA.heap.size ≤ q ∧ B ≤ q ∧ q ≠ p ∧ R ≠ p ∧ g ≠ p ∧ q ≠ R ∧ g ≠ q ∧ w.heap.size ≤ R ∧ R < wA.heap.size ∧ g ≠ R ∧ p = wA.heap.size
theorem Kz.step {w wA : World} {B p : Nat} {a : Option Addr} {len cap R g c n : Nat} {zs : List Int} {q : Nat} {r k t : Int} {w1 w2 : World} (z : Kz w wA B p a len cap R g c n zs q r k t w1) (s : St wA B p a len cap w2) (x : Step p w1 w2) : Kz w wA B p a len cap R g c n zs q r k t w2 :=
  ⟨s, (by obtain ⟨x1, x2, x3, h⟩ := z.RR; exact ⟨x1, x2, x3, Dg.room_step h x z.hz.2.2.2.1⟩), Dg.room_step z.S x z.hz.2.2.1, Dg.own_step z.ho x z.hz.2.2.2.2.1, z.hz⟩
theorem Kz.drew {w wA : World} {B p : Nat} {a : Option Addr} {len cap R g c n : Nat} {zs : List Int} {q : Nat} {r k t : Int} {w1 : World} (z : Kz w wA B p a len cap R g c n zs q r k t w1) : Kz w wA B p a len cap R g c n zs q r k t w1.drew :=
  ⟨z.st.drew', z.RR, z.S, z.ho, z.hz⟩
theorem own_other {w : World} {B g n c q i : Nat} {zs : List Int} (h : Own w B g n c zs) (hne : g ≠ q) (v : Value) : Own (w.setCell ⟨q, i, none⟩ v) B g n c zs := by
  obtain ⟨h1, h2⟩ := h
  refine ⟨h1, ?_⟩
  rcases h2 with h2 | ⟨g', cap', cur, e, hB, hb', rest⟩
  · exact .inl h2
  · cases e
    exact .inr ⟨g, c, cur, rfl, hB, by rw [Below.heap_setCell _ _ _ _ (by simp; omega)]; exact hb', rest⟩
theorem Kz.set0 {w wA : World} {B p : Nat} {a : Option Addr} {len cap R g c n : Nat} {zs : List Int} {q : Nat} {r k t : Int} {w1 : World} (z : Kz w wA B p a len cap R g c n zs q r k t w1) (u : Int) : Kz w wA B p a len cap R g c n zs q u k t (w1.setCell ⟨q, 0, none⟩ (.int .i64 u)) :=
  ⟨z.st.setNew 0 z.hz.1 z.hz.2.2.1 z.hz.2.1 _, (by obtain ⟨x1, x2, x3, h⟩ := z.RR; exact ⟨x1, x2, x3, h.setOther z.hz.2.2.2.2.2.1 0 _⟩), z.S.set 0 _, own_other z.ho z.hz.2.2.2.2.2.2.1 _, z.hz⟩
theorem Kz.set1 {w wA : World} {B p : Nat} {a : Option Addr} {len cap R g c n : Nat} {zs : List Int} {q : Nat} {r k t : Int} {w1 : World} (z : Kz w wA B p a len cap R g c n zs q r k t w1) (u : Int) : Kz w wA B p a len cap R g c n zs q r u t (w1.setCell ⟨q, 1, none⟩ (.int .i64 u)) :=
  ⟨z.st.setNew 1 z.hz.1 z.hz.2.2.1 z.hz.2.1 _, (by obtain ⟨x1, x2, x3, h⟩ := z.RR; exact ⟨x1, x2, x3, h.setOther z.hz.2.2.2.2.2.1 1 _⟩), z.S.set 1 _, own_other z.ho z.hz.2.2.2.2.2.2.1 _, z.hz⟩
theorem Kz.set2 {w wA : World} {B p : Nat} {a : Option Addr} {len cap R g c n : Nat} {zs : List Int} {q : Nat} {r k t : Int} {w1 : World} (z : Kz w wA B p a len cap R g c n zs q r k t w1) (u : Int) : Kz w wA B p a len cap R g c n zs q r k u (w1.setCell ⟨q, 2, none⟩ (.int .i64 u)) :=
  ⟨z.st.setNew 2 z.hz.1 z.hz.2.2.1 z.hz.2.1 _, (by obtain ⟨x1, x2, x3, h⟩ := z.RR; exact ⟨x1, x2, x3, h.setOther z.hz.2.2.2.2.2.1 2 _⟩), z.S.set 2 _, own_other z.ho z.hz.2.2.2.2.2.2.1 _, z.hz⟩
theorem Kz.fin {w wA : World} {B p : Nat} {a : Option Addr} {len cap R g c n : Nat} {zs : List Int} {q : Nat} {r k t : Int} {w1 : World} (z : Kz w wA B p a len cap R g c n zs q r k t w1) (b : Below w.heap.size w wA) {x1 x2 x3 : Int} (h : Room w1 R (c3 x1 x2 x3)) (y1 y2 y3 : Int) : (Room (((w1.setCell ⟨R, 0, none⟩ (.int .i64 y1)).setCell ⟨R, 1, none⟩ (.int .i64 y2)).setCell ⟨R, 2, none⟩ (.int .i64 y3)) q (c3 r k t) ∧ Own (((w1.setCell ⟨R, 0, none⟩ (.int .i64 y1)).setCell ⟨R, 1, none⟩ (.int .i64 y2)).setCell ⟨R, 2, none⟩ (.int .i64 y3)) w.heap.size g n c zs ∧ Below w.heap.size w (((w1.setCell ⟨R, 0, none⟩ (.int .i64 y1)).setCell ⟨R, 1, none⟩ (.int .i64 y2)).setCell ⟨R, 2, none⟩ (.int .i64 y3))) ∧ Room (((w1.setCell ⟨R, 0, none⟩ (.int .i64 y1)).setCell ⟨R, 1, none⟩ (.int .i64 y2)).setCell ⟨R, 2, none⟩ (.int .i64 y3)) R (c3 y1 y2 y3) := by
  obtain ⟨h1, h2, h3, h4, h5, h6, h7, h8, h9, h10, h11⟩ := z.hz
  refine ⟨⟨((z.S.setOther h6.symm 0 _).setOther h6.symm 1 _).setOther h6.symm 2 _, own_other (own_other (own_other z.ho h10 _) h10 _) h10 _, Sl.below3 ?_ h8 _ _ _⟩, Sl.over3 h _ _ _⟩
  subst h11
  exact b.trans ((z.st.step.fresh (Nat.le_refl _)).mono b.size)
theorem s1_bd (zs : List Int) (n : Nat) (r k : Int) : 0 ≤ Sl.S1 zs n r k ∧ Sl.S1 zs n r k ≤ 1000 := by
  cases h : Sl.SO zs n r k with
  | false => have := (Sl.s_no h).2.1; omega
  | true => have := (Sl.s_yes h).2.1; have := (Sl.so_of h).2.1; omega
theorem l1Max (a b : Int) (w : World) : Calls Try.prog 31 #[.int .i64 a, .int .i64 b] w fun e w' => e = .returned (.int .i64 (max a b)) ∧ w' = w := Sp.l1Max a b w
theorem ret4 {fn : Func} {ts : Array Value} {W : World} {R : Nat} {a b c : Int} {v : Value} (hf : fn.results = #[.tmp 2, .cell 3 39]) (h2 : ts[3]? = some (.pointer (some ⟨R, 0, none⟩))) (h3 : ts[2]? = some v) (h : Room W R (c3 a b c)) :
    (results fn ts).run Try.prog W = .ok (.tuple #[v, sl a b c]) W := by
  have q0 := h.cell 0 rfl
  have q1 := h.cell 1 rfl
  have q2 := h.cell 2 rfl
  simp [results, hf, h2, h3, go_sem, q0, q1, q2]

set_option maxHeartbeats 8000000 in
theorem drawSealRight (B : Nat) (a : Option Addr) (len cap : Nat) (w : World) (hB : B ≤ w.heap.size) (hc : Dr.Code w B a len) :
    Calls Try.prog 15 #[.slice a len cap] w fun e w' => (∃ g c n r k t, e = .returned (.tuple #[.slice (some ⟨g, 0, none⟩) n c, sl r k t]) ∧ n ≤ 17 ∧ ∃ zs, Own w' w.heap.size g n c zs) ∧ Below w.heap.size w w' := by
  have R := Room.new w (c3 0 0 0) 39
  have B1 := (Below.refl w.heap.size w).alloc (Nat.le_refl _) (.cells #[.int .i64 0, .int .i64 0, .int .i64 0] 39)
  go_enter Try.func15, Try.ntmps15
  go_wp2_with fail
  have hA : Hid (w.heap.size + 1 = (w.alloc (.cells #[.int .i64 0, .int .i64 0, .int .i64 0] 39)).heap.size) := by simp [Hid]
  generalize w.alloc (.cells #[.int .i64 0, .int .i64 0, .int .i64 0] 39) = wA at R B1 hA ⊢
  have zA : w.heap.size < wA.heap.size := by have := hA.out; omega
  clear hA
  refine (Dr.l1New B a len cap wA (by omega) (hc.later (B1.mono hB))).mono ?_
  rintro e w1 ⟨rfl, st1⟩
  have q1 := st1.step.size
  have hp1 := st1.lt
  replace R := Dg.room_step R st1.step (by omega)
  go_wp2_with fail
  refine (l9DrawAny _ B wA.heap.size a len cap w1 st1).mono ?_
  rintro e w2 ⟨⟨g, c, n, rfl, ⟨_, n1⟩, zs, ho⟩, st2, s2⟩
  have hg := ho.data.2.1
  replace ho := ho.mono (show w.heap.size ≤ w1.heap.size by omega)
  replace R := Dg.room_step R s2 (by omega)
  have z2 := s2.size
  clear s2 st1
  go_wp2_with fail
  refine (Dr.l1Below' wA B wA.heap.size a len cap 9 (by omega) (by omega) _ st2).mono ?_
  rintro e w3 ⟨⟨x, rfl, x0, x1⟩, st3, s3⟩
  replace ho := Dg.own_step ho s3 (by omega)
  replace R := Dg.room_step R s3 (by omega)
  have z3 := s3.size
  clear s3 st2
  go_wp2_with fail
  refine (l1Max n 1 _).mono ?_
  rintro e w4 ⟨rfl, rfl⟩
  have hm0 : 0 < max (n : Int) 1 := by omega
  have hm1 : max (n : Int) 1 ≤ 17 := by omega
  generalize max (n : Int) 1 = m at hm0 hm1 ⊢
  go_wp2_with fail
  refine (Dr.l1Below' wA B wA.heap.size a len cap m (by omega) (by omega) _ st3).mono ?_
  rintro e w5 ⟨⟨y, rfl, y0, y1⟩, st5, s5⟩
  replace ho := Dg.own_step ho s5 (by omega)
  replace R := Dg.room_step R s5 (by omega)
  have z5 := s5.size
  clear s5 st3
  go_wp2_with fail
  refine (Sl.s_SealOf _ _ _ zs (1 + x) y _ ho.row (by omega)).mono ?_
  rintro e w6 ⟨rfl, b6⟩
  replace R := R.below b6
  replace ho := ho.later b6 ho.lt
  replace st5 := st5.below b6
  have z6 := b6.size
  clear b6
  have rb := s1_bd zs n (1 + x) y
  have tb := Sl.tt_bd zs n (1 + x) y
  obtain ⟨r, hr⟩ : ∃ q, Sl.S1 zs n (1 + x) y = q := ⟨_, rfl⟩
  obtain ⟨k, hk⟩ : ∃ q, Sl.S2 zs n (1 + x) y = q := ⟨_, rfl⟩
  obtain ⟨t, ht⟩ : ∃ q, Sl.TT zs n (1 + x) y = q := ⟨_, rfl⟩
  obtain ⟨so, hs⟩ : ∃ q, Sl.SO zs n (1 + x) y = q := ⟨_, rfl⟩
  have HA : Hid (Sl.SA zs n (1 + x) y = .returned (.tuple #[Sl.sl r k t, .bool so])) := by rw [Sl.SA, hr, hk, ht, hs]; rfl
  rw [hr] at rb
  rw [ht] at tb
  clear hr hk ht hs
  rw [HA.out]
  clear HA
  have lR := R.lt (by simp)
  have lg := ho.lt
  obtain ⟨q, hq⟩ : ∃ q, q = w6.heap.size := ⟨_, rfl⟩
  have NK : Kz w wA B wA.heap.size a len cap w.heap.size g c n zs q r k t (w6.alloc (.cells #[.int .i64 r, .int .i64 k, .int .i64 t] 39)) := ⟨st5.obj _, ⟨0, 0, 0, R.alloc _⟩, Room.at w6 (c3 r k t) 39 q hq, ho.later ((Below.refl _ _).alloc (Nat.le_refl _) _) ho.lt, by omega⟩
  have HQ : Hid (q = w6.heap.size) := hq
  clear hq st5 R ho hm0 hm1 y0 y1
  go_wp2_with fail
  rw [← HQ.out]
  generalize w6.alloc (.cells #[.int .i64 r, .int .i64 k, .int .i64 t] 39) = w7 at NK ⊢
  clear HQ lg lR z6 z5 z3 z2 q1 hp1
  go_wp2_with fail
  refine (Dr.l1Once' wA B wA.heap.size a len cap 3 (by omega) (by omega) _ NK.st).mono ?_
  rintro e w8 ⟨⟨tt, rfl⟩, sx, px⟩
  replace NK := NK.step sx px
  clear sx px
  cases tt with
  | false =>
    go_wp2_with fail
    generalize w8 = wE1 at NK ⊢
    replace NK := NK.drew
    refine wp_region_noPanic ?_
    refine wp_region_held_drew (S := (fun w' => w'.cell? ⟨q, 0, none⟩ = some (.int .i64 (r)) ∧ w'.cell? ⟨q, 1, none⟩ = some (.int .i64 (k)) ∧ w'.cell? ⟨q, 2, none⟩ = some (.int .i64 (t)))) (by kernel_rfl) ⟨NK.S.cell 0 rfl, NK.S.cell 1 rfl, NK.S.cell 2 rfl⟩ (fun hHeld => ?_)
    generalize wE1.drew = wd1 at NK hHeld ⊢
    refine Tk.W 0 (some 48) (.move (.tmp 5)) 29 none ?_
    refine Tk.W 1 (some 49) (.load 39 (.tmp 6)) 39 none ?_
    refine Tk.W 2 (some 2) (.assign (.tmp 48)) 29 none ?_
    refine Tk.R 3 none (.store 39 (.tmp 3) (.tmp 49)) 0 none (fun K hK => ?_)
    obtain ⟨x1, x2, x3, RR⟩ := NK.RR
    have g0 := RR.froz 0 rfl
    have g1 := RR.froz 1 rfl
    have g2 := RR.froz 2 rfl
    have h0 := RR.cell 0 rfl
    have h1 := RR.cell 1 rfl
    have h2 := RR.cell 2 rfl
    go_simp
    clear g0 g1 g2 h0 h1 h2
    obtain ⟨⟨N2, N3, N4⟩, RF⟩ := NK.fin B1 RR (r) (k) (t)
    try dsimp only
    refine hK.out _ _ ⟨N2.cell 0 rfl, N2.cell 1 rfl, N2.cell 2 rfl⟩ ?_; clear hK K hHeld; intro hHeld; try simp only [Act.put, List.setIfInBounds_toArray, List.set_cons_zero, List.set_cons_succ]
    refine wpAnyH_done (by kernel_rfl) ?_ _
    refine NoPanic.normal ?_
    clear hHeld
    go_wp2_with fail
    refine bodyPost_ret (v := .tuple #[.slice (some ⟨g, 0, none⟩) n c, sl (r) (k) (t)]) (ret4 Try.results15 rfl rfl RF) rfl ⟨⟨g, c, n, _, _, _, rfl, n1, zs, N3⟩, N4⟩
  | true =>
    go_wp2_with fail
    refine (Dr.l1Below' wA B wA.heap.size a len cap 3 (by omega) (by omega) _ NK.st).mono ?_
    rintro e w9 ⟨⟨z, rfl, y0, y1⟩, sx, px⟩
    replace NK := NK.step sx px
    clear sx px
    rcases (by omega : z = 0 ∨ z = 1 ∨ z = 2) with rfl | rfl | rfl
    · have c0 := NK.S.cell 0 rfl
      have c1 := NK.S.cell 1 rfl
      have c2 := NK.S.cell 2 rfl
      have f0 := NK.S.froz 0 rfl
      have f1 := NK.S.froz 1 rfl
      have f2 := NK.S.froz 2 rfl
      replace NK := NK.set0 (r + 1)
      go_wp2_with fail
      generalize w9.setCell ⟨q, 0, none⟩ (.int .i64 (r + 1)) = wE2 at NK ⊢
      replace NK := NK.drew
      refine wp_region_noPanic ?_
      refine wp_region_held_drew (S := (fun w' => w'.cell? ⟨q, 0, none⟩ = some (.int .i64 (r + 1)) ∧ w'.cell? ⟨q, 1, none⟩ = some (.int .i64 (k)) ∧ w'.cell? ⟨q, 2, none⟩ = some (.int .i64 (t)))) (by kernel_rfl) ⟨NK.S.cell 0 rfl, NK.S.cell 1 rfl, NK.S.cell 2 rfl⟩ (fun hHeld => ?_)
      generalize wE2.drew = wd2 at NK hHeld ⊢
      refine Tk.W 0 (some 48) (.move (.tmp 5)) 29 none ?_
      refine Tk.W 1 (some 49) (.load 39 (.tmp 6)) 39 none ?_
      refine Tk.W 2 (some 2) (.assign (.tmp 48)) 29 none ?_
      refine Tk.R 3 none (.store 39 (.tmp 3) (.tmp 49)) 0 none (fun K hK => ?_)
      obtain ⟨x1, x2, x3, RR⟩ := NK.RR
      have g0 := RR.froz 0 rfl
      have g1 := RR.froz 1 rfl
      have g2 := RR.froz 2 rfl
      have h0 := RR.cell 0 rfl
      have h1 := RR.cell 1 rfl
      have h2 := RR.cell 2 rfl
      go_simp
      clear g0 g1 g2 h0 h1 h2
      obtain ⟨⟨N2, N3, N4⟩, RF⟩ := NK.fin B1 RR (r + 1) (k) (t)
      try dsimp only
      refine hK.out _ _ ⟨N2.cell 0 rfl, N2.cell 1 rfl, N2.cell 2 rfl⟩ ?_; clear hK K hHeld; intro hHeld; try simp only [Act.put, List.setIfInBounds_toArray, List.set_cons_zero, List.set_cons_succ]
      refine wpAnyH_done (by kernel_rfl) ?_ _
      refine NoPanic.normal ?_
      clear hHeld
      go_wp2_with fail
      refine bodyPost_ret (v := .tuple #[.slice (some ⟨g, 0, none⟩) n c, sl (r + 1) (k) (t)]) (ret4 Try.results15 rfl rfl RF) rfl ⟨⟨g, c, n, _, _, _, rfl, n1, zs, N3⟩, N4⟩
    · go_wp2_with fail
      refine (Dr.l1Num' wA B wA.heap.size a len cap 4 (by omega) (by omega) _ NK.st).mono ?_
      rintro e w10 ⟨⟨u, rfl⟩, sx, px⟩
      replace NK := NK.step sx px
      clear sx px
      have c0 := NK.S.cell 0 rfl
      have c1 := NK.S.cell 1 rfl
      have c2 := NK.S.cell 2 rfl
      have f0 := NK.S.froz 0 rfl
      have f1 := NK.S.froz 1 rfl
      have f2 := NK.S.froz 2 rfl
      replace NK := NK.set1 u
      go_wp2_with fail
      generalize w10.setCell ⟨q, 1, none⟩ (.int .i64 u) = wE3 at NK ⊢
      replace NK := NK.drew
      refine wp_region_noPanic ?_
      refine wp_region_held_drew (S := (fun w' => w'.cell? ⟨q, 0, none⟩ = some (.int .i64 (r)) ∧ w'.cell? ⟨q, 1, none⟩ = some (.int .i64 (u)) ∧ w'.cell? ⟨q, 2, none⟩ = some (.int .i64 (t)))) (by kernel_rfl) ⟨NK.S.cell 0 rfl, NK.S.cell 1 rfl, NK.S.cell 2 rfl⟩ (fun hHeld => ?_)
      generalize wE3.drew = wd3 at NK hHeld ⊢
      refine Tk.W 0 (some 48) (.move (.tmp 5)) 29 none ?_
      refine Tk.W 1 (some 49) (.load 39 (.tmp 6)) 39 none ?_
      refine Tk.W 2 (some 2) (.assign (.tmp 48)) 29 none ?_
      refine Tk.R 3 none (.store 39 (.tmp 3) (.tmp 49)) 0 none (fun K hK => ?_)
      obtain ⟨x1, x2, x3, RR⟩ := NK.RR
      have g0 := RR.froz 0 rfl
      have g1 := RR.froz 1 rfl
      have g2 := RR.froz 2 rfl
      have h0 := RR.cell 0 rfl
      have h1 := RR.cell 1 rfl
      have h2 := RR.cell 2 rfl
      go_simp
      clear g0 g1 g2 h0 h1 h2
      obtain ⟨⟨N2, N3, N4⟩, RF⟩ := NK.fin B1 RR (r) (u) (t)
      try dsimp only
      refine hK.out _ _ ⟨N2.cell 0 rfl, N2.cell 1 rfl, N2.cell 2 rfl⟩ ?_; clear hK K hHeld; intro hHeld; try simp only [Act.put, List.setIfInBounds_toArray, List.set_cons_zero, List.set_cons_succ]
      refine wpAnyH_done (by kernel_rfl) ?_ _
      refine NoPanic.normal ?_
      clear hHeld
      go_wp2_with fail
      refine bodyPost_ret (v := .tuple #[.slice (some ⟨g, 0, none⟩) n c, sl (r) (u) (t)]) (ret4 Try.results15 rfl rfl RF) rfl ⟨⟨g, c, n, _, _, _, rfl, n1, zs, N3⟩, N4⟩
    · go_wp2_with fail
      replace NK := NK.drew
      refine wp_region_noPanic ?_
      refine wp_region_held_drew (S := (fun w' => True)) (by kernel_rfl) trivial (fun hHeld => ?_)
      generalize w9.drew = wd6 at NK hHeld ⊢
      refine Tk.W 0 (some 42) (.fieldAddr 39 (.tmp 6) 2) 0 none ?_
      refine Tk.W 2 (some 44) (.move (.tmp 4)) 65 none ?_
      refine wpAnyH_ready (rs := [1, 3]) (by kernel_rfl) (by simp) ?_
      refine (AllReadyH.cons (o := ⟨some 43, .load 2 (.tmp 42), 2, _, _, none⟩) rfl (fun K hK => ?_) (AllReadyH.cons (o := ⟨some 45, .call ⟨.value (.func 34), #[.tmp 44, .const (.int .i64 (-1)), .const (.int .i64 1)], #[65, 2, 2]⟩, 2, _, _, none⟩) rfl (fun K hK => ?_) AllReadyH.nil))
      · have c2 := NK.S.cell 2 rfl
        go_simp
        clear c2
        try dsimp only
        refine hK.out _ _ trivial ?_; clear hK K hHeld; intro hHeld; try simp only [Act.put, List.setIfInBounds_toArray, List.set_cons_zero, List.set_cons_succ]
        refine Tk.R 3 (some 45) (.call ⟨.value (.func 34), #[.tmp 44, .const (.int .i64 (-1)), .const (.int .i64 1)], #[65, 2, 2]⟩) 2 none (fun K hK => ?_)
        go_simp
        refine (Dg.l1From' wA B wA.heap.size a len cap (-1) 1 (by omega) (by omega) (by omega) _ NK.st).mono ?_
        rintro e w10 ⟨⟨u, rfl, u0, u1⟩, sx, px⟩
        replace NK := NK.step sx px
        clear sx px
        have hw : IntKind.i64.wrap (t + u) = t + u := by rw [IntKind.wrap_i64]; omega
        try dsimp only
        refine hK.out _ _ trivial ?_; clear hK K hHeld; intro hHeld; try simp only [Act.put, List.setIfInBounds_toArray, List.set_cons_zero, List.set_cons_succ]
        refine Tk.W 4 (some 46) (.binOp .add 2 (.tmp 43) (.tmp 45) 2) 2 none ?_
        refine Tk.W 5 (some 47) (.fieldAddr 39 (.tmp 6) 2) 0 none ?_
        refine Tk.R 6 none (.store 2 (.tmp 47) (.tmp 46)) 0 none (fun K hK => ?_)
        have f0 := NK.S.froz 0 rfl
        have f1 := NK.S.froz 1 rfl
        have f2 := NK.S.froz 2 rfl
        have c2 := NK.S.cell 2 rfl
        go_simp
        clear f0 f1 f2 c2 hw
        replace NK := NK.set2 (t + u)
        try dsimp only
        refine hK.out _ _ trivial ?_; clear hK K hHeld; intro hHeld; try simp only [Act.put, List.setIfInBounds_toArray, List.set_cons_zero, List.set_cons_succ]
        refine wpAnyH_done (by kernel_rfl) ?_ _
        refine NoPanic.normal ?_
        clear hHeld
        go_wp2_with fail
        generalize w10.setCell ⟨q, 2, none⟩ (.int .i64 (t + u)) = wE5 at NK ⊢
        replace NK := NK.drew
        refine wp_region_noPanic ?_
        refine wp_region_held_drew (S := (fun w' => w'.cell? ⟨q, 0, none⟩ = some (.int .i64 (r)) ∧ w'.cell? ⟨q, 1, none⟩ = some (.int .i64 (k)) ∧ w'.cell? ⟨q, 2, none⟩ = some (.int .i64 (t + u)))) (by kernel_rfl) ⟨NK.S.cell 0 rfl, NK.S.cell 1 rfl, NK.S.cell 2 rfl⟩ (fun hHeld => ?_)
        generalize wE5.drew = wd5 at NK hHeld ⊢
        refine Tk.W 0 (some 48) (.move (.tmp 5)) 29 none ?_
        refine Tk.W 1 (some 49) (.load 39 (.tmp 6)) 39 none ?_
        refine Tk.W 2 (some 2) (.assign (.tmp 48)) 29 none ?_
        refine Tk.R 3 none (.store 39 (.tmp 3) (.tmp 49)) 0 none (fun K hK => ?_)
        obtain ⟨x1, x2, x3, RR⟩ := NK.RR
        have g0 := RR.froz 0 rfl
        have g1 := RR.froz 1 rfl
        have g2 := RR.froz 2 rfl
        have h0 := RR.cell 0 rfl
        have h1 := RR.cell 1 rfl
        have h2 := RR.cell 2 rfl
        go_simp
        clear g0 g1 g2 h0 h1 h2
        obtain ⟨⟨N2, N3, N4⟩, RF⟩ := NK.fin B1 RR (r) (k) (t + u)
        try dsimp only
        refine hK.out _ _ ⟨N2.cell 0 rfl, N2.cell 1 rfl, N2.cell 2 rfl⟩ ?_; clear hK K hHeld; intro hHeld; try simp only [Act.put, List.setIfInBounds_toArray, List.set_cons_zero, List.set_cons_succ]
        refine wpAnyH_done (by kernel_rfl) ?_ _
        refine NoPanic.normal ?_
        clear hHeld
        go_wp2_with fail
        refine bodyPost_ret (v := .tuple #[.slice (some ⟨g, 0, none⟩) n c, sl (r) (k) (t + u)]) (ret4 Try.results15 rfl rfl RF) rfl ⟨⟨g, c, n, _, _, _, rfl, n1, zs, N3⟩, N4⟩
      · go_simp
        refine (Dg.l1From' wA B wA.heap.size a len cap (-1) 1 (by omega) (by omega) (by omega) _ NK.st).mono ?_
        rintro e w10 ⟨⟨u, rfl, u0, u1⟩, sx, px⟩
        replace NK := NK.step sx px
        clear sx px
        have hw : IntKind.i64.wrap (t + u) = t + u := by rw [IntKind.wrap_i64]; omega
        try dsimp only
        refine hK.out _ _ trivial ?_; clear hK K hHeld; intro hHeld; try simp only [Act.put, List.setIfInBounds_toArray, List.set_cons_zero, List.set_cons_succ]
        refine Tk.R 1 (some 43) (.load 2 (.tmp 42)) 2 none (fun K hK => ?_)
        have c2 := NK.S.cell 2 rfl
        go_simp
        clear c2
        try dsimp only
        refine hK.out _ _ trivial ?_; clear hK K hHeld; intro hHeld; try simp only [Act.put, List.setIfInBounds_toArray, List.set_cons_zero, List.set_cons_succ]
        refine Tk.W 4 (some 46) (.binOp .add 2 (.tmp 43) (.tmp 45) 2) 2 none ?_
        refine Tk.W 5 (some 47) (.fieldAddr 39 (.tmp 6) 2) 0 none ?_
        refine Tk.R 6 none (.store 2 (.tmp 47) (.tmp 46)) 0 none (fun K hK => ?_)
        have f0 := NK.S.froz 0 rfl
        have f1 := NK.S.froz 1 rfl
        have f2 := NK.S.froz 2 rfl
        have c2 := NK.S.cell 2 rfl
        go_simp
        clear f0 f1 f2 c2 hw
        replace NK := NK.set2 (t + u)
        try dsimp only
        refine hK.out _ _ trivial ?_; clear hK K hHeld; intro hHeld; try simp only [Act.put, List.setIfInBounds_toArray, List.set_cons_zero, List.set_cons_succ]
        refine wpAnyH_done (by kernel_rfl) ?_ _
        refine NoPanic.normal ?_
        clear hHeld
        go_wp2_with fail
        generalize w10.setCell ⟨q, 2, none⟩ (.int .i64 (t + u)) = wE6 at NK ⊢
        replace NK := NK.drew
        refine wp_region_noPanic ?_
        refine wp_region_held_drew (S := (fun w' => w'.cell? ⟨q, 0, none⟩ = some (.int .i64 (r)) ∧ w'.cell? ⟨q, 1, none⟩ = some (.int .i64 (k)) ∧ w'.cell? ⟨q, 2, none⟩ = some (.int .i64 (t + u)))) (by kernel_rfl) ⟨NK.S.cell 0 rfl, NK.S.cell 1 rfl, NK.S.cell 2 rfl⟩ (fun hHeld => ?_)
        generalize wE6.drew = wd6 at NK hHeld ⊢
        refine Tk.W 0 (some 48) (.move (.tmp 5)) 29 none ?_
        refine Tk.W 1 (some 49) (.load 39 (.tmp 6)) 39 none ?_
        refine Tk.W 2 (some 2) (.assign (.tmp 48)) 29 none ?_
        refine Tk.R 3 none (.store 39 (.tmp 3) (.tmp 49)) 0 none (fun K hK => ?_)
        obtain ⟨x1, x2, x3, RR⟩ := NK.RR
        have g0 := RR.froz 0 rfl
        have g1 := RR.froz 1 rfl
        have g2 := RR.froz 2 rfl
        have h0 := RR.cell 0 rfl
        have h1 := RR.cell 1 rfl
        have h2 := RR.cell 2 rfl
        go_simp
        clear g0 g1 g2 h0 h1 h2
        obtain ⟨⟨N2, N3, N4⟩, RF⟩ := NK.fin B1 RR (r) (k) (t + u)
        try dsimp only
        refine hK.out _ _ ⟨N2.cell 0 rfl, N2.cell 1 rfl, N2.cell 2 rfl⟩ ?_; clear hK K hHeld; intro hHeld; try simp only [Act.put, List.setIfInBounds_toArray, List.set_cons_zero, List.set_cons_succ]
        refine wpAnyH_done (by kernel_rfl) ?_ _
        refine NoPanic.normal ?_
        clear hHeld
        go_wp2_with fail
        refine bodyPost_ret (v := .tuple #[.slice (some ⟨g, 0, none⟩) n c, sl (r) (k) (t + u)]) (ret4 Try.results15 rfl rfl RF) rfl ⟨⟨g, c, n, _, _, _, rfl, n1, zs, N3⟩, N4⟩

end Go.Proofs.Ytadmkojlobniaaa.Kd
