/-
  Clocks that are drawn with a hard, and with what they are put right by: spec.l8DrawAt, spec.DrawCorrected.
-/
import Derived.Test.YtcgcmceobmpdiaaDk2
import Derived.Deep.Cut
import Derived.Test.YtcgcmceobmpdiaaTk
namespace Go.Proofs.Ytcgcmceobmpdiaa.Dr
open Go.ChangeShapes Go.WideShapes Go.ChangeAt Go.RowKit
open Ck (clk c3)
set_option linter.unusedVariables false
set_option linter.unusedSimpArgs false

/-- A cursor, a clock, and a result's cells, behind whatever a call has laid. -/
structure Ke (w : World) (B p : Nat) (a : Option Addr) (len cap r q : Nat) (h v o x y z : Int) (w' : World) : Prop where
  cur : IsCur w' B p a len cap
  R : Rm.Room w' q (c3 h v o)
  Q : Rm.Room w' r (c3 x y z)
  bel : Below w.heap.size w w'
  le : w.heap.size ≤ p ∧ p < w'.heap.size ∧ w.heap.size ≤ r ∧ B ≤ r
  ne : r ≠ q ∧ r ≠ p ∧ q ≠ p
section
variable {w : World} {B p : Nat} {a : Option Addr} {len cap r q : Nat} {h v o x y z : Int} {w1 w2 : World}
theorem Ke.st (k : Ke w B p a len cap r q h v o x y z w1) : St w1 B p a len cap w1 := ⟨k.cur, Step.refl _ _⟩
theorem Ke.below (k : Ke w B p a len cap r q h v o x y z w1) (b : Below w1.heap.size w1 w2) : Ke w B p a len cap r q h v o x y z w2 :=
  ⟨(k.st.below b).cur, k.R.below b, k.Q.below b, k.bel.trans (b.mono k.bel.size), by have := k.le; have := b.size; omega, k.ne⟩
theorem Ke.drew (k : Ke w B p a len cap r q h v o x y z w1) : Ke w B p a len cap r q h v o x y z w1.drew := k.below (Below.refl _ _).drew
theorem Ke.step {w0 : World} (k : Ke w B p a len cap r q h v o x y z w1) (s : St w0 B p a len cap w2) (t : Step p w1 w2) : Ke w B p a len cap r q h v o x y z w2 :=
  ⟨s.cur, k.R.block (t.block q (k.R.lt (by simp)) k.ne.2.2), k.Q.block (t.block r (k.Q.lt (by simp)) k.ne.2.1), k.bel.trans (t.below k.le.2.1 k.le.1), by have := k.le; have := t.size; omega, k.ne⟩
theorem Ke.over (k : Ke w B p a len cap r q h v o x y z w1) (x' y' z' : Int) : Ke w B p a len cap r q h v o x' y' z' (((w1.setCell ⟨r, 0, none⟩ (.int .i64 x')).setCell ⟨r, 1, none⟩ (.int .i64 y')).setCell ⟨r, 2, none⟩ (.int .i64 z')) := by
  have n := k.le
  have m := k.ne
  obtain ⟨i, hh, c⟩ := k.cur
  have b := Ck.below3 (Below.refl r w1) (Nat.le_refl _) (.int .i64 x') (.int .i64 y') (.int .i64 z')
  refine ⟨⟨i, hh, c.block (b.mono n.2.2.2) ?_⟩, Ck.other3 k.R m.1 _ _ _, Ck.over3 k.Q _ _ _, Ck.below3 k.bel n.2.2.1 _ _ _, by simpa using n, m⟩
  rw [Below.heap_setCell _ _ _ _ (by simp; omega), Below.heap_setCell _ _ _ _ (by simp; omega), Below.heap_setCell _ _ _ _ (by simp; omega)]
end

set_option maxHeartbeats 8000000 in
theorem l8DrawAt (w0 : World) (B p : Nat) (a : Option Addr) (len cap : Nat) (w : World) (st : St w0 B p a len cap w) :
    Calls Try.prog 37 #[.pointer (some ⟨p, 0, none⟩)] w fun e w' => (∃ h v o s hard : Int, e = .returned (.tuple #[clk h v o, .int .i64 s, .int .i64 hard])) ∧ St w B p a len cap w' := by
  have hl0 := st.lt
  have hle := st.le
  have RR := Rm.Room.new w (c3 0 0 0) 29
  have s1 := st.here.obj (.cells #[.int .i64 0, .int .i64 0, .int .i64 0] 29)
  go_enter Try.func37, Try.ntmps37
  go_wp2_with fail
  refine (l8Draw' w B p a len cap _ s1).mono ?_
  rintro e w2 ⟨⟨h, v, o, s, rfl⟩, s2, p2⟩
  replace RR := RR.block (p2.block _ (RR.lt (by simp)) (by omega))
  have l2 := RR.lt (by simp)
  have NK : Kc w B p a len cap w.heap.size w2.heap.size h v o (w2.alloc (.cells #[.int .i64 h, .int .i64 v, .int .i64 o] 29)) := ⟨s2.obj _, Rm.Room.new w2 (c3 h v o) 29, RR.alloc _, ⟨hl0, hle⟩, Nat.le_refl _, by omega, by omega⟩
  clear s1 s2 p2 RR
  go_wp2_with fail
  generalize (w2.alloc (.cells #[.int .i64 h, .int .i64 v, .int .i64 o] 29)) = w3 at NK ⊢
  refine (l1Below' w B p a len cap 200 (by omega) (by omega) _ NK.st).mono ?_
  rintro e w4 ⟨⟨x, rfl, x0, x1⟩, sx, px⟩
  replace NK := NK.step sx px
  clear sx px
  have c0 := NK.R.cell 0 rfl
  go_wp2_with fail
  clear c0
  refine (Sp.s_l1In 0 1000000000000000 h _).mono ?_
  rintro e w5 ⟨rfl, rfl⟩
  by_cases hh : 0 ≤ h ∧ h ≤ 1000000000000000
  · rw [Ck.lk_yes hh]
    obtain ⟨hh0, hh1⟩ := hh
    have ND := NK.drew
    go_wp2_with fail
    refine wp_region_noPanic ?_
    refine wp_region_held_drew (S := (fun w' => w'.cell? ⟨w2.heap.size, 0, none⟩ = some (.int .i64 h) ∧ Hid (Kc w B p a len cap w.heap.size w2.heap.size h v o w'))) (by kernel_rfl) ⟨ND.R.cell 0 rfl, ND⟩ (fun hHeld => ?_)
    refine Tk.W 0 (some 18) (.fieldAddr 29 (.tmp 5) 0) 0 none ?_
    refine Tk.W 1 (some 19) (.load 2 (.tmp 18)) 2 none ?_
    refine Tk.W 2 (some 20) (.move (.tmp 0)) 55 none ?_
    refine Tk.R 3 (some 21) (.call ⟨.value (.func 41), #[.tmp 20, .const (.int .i64 (-1)), .const (.int .i64 90)], #[55, 2, 2]⟩) 2 none (fun K hK => ?_)
    go_simp
    refine (l1From' w B p a len cap (-1) 90 (by omega) (by omega) (by omega) _ hHeld.2.out.st).mono ?_
    rintro e vk4 ⟨⟨y, rfl, y0, y1⟩, sx, px⟩
    have nkk4 := hHeld.2.out.step sx px
    have kvk4 := Tk.kv hK (w := vk4) ⟨nkk4.R.cell 0 rfl, nkk4⟩
    have vw : IntKind.i64.wrap (h + y) = h + y := by rw [IntKind.wrap_i64]; omega
    clear nkk4 sx px
    try dsimp only
    refine hK.out _ _ kvk4 ?_; clear hK K hHeld; intro hHeld; try simp only [Act.put, List.setIfInBounds_toArray, List.set_cons_zero, List.set_cons_succ]
    refine Tk.W 4 (some 22) (.binOp .add 2 (.tmp 19) (.tmp 21) 2) 2 none ?_
    refine Tk.W 5 (some 7) (.assign (.tmp 22)) 2 none ?_
    refine wpAnyH_done (by kernel_rfl) ?_ _
    refine NoPanic.normal ?_
    clear NK ND
    have NK := hHeld.2.out
    clear hHeld
    go_wp2_with fail
    refine (l1Once' w B p a len cap 12 (by omega) (by omega) _ NK.st).mono ?_
    rintro e w5 ⟨⟨t, rfl⟩, sx, px⟩
    replace NK := NK.step sx px
    clear sx px
    cases t with
    | false =>
      have c0 := NK.R.cell 0 rfl
      have c1 := NK.R.cell 1 rfl
      have c2 := NK.R.cell 2 rfl
      have d0 := NK.Q.cell 0 rfl
      have d1 := NK.Q.cell 1 rfl
      have d2 := NK.Q.cell 2 rfl
      have f0 := NK.Q.froz 0 rfl
      have f1 := NK.Q.froz 1 rfl
      have f2 := NK.Q.froz 2 rfl
      go_wp2_with fail
      obtain ⟨sz, rz⟩ := NK.over h v o
      refine bodyPost_ret (v := .tuple #[clk h v o, .int .i64 s, .int .i64 (h + y)]) (ret4 Try.results37 rfl rfl rfl rz) rfl ⟨⟨h, v, o, s, (h + y), rfl⟩, sz⟩
    | true =>
      go_wp2_with fail
      refine (l1Odd' w B p a len cap _ NK.st).mono ?_
      rintro e w6 ⟨⟨y, rfl, y0, y1⟩, sx, px⟩
      replace NK := NK.step sx px
      clear sx px
      go_wp2_with fail
      have b9 : Below w6.heap.size w6 (w6.alloc (.cells #[.int .i64 (1000000000000000), .int .i64 (1000000000000001), .int .i64 (y)] 2)) := (Below.refl _ w6).alloc (Nat.le_refl _) _
      refine (l1Below' w B p a len cap 3 (by omega) (by omega) _ (NK.below b9).st).mono ?_
      rintro e w9 ⟨⟨k, rfl, k0, k1⟩, sx, px⟩
      obtain ⟨k, rfl⟩ := Int.eq_ofNat_of_zero_le k0
      have hc := lit_cell NK.st px k
      replace NK := (NK.below b9).step sx px
      clear sx px b9
      obtain ⟨u, hu⟩ : ∃ u : Int, w9.cell? ⟨w6.heap.size, k, none⟩ = some (.int .i64 u) := by
        rw [hc]
        rcases (show k = 0 ∨ k = 1 ∨ k = 2 by omega) with rfl | rfl | rfl
        all_goals exact ⟨_, rfl⟩
      clear hc
      have c0 := NK.R.cell 0 rfl
      have c1 := NK.R.cell 1 rfl
      have c2 := NK.R.cell 2 rfl
      have d0 := NK.Q.cell 0 rfl
      have d1 := NK.Q.cell 1 rfl
      have d2 := NK.Q.cell 2 rfl
      have f0 := NK.Q.froz 0 rfl
      have f1 := NK.Q.froz 1 rfl
      have f2 := NK.Q.froz 2 rfl
      go_wp2_with fail
      obtain ⟨sz, rz⟩ := NK.over h v o
      refine bodyPost_ret (v := .tuple #[clk h v o, .int .i64 s, .int .i64 u]) (ret4 Try.results37 rfl rfl rfl rz) rfl ⟨⟨h, v, o, s, u, rfl⟩, sz⟩
  · rw [Ck.lk_no hh]
    have HH : Hid (¬ (0 ≤ h ∧ h ≤ 1000000000000000)) := hh
    clear hh
    go_wp2_with fail
    refine (l1Once' w B p a len cap 12 (by omega) (by omega) _ NK.st).mono ?_
    rintro e w5 ⟨⟨t, rfl⟩, sx, px⟩
    replace NK := NK.step sx px
    clear sx px
    cases t with
    | false =>
      have c0 := NK.R.cell 0 rfl
      have c1 := NK.R.cell 1 rfl
      have c2 := NK.R.cell 2 rfl
      have d0 := NK.Q.cell 0 rfl
      have d1 := NK.Q.cell 1 rfl
      have d2 := NK.Q.cell 2 rfl
      have f0 := NK.Q.froz 0 rfl
      have f1 := NK.Q.froz 1 rfl
      have f2 := NK.Q.froz 2 rfl
      go_wp2_with fail
      obtain ⟨sz, rz⟩ := NK.over h v o
      refine bodyPost_ret (v := .tuple #[clk h v o, .int .i64 s, .int .i64 x]) (ret4 Try.results37 rfl rfl rfl rz) rfl ⟨⟨h, v, o, s, x, rfl⟩, sz⟩
    | true =>
      go_wp2_with fail
      refine (l1Odd' w B p a len cap _ NK.st).mono ?_
      rintro e w6 ⟨⟨y, rfl, y0, y1⟩, sx, px⟩
      replace NK := NK.step sx px
      clear sx px
      go_wp2_with fail
      have b9 : Below w6.heap.size w6 (w6.alloc (.cells #[.int .i64 (1000000000000000), .int .i64 (1000000000000001), .int .i64 (y)] 2)) := (Below.refl _ w6).alloc (Nat.le_refl _) _
      refine (l1Below' w B p a len cap 3 (by omega) (by omega) _ (NK.below b9).st).mono ?_
      rintro e w9 ⟨⟨k, rfl, k0, k1⟩, sx, px⟩
      obtain ⟨k, rfl⟩ := Int.eq_ofNat_of_zero_le k0
      have hc := lit_cell NK.st px k
      replace NK := (NK.below b9).step sx px
      clear sx px b9
      obtain ⟨u, hu⟩ : ∃ u : Int, w9.cell? ⟨w6.heap.size, k, none⟩ = some (.int .i64 u) := by
        rw [hc]
        rcases (show k = 0 ∨ k = 1 ∨ k = 2 by omega) with rfl | rfl | rfl
        all_goals exact ⟨_, rfl⟩
      clear hc
      have c0 := NK.R.cell 0 rfl
      have c1 := NK.R.cell 1 rfl
      have c2 := NK.R.cell 2 rfl
      have d0 := NK.Q.cell 0 rfl
      have d1 := NK.Q.cell 1 rfl
      have d2 := NK.Q.cell 2 rfl
      have f0 := NK.Q.froz 0 rfl
      have f1 := NK.Q.froz 1 rfl
      have f2 := NK.Q.froz 2 rfl
      go_wp2_with fail
      obtain ⟨sz, rz⟩ := NK.over h v o
      refine bodyPost_ret (v := .tuple #[clk h v o, .int .i64 s, .int .i64 u]) (ret4 Try.results37 rfl rfl rfl rz) rfl ⟨⟨h, v, o, s, u, rfl⟩, sz⟩

theorem l8DrawAt' (w0 : World) (B p : Nat) (a : Option Addr) (len cap : Nat) (w : World) (st : St w0 B p a len cap w) :
    Calls Try.prog 37 #[.pointer (some ⟨p, 0, none⟩)] w fun e w' => (∃ h v o s hard : Int, e = .returned (.tuple #[clk h v o, .int .i64 s, .int .i64 hard])) ∧ St w0 B p a len cap w' ∧ Step p w w' :=
  (l8DrawAt w0 B p a len cap w st).mono fun e w' ⟨h, s⟩ => ⟨h, St.on st.step s, s.step⟩

set_option maxHeartbeats 8000000 in
theorem drawCorrected (B : Nat) (a : Option Addr) (len cap : Nat) (w : World) (hB : B ≤ w.heap.size) (hc : Code w B a len) :
    Calls Try.prog 21 #[.slice a len cap] w fun e w' => (∃ h v o s hard y : Int, e = .returned (.tuple #[clk h v o, .int .i64 s, .int .i64 hard, .int .i64 y])) ∧ Below w.heap.size w w' := by
  have R := Rm.Room.new w (c3 0 0 0) 29
  have B1 := (Below.refl w.heap.size w).alloc (Nat.le_refl _) (.cells #[.int .i64 0, .int .i64 0, .int .i64 0] 29)
  go_enter Try.func21, Try.ntmps21
  go_wp2_with fail
  refine (l1New B a len cap _ (by simp; omega) (hc.later (B1.mono hB))).mono ?_
  rintro e w1 ⟨rfl, st1⟩
  have q1 := st1.step.size
  replace R := R.block (st1.step.block _ (R.lt (by simp)) (by simp))
  simp only [World.size_alloc] at st1 q1
  have hb1 : Below w.heap.size w w1 := B1.trans ((st1.step.fresh (by simp)).mono (by simp))
  have l1 := st1.lt
  go_wp2_with fail
  refine (l8DrawAt' w1 B (w.heap.size + 1) a len cap w1 st1.here).mono ?_
  rintro e w2 ⟨⟨h, v, o, s, hard, rfl⟩, st2, p2⟩
  replace R := R.block (p2.block _ (R.lt (by simp)) (by simp))
  have l2 := st2.lt
  have st3 := (St.here st2).obj (.cells #[.int .i64 h, .int .i64 v, .int .i64 o] 29)
  have hb2 : Below w.heap.size w w2 := hb1.trans (p2.below l1 (by omega))
  have NK : Ke w B (w.heap.size + 1) a len cap w.heap.size w2.heap.size h v o 0 0 0 (w2.alloc (.cells #[.int .i64 h, .int .i64 v, .int .i64 o] 29)) := ⟨((St.here st2).obj (.cells #[.int .i64 h, .int .i64 v, .int .i64 o] 29)).cur, Rm.Room.new w2 (c3 h v o) 29, R.alloc _, hb2.alloc hb2.size _, by simp; omega, by omega⟩
  clear st1 st2 st3 p2 R B1 hb1 hb2
  go_wp2_with fail
  generalize (w2.alloc (.cells #[.int .i64 h, .int .i64 v, .int .i64 o] 29)) = w3 at NK ⊢
  refine (l1Once' _ B (w.heap.size + 1) a len cap 10 (by omega) (by omega) _ NK.st).mono ?_
  rintro e w4 ⟨⟨t, rfl⟩, sx, px⟩
  replace NK := NK.step sx px
  clear sx px
  cases t with
  | false =>
    have ND := NK.drew
    go_wp2_with fail
    refine wp_region_noPanic ?_
    refine wp_region_held_drew (S := (fun w' => w'.cell? ⟨w2.heap.size, 0, none⟩ = some (.int .i64 h) ∧ w'.cell? ⟨w2.heap.size, 1, none⟩ = some (.int .i64 v) ∧ w'.cell? ⟨w2.heap.size, 2, none⟩ = some (.int .i64 o) ∧ Hid ((∃ x y z : Int, Ke w B (w.heap.size + 1) a len cap w.heap.size w2.heap.size h v o x y z w')))) (by kernel_rfl) ⟨ND.R.cell 0 rfl, ND.R.cell 1 rfl, ND.R.cell 2 rfl, ⟨0, 0, 0, ND⟩⟩ (fun hHeld => ?_)
    refine Tk.W 0 (some 30) (.load 29 (.tmp 7)) 29 none ?_
    refine Tk.W 1 (some 31) (.move (.tmp 8)) 2 none ?_
    refine Tk.W 2 (some 32) (.move (.tmp 9)) 2 none ?_
    refine Tk.W 3 (some 33) (.move (.tmp 6)) 55 none ?_
    refine Tk.R 4 (some 34) (.call ⟨.value (.func 41), #[.tmp 33, .const (.int .i64 (-15)), .const (.int .i64 15)], #[55, 2, 2]⟩) 2 none (fun K hK => ?_)
    obtain ⟨x_, y_, z_, KEm5⟩ := hHeld.2.2.2.out
    go_simp
    refine (l1From' _ B (w.heap.size + 1) a len cap (-15) 15 (by omega) (by omega) (by omega) _ KEm5.st.here).mono ?_
    rintro e wB ⟨⟨y, rfl, y0, y1⟩, sx, px⟩
    have nkm5 := KEm5.step sx px
    have kvm5 := Tk.kv hK (w := wB) ⟨nkm5.R.cell 0 rfl, nkm5.R.cell 1 rfl, nkm5.R.cell 2 rfl, ⟨x_, y_, z_, nkm5⟩⟩
    clear nkm5 sx px KEm5
    try dsimp only
    refine hK.out _ _ kvm5 ?_; clear hK K hHeld; intro hHeld; try simp only [Act.put, List.setIfInBounds_toArray, List.set_cons_zero, List.set_cons_succ]
    refine Tk.R 5 none (.store 29 (.tmp 2) (.tmp 30)) 0 none (fun K hK => ?_)
    obtain ⟨x_, y_, z_, ke⟩ := hHeld.2.2.2.out
    have d0 := ke.Q.cell 0 rfl
    have d1 := ke.Q.cell 1 rfl
    have d2 := ke.Q.cell 2 rfl
    have f0 := ke.Q.froz 0 rfl
    have f1 := ke.Q.froz 1 rfl
    have f2 := ke.Q.froz 2 rfl
    go_simp
    clear d0 d1 d2 f0 f1 f2
    have NX := ke.over h v o
    have kvm6 := Tk.kv hK (w := ((((wB).setCell ⟨w.heap.size, 0, none⟩ (.int .i64 h)).setCell ⟨w.heap.size, 1, none⟩ (.int .i64 v)).setCell ⟨w.heap.size, 2, none⟩ (.int .i64 o))) ⟨NX.R.cell 0 rfl, NX.R.cell 1 rfl, NX.R.cell 2 rfl, ⟨h, v, o, NX⟩⟩
    clear ke
    generalize ((((wB).setCell ⟨w.heap.size, 0, none⟩ (.int .i64 h)).setCell ⟨w.heap.size, 1, none⟩ (.int .i64 v)).setCell ⟨w.heap.size, 2, none⟩ (.int .i64 o)) = wS at NX kvm6 ⊢
    try dsimp only
    refine hK.out _ _ kvm6 ?_; clear hK K hHeld; intro hHeld; try simp only [Act.put, List.setIfInBounds_toArray, List.set_cons_zero, List.set_cons_succ]
    refine Tk.W 6 (some 3) (.assign (.tmp 31)) 2 none ?_
    refine Tk.W 7 (some 4) (.assign (.tmp 32)) 2 none ?_
    refine Tk.W 8 (some 5) (.assign (.tmp 34)) 2 none ?_
    refine wpAnyH_done (by kernel_rfl) ?_ _
    refine NoPanic.normal ?_
    clear hHeld
    go_wp2_with fail
    refine bodyPost_ret (v := .tuple #[clk h v o, .int .i64 s, .int .i64 hard, .int .i64 y]) (ret5 Try.results21 rfl rfl rfl rfl NX.Q) rfl ⟨⟨h, v, o, s, hard, y, rfl⟩, NX.bel⟩
  | true =>
    have ND := NK.drew
    go_wp2_with fail
    refine wp_region_noPanic ?_
    refine wp_region_held_drew (S := (fun w' => w'.cell? ⟨w2.heap.size, 0, none⟩ = some (.int .i64 h) ∧ w'.cell? ⟨w2.heap.size, 1, none⟩ = some (.int .i64 v) ∧ w'.cell? ⟨w2.heap.size, 2, none⟩ = some (.int .i64 o) ∧ Hid ((∃ x y z : Int, Ke w B (w.heap.size + 1) a len cap w.heap.size w2.heap.size h v o x y z w')))) (by kernel_rfl) ⟨ND.R.cell 0 rfl, ND.R.cell 1 rfl, ND.R.cell 2 rfl, ⟨0, 0, 0, ND⟩⟩ (fun hHeld => ?_)
    refine Tk.W 0 (some 20) (.load 29 (.tmp 7)) 29 none ?_
    refine Tk.W 1 (some 21) (.move (.tmp 8)) 2 none ?_
    refine Tk.W 2 (some 22) (.move (.tmp 9)) 2 none ?_
    refine Tk.W 3 (some 23) (.move (.tmp 6)) 55 none ?_
    refine Tk.W 6 (some 26) (.move (.tmp 6)) 55 none ?_
    refine Tk.R 4 (some 24) (.call ⟨.value (.func 39), #[.tmp 23], #[55]⟩) 2 none (fun K hK => ?_)
    obtain ⟨x_, y_, z_, KEn6⟩ := hHeld.2.2.2.out
    go_simp
    refine (l1Odd' _ B (w.heap.size + 1) a len cap _ KEn6.st.here).mono ?_
    rintro e wO ⟨⟨y, rfl, y0, y1⟩, sx, px⟩
    have nkn6 := KEn6.step sx px
    have kvn6 := Tk.kv hK (w := wO) ⟨nkn6.R.cell 0 rfl, nkn6.R.cell 1 rfl, nkn6.R.cell 2 rfl, ⟨x_, y_, z_, nkn6⟩⟩
    clear nkn6 sx px KEn6
    try dsimp only
    refine hK.out _ _ kvn6 ?_; clear hK K hHeld; intro hHeld; try simp only [Act.put, List.setIfInBounds_toArray, List.set_cons_zero, List.set_cons_succ]
    refine wpAnyH_ready (rs := [5, 7]) (by kernel_rfl) (by simp) ?_
    refine (AllReadyH.cons (o := ⟨some 25, .buildSlice 62 4 #[(0, .const (.int .i64 1000000000000000)), (1, .const (.int .i64 (-1000000000000000))), (2, .const (.int .i64 1000000000000001)), (3, .tmp 24)], 62, _, _, none⟩) rfl (fun K hK => ?_) (AllReadyH.cons (o := ⟨some 27, .call ⟨.value (.func 40), #[.tmp 26, .const (.int .i64 4)], #[55, 2]⟩, 2, _, _, none⟩) rfl (fun K hK => ?_) AllReadyH.nil))
    · go_simp
      have bn7 : Below wO.heap.size wO (wO.alloc (.cells #[.int .i64 (1000000000000000), .int .i64 (-1000000000000000), .int .i64 (1000000000000001), .int .i64 (y)] 2)) := (Below.refl wO.heap.size wO).alloc (Nat.le_refl _) (.cells #[.int .i64 (1000000000000000), .int .i64 (-1000000000000000), .int .i64 (1000000000000001), .int .i64 (y)] 2)
      obtain ⟨x_, y_, z_, ken7⟩ := hHeld.2.2.2.out
      have nkn7 := ken7.below bn7
      have lp := ken7.le.2.1
      have kvn7 := Tk.kv hK (w := (wO.alloc (.cells #[.int .i64 (1000000000000000), .int .i64 (-1000000000000000), .int .i64 (1000000000000001), .int .i64 (y)] 2))) ⟨nkn7.R.cell 0 rfl, nkn7.R.cell 1 rfl, nkn7.R.cell 2 rfl, ⟨x_, y_, z_, nkn7⟩⟩
      have RL := Rm.Room.new wO [.int .i64 (1000000000000000), .int .i64 (-1000000000000000), .int .i64 (1000000000000001), .int .i64 (y)] 2
      clear bn7 nkn7 ken7
      generalize (wO.alloc (.cells #[.int .i64 (1000000000000000), .int .i64 (-1000000000000000), .int .i64 (1000000000000001), .int .i64 (y)] 2)) = wA at RL kvn7 ⊢
      try dsimp only
      refine hK.out _ _ kvn7 ?_; clear hK K hHeld; intro hHeld; try simp only [Act.put, List.setIfInBounds_toArray, List.set_cons_zero, List.set_cons_succ]
      refine Tk.R 7 (some 27) (.call ⟨.value (.func 40), #[.tmp 26, .const (.int .i64 4)], #[55, 2]⟩) 2 none (fun K hK => ?_)
      obtain ⟨x_, y_, z_, KEn8⟩ := hHeld.2.2.2.out
      go_simp
      refine (l1Below' _ B (w.heap.size + 1) a len cap 4 (by omega) (by omega) _ KEn8.st.here).mono ?_
      rintro e wB ⟨⟨k, rfl, k0, k1⟩, sx, px⟩
      have nkn8 := KEn8.step sx px
      have kvn8 := Tk.kv hK (w := wB) ⟨nkn8.R.cell 0 rfl, nkn8.R.cell 1 rfl, nkn8.R.cell 2 rfl, ⟨x_, y_, z_, nkn8⟩⟩
      replace RL := RL.block (px.block _ (RL.lt (by simp)) (by omega))
      clear nkn8 sx px KEn8
      try dsimp only
      refine hK.out _ _ kvn8 ?_; clear hK K hHeld; intro hHeld; try simp only [Act.put, List.setIfInBounds_toArray, List.set_cons_zero, List.set_cons_succ]
      refine Tk.W 8 (some 28) (.indexAddr 62 (.tmp 25) (.tmp 27)) 0 none ?_
      refine wpAnyH_ready (rs := [9, 10]) (by kernel_rfl) (by simp) ?_
      refine (AllReadyH.cons (o := ⟨some 29, .load 2 (.tmp 28), 2, _, _, none⟩) rfl (fun K hK => ?_) (AllReadyH.cons (o := ⟨none, .store 29 (.tmp 2) (.tmp 20), 0, _, _, none⟩) rfl (fun K hK => ?_) AllReadyH.nil))
      · obtain ⟨k, rfl⟩ := Int.eq_ofNat_of_zero_le k0
        obtain ⟨u, hu⟩ : ∃ u : Int, [(.int .i64 1000000000000000 : Value), .int .i64 (-1000000000000000), .int .i64 1000000000000001, .int .i64 y][k]? = some (.int .i64 u) := by
          rcases (show k = 0 ∨ k = 1 ∨ k = 2 ∨ k = 3 by omega) with rfl | rfl | rfl | rfl
          all_goals exact ⟨_, rfl⟩
        have hL := RL.cell k hu
        go_simp
        have kvn10 : (fun w' => w'.cell? ⟨w2.heap.size, 0, none⟩ = some (.int .i64 h) ∧ w'.cell? ⟨w2.heap.size, 1, none⟩ = some (.int .i64 v) ∧ w'.cell? ⟨w2.heap.size, 2, none⟩ = some (.int .i64 o) ∧ Hid ((∃ x y z : Int, Ke w B (w.heap.size + 1) a len cap w.heap.size w2.heap.size h v o x y z w'))) _ := hHeld
        try dsimp only
        refine hK.out _ _ kvn10 ?_; clear hK K hHeld; intro hHeld; try simp only [Act.put, List.setIfInBounds_toArray, List.set_cons_zero, List.set_cons_succ]
        refine Tk.R 10 none (.store 29 (.tmp 2) (.tmp 20)) 0 none (fun K hK => ?_)
        obtain ⟨x_, y_, z_, ke⟩ := hHeld.2.2.2.out
        have d0 := ke.Q.cell 0 rfl
        have d1 := ke.Q.cell 1 rfl
        have d2 := ke.Q.cell 2 rfl
        have f0 := ke.Q.froz 0 rfl
        have f1 := ke.Q.froz 1 rfl
        have f2 := ke.Q.froz 2 rfl
        go_simp
        clear d0 d1 d2 f0 f1 f2
        have NX := ke.over h v o
        have kvn11 := Tk.kv hK (w := ((((wB).setCell ⟨w.heap.size, 0, none⟩ (.int .i64 h)).setCell ⟨w.heap.size, 1, none⟩ (.int .i64 v)).setCell ⟨w.heap.size, 2, none⟩ (.int .i64 o))) ⟨NX.R.cell 0 rfl, NX.R.cell 1 rfl, NX.R.cell 2 rfl, ⟨h, v, o, NX⟩⟩
        replace RL := Ck.other3 RL (q := w.heap.size) (by omega) (.int .i64 h) (.int .i64 v) (.int .i64 o)
        clear ke
        generalize ((((wB).setCell ⟨w.heap.size, 0, none⟩ (.int .i64 h)).setCell ⟨w.heap.size, 1, none⟩ (.int .i64 v)).setCell ⟨w.heap.size, 2, none⟩ (.int .i64 o)) = wS at NX kvn11 RL ⊢
        try dsimp only
        refine hK.out _ _ kvn11 ?_; clear hK K hHeld; intro hHeld; try simp only [Act.put, List.setIfInBounds_toArray, List.set_cons_zero, List.set_cons_succ]
        refine Tk.W 11 (some 3) (.assign (.tmp 21)) 2 none ?_
        refine Tk.W 12 (some 4) (.assign (.tmp 22)) 2 none ?_
        refine Tk.W 13 (some 5) (.assign (.tmp 29)) 2 none ?_
        refine wpAnyH_done (by kernel_rfl) ?_ _
        refine NoPanic.normal ?_
        clear hHeld
        go_wp2_with fail
        refine bodyPost_ret (v := .tuple #[clk h v o, .int .i64 s, .int .i64 hard, .int .i64 u]) (ret5 Try.results21 rfl rfl rfl rfl NX.Q) rfl ⟨⟨h, v, o, s, hard, u, rfl⟩, NX.bel⟩
      · obtain ⟨x_, y_, z_, ke⟩ := hHeld.2.2.2.out
        have d0 := ke.Q.cell 0 rfl
        have d1 := ke.Q.cell 1 rfl
        have d2 := ke.Q.cell 2 rfl
        have f0 := ke.Q.froz 0 rfl
        have f1 := ke.Q.froz 1 rfl
        have f2 := ke.Q.froz 2 rfl
        go_simp
        clear d0 d1 d2 f0 f1 f2
        have NX := ke.over h v o
        have kvn15 := Tk.kv hK (w := ((((wB).setCell ⟨w.heap.size, 0, none⟩ (.int .i64 h)).setCell ⟨w.heap.size, 1, none⟩ (.int .i64 v)).setCell ⟨w.heap.size, 2, none⟩ (.int .i64 o))) ⟨NX.R.cell 0 rfl, NX.R.cell 1 rfl, NX.R.cell 2 rfl, ⟨h, v, o, NX⟩⟩
        replace RL := Ck.other3 RL (q := w.heap.size) (by omega) (.int .i64 h) (.int .i64 v) (.int .i64 o)
        clear ke
        generalize ((((wB).setCell ⟨w.heap.size, 0, none⟩ (.int .i64 h)).setCell ⟨w.heap.size, 1, none⟩ (.int .i64 v)).setCell ⟨w.heap.size, 2, none⟩ (.int .i64 o)) = wS at NX kvn15 RL ⊢
        try dsimp only
        refine hK.out _ _ kvn15 ?_; clear hK K hHeld; intro hHeld; try simp only [Act.put, List.setIfInBounds_toArray, List.set_cons_zero, List.set_cons_succ]
        refine Tk.W 11 (some 3) (.assign (.tmp 21)) 2 none ?_
        refine Tk.W 12 (some 4) (.assign (.tmp 22)) 2 none ?_
        refine Tk.R 9 (some 29) (.load 2 (.tmp 28)) 2 none (fun K hK => ?_)
        obtain ⟨k, rfl⟩ := Int.eq_ofNat_of_zero_le k0
        obtain ⟨u, hu⟩ : ∃ u : Int, [(.int .i64 1000000000000000 : Value), .int .i64 (-1000000000000000), .int .i64 1000000000000001, .int .i64 y][k]? = some (.int .i64 u) := by
          rcases (show k = 0 ∨ k = 1 ∨ k = 2 ∨ k = 3 by omega) with rfl | rfl | rfl | rfl
          all_goals exact ⟨_, rfl⟩
        have hL := RL.cell k hu
        go_simp
        have kvn18 : (fun w' => w'.cell? ⟨w2.heap.size, 0, none⟩ = some (.int .i64 h) ∧ w'.cell? ⟨w2.heap.size, 1, none⟩ = some (.int .i64 v) ∧ w'.cell? ⟨w2.heap.size, 2, none⟩ = some (.int .i64 o) ∧ Hid ((∃ x y z : Int, Ke w B (w.heap.size + 1) a len cap w.heap.size w2.heap.size h v o x y z w'))) _ := hHeld
        try dsimp only
        refine hK.out _ _ kvn18 ?_; clear hK K hHeld; intro hHeld; try simp only [Act.put, List.setIfInBounds_toArray, List.set_cons_zero, List.set_cons_succ]
        refine Tk.W 13 (some 5) (.assign (.tmp 29)) 2 none ?_
        refine wpAnyH_done (by kernel_rfl) ?_ _
        refine NoPanic.normal ?_
        clear hHeld
        go_wp2_with fail
        refine bodyPost_ret (v := .tuple #[clk h v o, .int .i64 s, .int .i64 hard, .int .i64 u]) (ret5 Try.results21 rfl rfl rfl rfl NX.Q) rfl ⟨⟨h, v, o, s, hard, u, rfl⟩, NX.bel⟩
    · obtain ⟨x_, y_, z_, KEn20⟩ := hHeld.2.2.2.out
      go_simp
      refine (l1Below' _ B (w.heap.size + 1) a len cap 4 (by omega) (by omega) _ KEn20.st.here).mono ?_
      rintro e wB ⟨⟨k, rfl, k0, k1⟩, sx, px⟩
      have nkn20 := KEn20.step sx px
      have kvn20 := Tk.kv hK (w := wB) ⟨nkn20.R.cell 0 rfl, nkn20.R.cell 1 rfl, nkn20.R.cell 2 rfl, ⟨x_, y_, z_, nkn20⟩⟩
      clear nkn20 sx px KEn20
      try dsimp only
      refine hK.out _ _ kvn20 ?_; clear hK K hHeld; intro hHeld; try simp only [Act.put, List.setIfInBounds_toArray, List.set_cons_zero, List.set_cons_succ]
      refine wpAnyH_ready (rs := [5, 10]) (by kernel_rfl) (by simp) ?_
      refine (AllReadyH.cons (o := ⟨some 25, .buildSlice 62 4 #[(0, .const (.int .i64 1000000000000000)), (1, .const (.int .i64 (-1000000000000000))), (2, .const (.int .i64 1000000000000001)), (3, .tmp 24)], 62, _, _, none⟩) rfl (fun K hK => ?_) (AllReadyH.cons (o := ⟨none, .store 29 (.tmp 2) (.tmp 20), 0, _, _, none⟩) rfl (fun K hK => ?_) AllReadyH.nil))
      · go_simp
        have bn21 : Below wB.heap.size wB (wB.alloc (.cells #[.int .i64 (1000000000000000), .int .i64 (-1000000000000000), .int .i64 (1000000000000001), .int .i64 (y)] 2)) := (Below.refl wB.heap.size wB).alloc (Nat.le_refl _) (.cells #[.int .i64 (1000000000000000), .int .i64 (-1000000000000000), .int .i64 (1000000000000001), .int .i64 (y)] 2)
        obtain ⟨x_, y_, z_, ken21⟩ := hHeld.2.2.2.out
        have nkn21 := ken21.below bn21
        have lp := ken21.le.2.1
        have kvn21 := Tk.kv hK (w := (wB.alloc (.cells #[.int .i64 (1000000000000000), .int .i64 (-1000000000000000), .int .i64 (1000000000000001), .int .i64 (y)] 2))) ⟨nkn21.R.cell 0 rfl, nkn21.R.cell 1 rfl, nkn21.R.cell 2 rfl, ⟨x_, y_, z_, nkn21⟩⟩
        have RL := Rm.Room.new wB [.int .i64 (1000000000000000), .int .i64 (-1000000000000000), .int .i64 (1000000000000001), .int .i64 (y)] 2
        clear bn21 nkn21 ken21
        generalize (wB.alloc (.cells #[.int .i64 (1000000000000000), .int .i64 (-1000000000000000), .int .i64 (1000000000000001), .int .i64 (y)] 2)) = wA at RL kvn21 ⊢
        try dsimp only
        refine hK.out _ _ kvn21 ?_; clear hK K hHeld; intro hHeld; try simp only [Act.put, List.setIfInBounds_toArray, List.set_cons_zero, List.set_cons_succ]
        refine Tk.W 8 (some 28) (.indexAddr 62 (.tmp 25) (.tmp 27)) 0 none ?_
        refine wpAnyH_ready (rs := [9, 10]) (by kernel_rfl) (by simp) ?_
        refine (AllReadyH.cons (o := ⟨some 29, .load 2 (.tmp 28), 2, _, _, none⟩) rfl (fun K hK => ?_) (AllReadyH.cons (o := ⟨none, .store 29 (.tmp 2) (.tmp 20), 0, _, _, none⟩) rfl (fun K hK => ?_) AllReadyH.nil))
        · obtain ⟨k, rfl⟩ := Int.eq_ofNat_of_zero_le k0
          obtain ⟨u, hu⟩ : ∃ u : Int, [(.int .i64 1000000000000000 : Value), .int .i64 (-1000000000000000), .int .i64 1000000000000001, .int .i64 y][k]? = some (.int .i64 u) := by
            rcases (show k = 0 ∨ k = 1 ∨ k = 2 ∨ k = 3 by omega) with rfl | rfl | rfl | rfl
            all_goals exact ⟨_, rfl⟩
          have hL := RL.cell k hu
          go_simp
          have kvn23 : (fun w' => w'.cell? ⟨w2.heap.size, 0, none⟩ = some (.int .i64 h) ∧ w'.cell? ⟨w2.heap.size, 1, none⟩ = some (.int .i64 v) ∧ w'.cell? ⟨w2.heap.size, 2, none⟩ = some (.int .i64 o) ∧ Hid ((∃ x y z : Int, Ke w B (w.heap.size + 1) a len cap w.heap.size w2.heap.size h v o x y z w'))) _ := hHeld
          try dsimp only
          refine hK.out _ _ kvn23 ?_; clear hK K hHeld; intro hHeld; try simp only [Act.put, List.setIfInBounds_toArray, List.set_cons_zero, List.set_cons_succ]
          refine Tk.R 10 none (.store 29 (.tmp 2) (.tmp 20)) 0 none (fun K hK => ?_)
          obtain ⟨x_, y_, z_, ke⟩ := hHeld.2.2.2.out
          have d0 := ke.Q.cell 0 rfl
          have d1 := ke.Q.cell 1 rfl
          have d2 := ke.Q.cell 2 rfl
          have f0 := ke.Q.froz 0 rfl
          have f1 := ke.Q.froz 1 rfl
          have f2 := ke.Q.froz 2 rfl
          go_simp
          clear d0 d1 d2 f0 f1 f2
          have NX := ke.over h v o
          have kvn24 := Tk.kv hK (w := ((((wA).setCell ⟨w.heap.size, 0, none⟩ (.int .i64 h)).setCell ⟨w.heap.size, 1, none⟩ (.int .i64 v)).setCell ⟨w.heap.size, 2, none⟩ (.int .i64 o))) ⟨NX.R.cell 0 rfl, NX.R.cell 1 rfl, NX.R.cell 2 rfl, ⟨h, v, o, NX⟩⟩
          replace RL := Ck.other3 RL (q := w.heap.size) (by omega) (.int .i64 h) (.int .i64 v) (.int .i64 o)
          clear ke
          generalize ((((wA).setCell ⟨w.heap.size, 0, none⟩ (.int .i64 h)).setCell ⟨w.heap.size, 1, none⟩ (.int .i64 v)).setCell ⟨w.heap.size, 2, none⟩ (.int .i64 o)) = wS at NX kvn24 RL ⊢
          try dsimp only
          refine hK.out _ _ kvn24 ?_; clear hK K hHeld; intro hHeld; try simp only [Act.put, List.setIfInBounds_toArray, List.set_cons_zero, List.set_cons_succ]
          refine Tk.W 11 (some 3) (.assign (.tmp 21)) 2 none ?_
          refine Tk.W 12 (some 4) (.assign (.tmp 22)) 2 none ?_
          refine Tk.W 13 (some 5) (.assign (.tmp 29)) 2 none ?_
          refine wpAnyH_done (by kernel_rfl) ?_ _
          refine NoPanic.normal ?_
          clear hHeld
          go_wp2_with fail
          refine bodyPost_ret (v := .tuple #[clk h v o, .int .i64 s, .int .i64 hard, .int .i64 u]) (ret5 Try.results21 rfl rfl rfl rfl NX.Q) rfl ⟨⟨h, v, o, s, hard, u, rfl⟩, NX.bel⟩
        · obtain ⟨x_, y_, z_, ke⟩ := hHeld.2.2.2.out
          have d0 := ke.Q.cell 0 rfl
          have d1 := ke.Q.cell 1 rfl
          have d2 := ke.Q.cell 2 rfl
          have f0 := ke.Q.froz 0 rfl
          have f1 := ke.Q.froz 1 rfl
          have f2 := ke.Q.froz 2 rfl
          go_simp
          clear d0 d1 d2 f0 f1 f2
          have NX := ke.over h v o
          have kvn28 := Tk.kv hK (w := ((((wA).setCell ⟨w.heap.size, 0, none⟩ (.int .i64 h)).setCell ⟨w.heap.size, 1, none⟩ (.int .i64 v)).setCell ⟨w.heap.size, 2, none⟩ (.int .i64 o))) ⟨NX.R.cell 0 rfl, NX.R.cell 1 rfl, NX.R.cell 2 rfl, ⟨h, v, o, NX⟩⟩
          replace RL := Ck.other3 RL (q := w.heap.size) (by omega) (.int .i64 h) (.int .i64 v) (.int .i64 o)
          clear ke
          generalize ((((wA).setCell ⟨w.heap.size, 0, none⟩ (.int .i64 h)).setCell ⟨w.heap.size, 1, none⟩ (.int .i64 v)).setCell ⟨w.heap.size, 2, none⟩ (.int .i64 o)) = wS at NX kvn28 RL ⊢
          try dsimp only
          refine hK.out _ _ kvn28 ?_; clear hK K hHeld; intro hHeld; try simp only [Act.put, List.setIfInBounds_toArray, List.set_cons_zero, List.set_cons_succ]
          refine Tk.W 11 (some 3) (.assign (.tmp 21)) 2 none ?_
          refine Tk.W 12 (some 4) (.assign (.tmp 22)) 2 none ?_
          refine Tk.R 9 (some 29) (.load 2 (.tmp 28)) 2 none (fun K hK => ?_)
          obtain ⟨k, rfl⟩ := Int.eq_ofNat_of_zero_le k0
          obtain ⟨u, hu⟩ : ∃ u : Int, [(.int .i64 1000000000000000 : Value), .int .i64 (-1000000000000000), .int .i64 1000000000000001, .int .i64 y][k]? = some (.int .i64 u) := by
            rcases (show k = 0 ∨ k = 1 ∨ k = 2 ∨ k = 3 by omega) with rfl | rfl | rfl | rfl
            all_goals exact ⟨_, rfl⟩
          have hL := RL.cell k hu
          go_simp
          have kvn31 : (fun w' => w'.cell? ⟨w2.heap.size, 0, none⟩ = some (.int .i64 h) ∧ w'.cell? ⟨w2.heap.size, 1, none⟩ = some (.int .i64 v) ∧ w'.cell? ⟨w2.heap.size, 2, none⟩ = some (.int .i64 o) ∧ Hid ((∃ x y z : Int, Ke w B (w.heap.size + 1) a len cap w.heap.size w2.heap.size h v o x y z w'))) _ := hHeld
          try dsimp only
          refine hK.out _ _ kvn31 ?_; clear hK K hHeld; intro hHeld; try simp only [Act.put, List.setIfInBounds_toArray, List.set_cons_zero, List.set_cons_succ]
          refine Tk.W 13 (some 5) (.assign (.tmp 29)) 2 none ?_
          refine wpAnyH_done (by kernel_rfl) ?_ _
          refine NoPanic.normal ?_
          clear hHeld
          go_wp2_with fail
          refine bodyPost_ret (v := .tuple #[clk h v o, .int .i64 s, .int .i64 hard, .int .i64 u]) (ret5 Try.results21 rfl rfl rfl rfl NX.Q) rfl ⟨⟨h, v, o, s, hard, u, rfl⟩, NX.bel⟩
      · obtain ⟨x_, y_, z_, ke⟩ := hHeld.2.2.2.out
        have d0 := ke.Q.cell 0 rfl
        have d1 := ke.Q.cell 1 rfl
        have d2 := ke.Q.cell 2 rfl
        have f0 := ke.Q.froz 0 rfl
        have f1 := ke.Q.froz 1 rfl
        have f2 := ke.Q.froz 2 rfl
        go_simp
        clear d0 d1 d2 f0 f1 f2
        have NX := ke.over h v o
        have kvn33 := Tk.kv hK (w := ((((wB).setCell ⟨w.heap.size, 0, none⟩ (.int .i64 h)).setCell ⟨w.heap.size, 1, none⟩ (.int .i64 v)).setCell ⟨w.heap.size, 2, none⟩ (.int .i64 o))) ⟨NX.R.cell 0 rfl, NX.R.cell 1 rfl, NX.R.cell 2 rfl, ⟨h, v, o, NX⟩⟩
        clear ke
        generalize ((((wB).setCell ⟨w.heap.size, 0, none⟩ (.int .i64 h)).setCell ⟨w.heap.size, 1, none⟩ (.int .i64 v)).setCell ⟨w.heap.size, 2, none⟩ (.int .i64 o)) = wS at NX kvn33 ⊢
        try dsimp only
        refine hK.out _ _ kvn33 ?_; clear hK K hHeld; intro hHeld; try simp only [Act.put, List.setIfInBounds_toArray, List.set_cons_zero, List.set_cons_succ]
        refine Tk.W 11 (some 3) (.assign (.tmp 21)) 2 none ?_
        refine Tk.W 12 (some 4) (.assign (.tmp 22)) 2 none ?_
        refine Tk.R 5 (some 25) (.buildSlice 62 4 #[(0, .const (.int .i64 1000000000000000)), (1, .const (.int .i64 (-1000000000000000))), (2, .const (.int .i64 1000000000000001)), (3, .tmp 24)]) 62 none (fun K hK => ?_)
        go_simp
        have bn36 : Below wS.heap.size wS (wS.alloc (.cells #[.int .i64 (1000000000000000), .int .i64 (-1000000000000000), .int .i64 (1000000000000001), .int .i64 (y)] 2)) := (Below.refl wS.heap.size wS).alloc (Nat.le_refl _) (.cells #[.int .i64 (1000000000000000), .int .i64 (-1000000000000000), .int .i64 (1000000000000001), .int .i64 (y)] 2)
        obtain ⟨x_, y_, z_, ken36⟩ := hHeld.2.2.2.out
        have nkn36 := ken36.below bn36
        have lp := ken36.le.2.1
        have kvn36 := Tk.kv hK (w := (wS.alloc (.cells #[.int .i64 (1000000000000000), .int .i64 (-1000000000000000), .int .i64 (1000000000000001), .int .i64 (y)] 2))) ⟨nkn36.R.cell 0 rfl, nkn36.R.cell 1 rfl, nkn36.R.cell 2 rfl, ⟨x_, y_, z_, nkn36⟩⟩
        have RL := Rm.Room.new wS [.int .i64 (1000000000000000), .int .i64 (-1000000000000000), .int .i64 (1000000000000001), .int .i64 (y)] 2
        replace NX := NX.below bn36
        clear bn36 nkn36 ken36
        generalize (wS.alloc (.cells #[.int .i64 (1000000000000000), .int .i64 (-1000000000000000), .int .i64 (1000000000000001), .int .i64 (y)] 2)) = wA at RL kvn36 NX ⊢
        try dsimp only
        refine hK.out _ _ kvn36 ?_; clear hK K hHeld; intro hHeld; try simp only [Act.put, List.setIfInBounds_toArray, List.set_cons_zero, List.set_cons_succ]
        refine Tk.W 8 (some 28) (.indexAddr 62 (.tmp 25) (.tmp 27)) 0 none ?_
        refine Tk.R 9 (some 29) (.load 2 (.tmp 28)) 2 none (fun K hK => ?_)
        obtain ⟨k, rfl⟩ := Int.eq_ofNat_of_zero_le k0
        obtain ⟨u, hu⟩ : ∃ u : Int, [(.int .i64 1000000000000000 : Value), .int .i64 (-1000000000000000), .int .i64 1000000000000001, .int .i64 y][k]? = some (.int .i64 u) := by
          rcases (show k = 0 ∨ k = 1 ∨ k = 2 ∨ k = 3 by omega) with rfl | rfl | rfl | rfl
          all_goals exact ⟨_, rfl⟩
        have hL := RL.cell k hu
        go_simp
        have kvn38 : (fun w' => w'.cell? ⟨w2.heap.size, 0, none⟩ = some (.int .i64 h) ∧ w'.cell? ⟨w2.heap.size, 1, none⟩ = some (.int .i64 v) ∧ w'.cell? ⟨w2.heap.size, 2, none⟩ = some (.int .i64 o) ∧ Hid ((∃ x y z : Int, Ke w B (w.heap.size + 1) a len cap w.heap.size w2.heap.size h v o x y z w'))) _ := hHeld
        try dsimp only
        refine hK.out _ _ kvn38 ?_; clear hK K hHeld; intro hHeld; try simp only [Act.put, List.setIfInBounds_toArray, List.set_cons_zero, List.set_cons_succ]
        refine Tk.W 13 (some 5) (.assign (.tmp 29)) 2 none ?_
        refine wpAnyH_done (by kernel_rfl) ?_ _
        refine NoPanic.normal ?_
        clear hHeld
        go_wp2_with fail
        refine bodyPost_ret (v := .tuple #[clk h v o, .int .i64 s, .int .i64 hard, .int .i64 u]) (ret5 Try.results21 rfl rfl rfl rfl NX.Q) rfl ⟨⟨h, v, o, s, hard, u, rfl⟩, NX.bel⟩

end Go.Proofs.Ytcgcmceobmpdiaa.Dr
