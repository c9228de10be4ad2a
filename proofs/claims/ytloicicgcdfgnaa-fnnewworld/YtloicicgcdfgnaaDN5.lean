/-
  What FnNewWorld draws (spec.DrawNewWorld): a config, offs and who lies, in new memory; nothing that was there is written.
-/
import Derived.Test.YtloicicgcdfgnaaDlo
import Derived.Test.YtloicicgcdfgnaaTk
namespace Go.Proofs.Ytloicicgcdfgnaa.Dr
open Go.ChangeShapes Go.WideShapes Go.ChangeAt Go.RowKit
open Ls (el Row)
open Ow (Has Own ints)
open Bo (eb HasB)
open Wl (z9 c9 wld)
open Cf (cfg)
set_option linter.unusedVariables false
set_option linter.unusedSimpArgs false

abbrev z6 : List Value := [.int .i64 0, .int .i64 0, .int .i64 0, .int .i64 0, .int .i64 0, .int .i64 0]
theorem ret6 {fn : Func} {ts : Array Value} {W : World} {R : Nat} {n l d r q s : Int} {x y : Value} (hf : fn.results = #[.cell 2 28, .tmp 3, .tmp 4]) (h2 : ts[2]? = some (.pointer (some ⟨R, 0, none⟩))) (h3 : ts[3]? = some x) (h4 : ts[4]? = some y) (h : Rm.Room W R [.int .i64 n, .int .i64 l, .int .i64 d, .int .i64 r, .int .i64 q, .int .i64 s]) :
    (results fn ts).run Try.prog W = .ok (.tuple #[cfg n l d r q s, x, y]) W := by
  have q0 := h.cell 0 rfl
  have q1 := h.cell 1 rfl
  have q2 := h.cell 2 rfl
  have q3 := h.cell 3 rfl
  have q4 := h.cell 4 rfl
  have q5 := h.cell 5 rfl
  simp [results, hf, h2, h3, h4, go_sem, q0, q1, q2, q3, q4, q5]

def DrawnN (B0 : Nat) (w : World) (n l d r q s : Int) (gO m cO gL k cL : Nat) : Prop := (∃ os, Own w B0 gO m cO os) ∧ (∃ bs, HasB w B0 gL 0 k bs) ∧ m ≤ 17 ∧ k ≤ 18

set_option maxHeartbeats 8000000 in
set_option maxRecDepth 100000 in
theorem drawNewWorld (B : Nat) (a : Option Addr) (len cap : Nat) (w : World) (hB : B ≤ w.heap.size) (hc : Code w B a len) :
    Calls Try.prog 26 #[.slice a len cap] w fun e w' => (∃ (n l d r q s : Int) (gO m cO gL k cL : Nat), e = .returned (.tuple #[cfg n l d r q s, .slice (some ⟨gO, 0, none⟩) m cO, .slice (some ⟨gL, 0, none⟩) k cL]) ∧ Hid (DrawnN w.heap.size w' n l d r q s gO m cO gL k cL)) ∧ Below w.heap.size w w' := by
  obtain ⟨i0, hi0, hz0, hz1, hz2⟩ := info_parts Bo.info
  have RR := Rm.Room.new w z6 28
  have B1 := (Below.refl w.heap.size w).alloc (Nat.le_refl _) (.cells z6.toArray 28)
  have code1 := hc.later (B1.mono hB)
  have zWa : w.heap.size < (w.alloc (.cells z6.toArray 28)).heap.size := by simp
  go_enter Try.func26, Try.ntmps26
  go_wp2_with fail
  refine (l1New B a len cap _ (by simp; omega) code1).mono ?_
  rintro e w1 ⟨rfl, st1⟩
  generalize (w.alloc (.cells z6.toArray 28)) = W at *
  obtain ⟨P, hP⟩ : ∃ P, P = W.heap.size := ⟨_, rfl⟩
  rw [← hP] at st1 zWa ⊢
  have hPW : W.heap.size ≤ P := by omega
  clear hP
  have z1 := st1.step.size
  have lP := st1.lt
  replace RR := room_step RR st1.step (by omega)
  go_wp2_with fail
  refine (l5DrawAny W B P a len cap _ st1).mono ?_
  rintro e w2 ⟨⟨n, l, d, r, q, s, t, kk, gK, cK, m, gO, cO, rfl, HD⟩, st2, s2⟩
  obtain ⟨⟨_, os, _, pO⟩, m0, m1, _⟩ := HD.out
  have z2 := s2.size
  replace RR := room_step RR s2 (by omega)
  have loO := pO.data.2.1
  have hiO := pO.lt
  clear HD s2 st1
  have b3 := (Below.refl w2.heap.size w2).alloc (Nat.le_refl _) (.cells (c9 n l d r q s (.slice (some ⟨gK, 0, none⟩) kk cK) (.slice (some ⟨gO, 0, none⟩) m cO) t).toArray 31)
  have RX := Rm.Room.new w2 (c9 n l d r q s (.slice (some ⟨gK, 0, none⟩) kk cK) (.slice (some ⟨gO, 0, none⟩) m cO) t) 31
  have st3 := st2.below b3
  replace RR := RR.below b3
  replace pO := pO.later b3 hiO
  have z3 := b3.size
  clear b3 st2
  have c7 := RX.cell 7 rfl
  go_wp2_with fail
  refine (Sp.l1Min _ _ _).mono ?_
  rintro e w3 ⟨rfl, rfl⟩
  go_wp2_with fail
  refine (l5DrawLiesO W B P a len cap m _ (by omega) (by omega) (by omega) (by omega) _ st3).mono ?_
  rintro e w4 ⟨⟨gL, rfl, bs, pL⟩, st4, s4⟩
  have z4 := s4.size
  (try simp at z4)
  replace RR := room_step RR s4 (by omega)
  replace RX := room_step RX s4 (by omega)
  replace pO := own_step pO s4 (by omega)
  have loL := pL.data.2.1
  (try simp at loL)
  have hiL := pL.lt
  clear s4 st3 c7
  go_wp2_with fail
  refine (l1Once' W B P a len cap 12 (by omega) (by omega) _ st4).mono ?_
  rintro e w5 ⟨⟨tt, rfl⟩, st5, s5⟩
  have z5 := s5.size
  replace RR := room_step RR s5 (by omega)
  replace RX := room_step RX s5 (by omega)
  replace pO := own_step pO s5 (by omega)
  replace pL := ownb_step pL s5 (by omega)
  clear s5 st4
  go_upto_if 22 with fail
  go_cut [8] from 9 (fun v8 wc => ∃ (gL k cL : Nat), v8 = .slice (some ⟨gL, 0, none⟩) k cL ∧ Hid (St W B P a len cap wc ∧ Rm.Room wc w2.heap.size (c9 n l d r q s (.slice (some ⟨gK, 0, none⟩) kk cK) (.slice (some ⟨gO, 0, none⟩) m cO) t) ∧ Rm.Room wc w.heap.size z6 ∧ Own wc w1.heap.size gO m cO os ∧ (∃ bs, HasB wc (w.heap.size + 1) gL 0 k bs) ∧ k ≤ 18))
  case first =>
    cases tt with
    | false =>
      have HF : Hid (St W B P a len cap w5 ∧ Rm.Room w5 w2.heap.size (c9 n l d r q s (.slice (some ⟨gK, 0, none⟩) kk cK) (.slice (some ⟨gO, 0, none⟩) m cO) t) ∧ Rm.Room w5 w.heap.size z6 ∧ Own w5 w1.heap.size gO m cO os ∧ (∃ bs, HasB w5 (w.heap.size + 1) gL 0 m bs) ∧ m ≤ 18) := ⟨st5, RX, RR, pO, ⟨bs, pL.has.1, (by omega), pL.has.2.2⟩, by omega⟩
      go_wp2_with fail
      go_meet
      case rel => exact ⟨gL, m, m, rfl, HF⟩
    | true =>
      have HL : Hid (OwnB w5 (w2.heap.size + 1) gL m m bs) := by
        have q := pL
        (try simp at q)
        exact q
      go_wp2_with (at_builtin; refine wpList_append_own _ rfl (.tmp 23) (.tmp 24) 35 rfl (w2.heap.size + 1) 4 i0 (.bool false) 1 1 Try.underlying35 hi0 hz0 hz1 hz2 rfl (by decide) _ _ _ rfl (World.ownsRow.alloc (w := w5) HL.out _) ⟨w5.heap.size, 0, none⟩ 1 1 [.bool true] rfl rfl (cell_one_new w5 (.bool true) _) (fun u hu => (by simp at hu; subst hu; rfl)) (by unfold maxLen; omega) (by omega) (by simp; omega) ?_; intro v2 w6 hx2 hg2 hn2; obtain ⟨gP, cP, rfl, oP⟩ := ownb_of (zs := bs ++ [true]) hx2 (by simp [bools]) (Ow.no_nil hn2 rfl); replace hg2 : World.grownBy _ w6 (some gL) := hg2; have lo6 := oP.data.2.1; have st6 := (st5.obj _).grown hg2 (fun x hx => (by cases hx; omega)); have RX6 := (RX.alloc _).other hg2 (by omega); have RR6 := (RR.alloc _).other hg2 (by omega); have pO6 := Ow.Own.kept (W := w5) pO hg2 (by omega); have HF : Hid (St W B P a len cap w6 ∧ Rm.Room w6 w2.heap.size (c9 n l d r q s (.slice (some ⟨gK, 0, none⟩) kk cK) (.slice (some ⟨gO, 0, none⟩) m cO) t) ∧ Rm.Room w6 w.heap.size z6 ∧ Own w6 w1.heap.size gO m cO os ∧ (∃ bs, HasB w6 (w.heap.size + 1) gP 0 (m + 1) bs) ∧ m + 1 ≤ 18) := ⟨st6, RX6, RR6, pO6, ⟨_, oP.has.1, (by omega), oP.has.2.2⟩, (by omega)⟩; clear st6 RX6 RR6 pO6 oP hx2 hg2 hn2)
      go_meet
      case rel => exact ⟨gP, m + 1, cP, rfl, HF⟩
  case rest =>
    clear pL
    obtain ⟨gL, k, cL, rfl, HH⟩ := hcut
    obtain ⟨stc, RX, RR, pO, ⟨bs, pL⟩, k18⟩ := HH.out
    clear HH
    have loL := pL.2.1
    have hRX : w.heap.size ≠ w2.heap.size := by omega
    have B2 : Below w.heap.size w wc := B1.trans ((stc.step.fresh hPW).mono B1.size)
    have B3 := B2.drew
    replace RX := RX.drew
    replace RR := RR.drew
    replace pO := pO.later (Below.refl _ _).drew pO.lt
    replace pL := pL.later (Below.refl _ _).drew pL.2.2.1
    clear stc B2
    go_wp2_with fail
    refine wp_region_noPanic ?_
    refine wp_region_held_drew (S := (fun (w' : World) => w'.cell? ⟨w2.heap.size, 0, none⟩ = some (.int .i64 n) ∧ w'.cell? ⟨w2.heap.size, 1, none⟩ = some (.int .i64 l) ∧ w'.cell? ⟨w2.heap.size, 2, none⟩ = some (.int .i64 d) ∧ w'.cell? ⟨w2.heap.size, 3, none⟩ = some (.int .i64 r) ∧ w'.cell? ⟨w2.heap.size, 4, none⟩ = some (.int .i64 q) ∧ w'.cell? ⟨w2.heap.size, 5, none⟩ = some (.int .i64 s) ∧ w'.cell? ⟨w2.heap.size, 6, none⟩ = some (.slice (some ⟨gK, 0, none⟩) kk cK) ∧ w'.cell? ⟨w2.heap.size, 7, none⟩ = some (.slice (some ⟨gO, 0, none⟩) m cO) ∧ w'.cell? ⟨w2.heap.size, 8, none⟩ = some (.int .i64 t) ∧ Hid True)) (by kernel_rfl) ⟨RX.cell 0 rfl, RX.cell 1 rfl, RX.cell 2 rfl, RX.cell 3 rfl, RX.cell 4 rfl, RX.cell 5 rfl, RX.cell 6 rfl, RX.cell 7 rfl, RX.cell 8 rfl, trivial⟩ (fun hHeld => ?_)
    generalize wc.drew = wA at hHeld RX RR pO pL B3 ⊢
    refine Tk.W 0 (some 26) (.fieldAddr 31 (.tmp 6) 0) 0 none ?_
    refine Tk.W 1 (some 27) (.load 28 (.tmp 26)) 28 none ?_
    refine Tk.W 2 (some 28) (.fieldAddr 31 (.tmp 6) 2) 0 none ?_
    refine Tk.W 3 (some 29) (.load 29 (.tmp 28)) 29 none ?_
    refine Tk.W 4 (some 30) (.move (.tmp 8)) 35 none ?_
    refine Tk.R 5 none (.store 28 (.tmp 2) (.tmp 27)) 0 none (fun K hK => ?_)
    have r0 := RR.cell 0 rfl
    have r1 := RR.cell 1 rfl
    have r2 := RR.cell 2 rfl
    have r3 := RR.cell 3 rfl
    have r4 := RR.cell 4 rfl
    have r5 := RR.cell 5 rfl
    have f0 := RR.froz 0 rfl
    have f1 := RR.froz 1 rfl
    have f2 := RR.froz 2 rfl
    have f3 := RR.froz 3 rfl
    have f4 := RR.froz 4 rfl
    have f5 := RR.froz 5 rfl
    go_simp
    have RX6 := ((((((RX.setOther (q := w.heap.size) (by omega) 0 (.int .i64 n)).setOther (q := w.heap.size) (by omega) 1 (.int .i64 l)).setOther (q := w.heap.size) (by omega) 2 (.int .i64 d)).setOther (q := w.heap.size) (by omega) 3 (.int .i64 r)).setOther (q := w.heap.size) (by omega) 4 (.int .i64 q)).setOther (q := w.heap.size) (by omega) 5 (.int .i64 s))
    have RQ := Rm.over6 RR (.int .i64 n) (.int .i64 l) (.int .i64 d) (.int .i64 r) (.int .i64 q) (.int .i64 s)
    have pO6 := ((((((pO.setOther (q := w.heap.size) (by omega) 0 (.int .i64 n)).setOther (q := w.heap.size) (by omega) 1 (.int .i64 l)).setOther (q := w.heap.size) (by omega) 2 (.int .i64 d)).setOther (q := w.heap.size) (by omega) 3 (.int .i64 r)).setOther (q := w.heap.size) (by omega) 4 (.int .i64 q)).setOther (q := w.heap.size) (by omega) 5 (.int .i64 s))
    have pL6 := ((((((pL.setOther (q := w.heap.size) (by omega) 0 (.int .i64 n)).setOther (q := w.heap.size) (by omega) 1 (.int .i64 l)).setOther (q := w.heap.size) (by omega) 2 (.int .i64 d)).setOther (q := w.heap.size) (by omega) 3 (.int .i64 r)).setOther (q := w.heap.size) (by omega) 4 (.int .i64 q)).setOther (q := w.heap.size) (by omega) 5 (.int .i64 s))
    have B6 := B3.trans ((Rm.belowOver6 wA w.heap.size (.int .i64 n) (.int .i64 l) (.int .i64 d) (.int .i64 r) (.int .i64 q) (.int .i64 s)).mono (Nat.le_refl _))
    have kvv6 : (fun (w' : World) => w'.cell? ⟨w2.heap.size, 0, none⟩ = some (.int .i64 n) ∧ w'.cell? ⟨w2.heap.size, 1, none⟩ = some (.int .i64 l) ∧ w'.cell? ⟨w2.heap.size, 2, none⟩ = some (.int .i64 d) ∧ w'.cell? ⟨w2.heap.size, 3, none⟩ = some (.int .i64 r) ∧ w'.cell? ⟨w2.heap.size, 4, none⟩ = some (.int .i64 q) ∧ w'.cell? ⟨w2.heap.size, 5, none⟩ = some (.int .i64 s) ∧ w'.cell? ⟨w2.heap.size, 6, none⟩ = some (.slice (some ⟨gK, 0, none⟩) kk cK) ∧ w'.cell? ⟨w2.heap.size, 7, none⟩ = some (.slice (some ⟨gO, 0, none⟩) m cO) ∧ w'.cell? ⟨w2.heap.size, 8, none⟩ = some (.int .i64 t) ∧ Hid True) _ := ⟨RX6.cell 0 rfl, RX6.cell 1 rfl, RX6.cell 2 rfl, RX6.cell 3 rfl, RX6.cell 4 rfl, RX6.cell 5 rfl, RX6.cell 6 rfl, RX6.cell 7 rfl, RX6.cell 8 rfl, trivial⟩
    clear r0 f0 r1 f1 r2 f2 r3 f3 r4 f4 r5 f5
    try dsimp only
    refine hK.out _ _ kvv6 ?_; clear hK K hHeld; intro hHeld; try simp only [Act.put, List.setIfInBounds_toArray, List.set_cons_zero, List.set_cons_succ]
    refine Tk.W 6 (some 3) (.assign (.tmp 29)) 29 none ?_
    refine Tk.W 7 (some 4) (.assign (.tmp 30)) 35 none ?_
    refine wpAnyH_done (by kernel_rfl) ?_ _
    refine NoPanic.normal ?_
    clear hHeld
    go_wp2_with fail
    have HD : Hid (DrawnN w.heap.size _ n l d r q s gO m cO gL k cL) := ⟨⟨_, pO6.mono (by omega)⟩, ⟨_, pL6.1, by omega, pL6.2.2⟩, by omega, by omega⟩
    refine bodyPost_ret (v := .tuple #[cfg n l d r q s, .slice (some ⟨gO, 0, none⟩) m cO, .slice (some ⟨gL, 0, none⟩) k cL]) (ret6 Try.results26 rfl rfl rfl RQ) rfl ⟨⟨n, l, d, r, q, s, gO, m, cO, gL, k, cL, rfl, HD⟩, B6⟩

end Go.Proofs.Ytloicicgcdfgnaa.Dr
