/-
  A rule, offs, keys and lies that are drawn (spec.DrawNewCourt and what it calls): the lists in new memory.
-/
import Derived.Test.YtimakfokgcnklaaGreatKd
import Derived.Test.YtimakfokgcnklaaGreatBools
import Derived.Test.YtimakfokgcnklaaGreatOwnAt
import Derived.Test.YtimakfokgcnklaaGreatTk
namespace Go.Proofs.YtimakfokgcnklaaGreat.Dc
open Go.ChangeShapes Go.WideShapes Go.ChangeAt Go.RowKit
open Ls (el Row)
open Ow (Has Own ints)
open Rd (Flags)
open Bo (HasB eb)
open Dr (Step St)
open Rm (Room)
set_option linter.unusedVariables false
set_option linter.unusedSimpArgs false

/-- A cursor, the result's cells, a rule's cells. -/
structure Rk (w : World) (B p : Nat) (a : Option Addr) (len cap R X : Nat) (vs : List Value) (w' : World) : Prop where
  st : St w B p a len cap w'
  rm : Room w' R [.int .i64 0, .int .i64 0, .int .i64 0, .int .i64 0, .int .i64 0, .int .i64 0]
  xm : Room w' X vs
  hz : w.heap.size ≤ R ∧ w.heap.size ≤ X ∧ R ≠ X ∧ R ≠ p ∧ X ≠ p ∧ B ≤ R ∧ B ≤ X
theorem Rk.step {w : World} {B p : Nat} {a : Option Addr} {len cap R X : Nat} {vs : List Value} {w1 w2 : World} (z : Rk w B p a len cap R X vs w1) (s : St w B p a len cap w2) (x : Step p w1 w2) : Rk w B p a len cap R X vs w2 :=
  ⟨s, Dg.room_step z.rm x z.hz.2.2.2.1, Dg.room_step z.xm x z.hz.2.2.2.2.1, z.hz⟩
theorem Rk.drew {w : World} {B p : Nat} {a : Option Addr} {len cap R X : Nat} {vs : List Value} {w1 : World} (z : Rk w B p a len cap R X vs w1) : Rk w B p a len cap R X vs w1.drew := ⟨z.st.drew', z.rm, z.xm, z.hz⟩
theorem Rk.below {w : World} {B p : Nat} {a : Option Addr} {len cap R X : Nat} {vs : List Value} {w1 w2 : World} (z : Rk w B p a len cap R X vs w1) (b : Below w1.heap.size w1 w2) : Rk w B p a len cap R X vs w2 := ⟨z.st.below b, z.rm.below b, z.xm.below b, z.hz⟩
theorem Rk.set {w : World} {B p : Nat} {a : Option Addr} {len cap R X : Nat} {vs : List Value} {w1 : World} (z : Rk w B p a len cap R X vs w1) (i : Nat) (u : Value) : Rk w B p a len cap R X (vs.set i u) (w1.setCell ⟨X, i, none⟩ u) :=
  ⟨z.st.setNew i z.hz.2.1 z.hz.2.2.2.2.1 z.hz.2.2.2.2.2.2 u, z.rm.setOther (Ne.symm z.hz.2.2.1) i u, z.xm.set i u, z.hz⟩
theorem ret6 {fn : Func} {ts : Array Value} {W : World} {R : Nat} {x0 x1 x2 x3 x4 x5 : Int} (hf : fn.results = #[.cell 2 25]) (h2 : ts[2]? = some (.pointer (some ⟨R, 0, none⟩)))
    (h : Room W R [.int .i64 x0, .int .i64 x1, .int .i64 x2, .int .i64 x3, .int .i64 x4, .int .i64 x5]) : (results fn ts).run Tryz.prog W = .ok (.agg #[.int .i64 x0, .int .i64 x1, .int .i64 x2, .int .i64 x3, .int .i64 x4, .int .i64 x5]) W := by
  have q0 := h.cell 0 rfl
  have q1 := h.cell 1 rfl
  have q2 := h.cell 2 rfl
  have q3 := h.cell 3 rfl
  have q4 := h.cell 4 rfl
  have q5 := h.cell 5 rfl
  simp [results, hf, h2, go_sem, q0, q1, q2, q3, q4, q5]

set_option maxHeartbeats 8000000 in
theorem drawRule (w0 : World) (B p : Nat) (a : Option Addr) (len cap : Nat) (w : World) (st : St w0 B p a len cap w) :
    Calls Tryz.prog 86 #[.pointer (some ⟨p, 0, none⟩)] w fun e w' => (∃ n f q x l m : Int, e = .returned (.agg #[.int .i64 n, .int .i64 f, .int .i64 q, .int .i64 x, .int .i64 l, .int .i64 m]) ∧ (0 ≤ q ∧ q ≤ 1000) ∧ 0 ≤ m ∧ m ≤ 200) ∧ St w0 B p a len cap w' ∧ Step p w w' := by
  have hp := st.lt
  have hB := st.le
  have hst := st.step
  replace st := st.here
  have RR := Room.new w [.int .i64 0, .int .i64 0, .int .i64 0, .int .i64 0, .int .i64 0, .int .i64 0] 25
  have stA := st.obj (.cells #[.int .i64 0, .int .i64 0, .int .i64 0, .int .i64 0, .int .i64 0, .int .i64 0] 25)
  go_enter Tryz.func86, Tryz.ntmps86
  go_wp2_with fail
  have hA : Hid (w.heap.size + 1 = (w.alloc (.cells #[.int .i64 0, .int .i64 0, .int .i64 0, .int .i64 0, .int .i64 0, .int .i64 0] 25)).heap.size) := by show _ = _; simp
  generalize w.alloc (.cells #[.int .i64 0, .int .i64 0, .int .i64 0, .int .i64 0, .int .i64 0, .int .i64 0] 25) = wA at RR stA hA ⊢
  clear st
  refine (Dr.l1Below' w B p a len cap 3 (by omega) (by omega) _ stA).mono ?_
  rintro e w1 ⟨⟨f, rfl, f0, f1⟩, stB, sx⟩
  replace RR := Dg.room_step RR sx (by omega)
  replace stA := stB
  clear stB sx
  go_wp2_with fail
  refine (Dr.l1Below' w B p a len cap 2 (by omega) (by omega) _ stA).mono ?_
  rintro e w2 ⟨⟨u, rfl, u0, u1⟩, stB, sx⟩
  replace RR := Dg.room_step RR sx (by omega)
  replace stA := stB
  clear stB sx
  go_wp2_with fail
  refine (Dr.l1Below' w B p a len cap 4 (by omega) (by omega) _ stA).mono ?_
  rintro e w3 ⟨⟨x, rfl, x0, x1⟩, stB, sx⟩
  replace RR := Dg.room_step RR sx (by omega)
  replace stA := stB
  clear stB sx
  go_wp2_with fail
  refine (Dr.l1Below' w B p a len cap 2 (by omega) (by omega) _ stA).mono ?_
  rintro e w4 ⟨⟨l, rfl, l0, l1⟩, stB, sx⟩
  replace RR := Dg.room_step RR sx (by omega)
  replace stA := stB
  clear stB sx
  have lR := RR.lt (by simp)
  have hs4 := stA.step.size
  obtain ⟨q, hq⟩ : ∃ q, q = w4.heap.size := ⟨_, rfl⟩
  have NK : Rk w B p a len cap w.heap.size q [.int .i64 (2 * f + 1 + u), .int .i64 f, .int .i64 0, .int .i64 x, .int .i64 (1 + l), .int .i64 0] (w4.alloc (.cells #[.int .i64 (2 * f + 1 + u), .int .i64 f, .int .i64 0, .int .i64 x, .int .i64 (1 + l), .int .i64 0] 25)) := ⟨stA.obj _, RR.alloc _, Room.at w4 [.int .i64 (2 * f + 1 + u), .int .i64 f, .int .i64 0, .int .i64 x, .int .i64 (1 + l), .int .i64 0] 25 q hq, by omega⟩
  have HQ : Hid (q = w4.heap.size) := hq
  clear hq stA RR
  go_wp2_with fail
  rw [← HQ.out]
  generalize w4.alloc (.cells #[.int .i64 (2 * f + 1 + u), .int .i64 f, .int .i64 0, .int .i64 x, .int .i64 (1 + l), .int .i64 0] 25) = w5 at NK ⊢
  clear HQ lR hs4
  have hnb : 0 ≤ 2 * f + 1 + u ∧ 2 * f + 1 + u ≤ 100 := by omega
  have hlb : 0 ≤ 1 + l ∧ 1 + l ≤ 100 := by omega
  generalize 2 * f + 1 + u = n at NK hnb ⊢
  obtain ⟨lv, hlv⟩ : ∃ lv, lv = 1 + l := ⟨_, rfl⟩
  rw [← hlv] at NK hlb
  have hf : 0 ≤ f ∧ f ≤ 100 := by omega
  have hx : 0 ≤ x ∧ x ≤ 100 := by omega
  clear hlv
  replace NK := NK.drew
  refine wp_region_noPanic ?_
  refine wp_region_held_drew (S := (fun w' => w'.cell? ⟨q, 4, none⟩ = some (.int .i64 lv))) (by kernel_rfl) (NK.xm.cell 4 rfl) (fun hHeld => ?_)
  generalize w5.drew = wc at NK hHeld ⊢
  refine Tk.W 0 (some 20) (.fieldAddr 25 (.tmp 4) 4) 0 none ?_
  refine Tk.W 1 (some 21) (.load 2 (.tmp 20)) 2 none ?_
  refine Tk.W 2 (some 22) (.move (.tmp 0)) 67 none ?_
  refine Tk.R 3 (some 23) (.call ⟨.value (.func 87), #[.tmp 22, .const (.int .i64 4)], #[67, 2]⟩) 2 none (fun K hK => ?_)
  go_simp
  refine (Dr.l1Below' w B p a len cap 4 (by omega) (by omega) _ NK.st).mono ?_
  rintro e w6 ⟨⟨y, rfl, y0, y1⟩, sx, px⟩
  replace NK := NK.step sx px
  clear sx px
  have hmb : 0 ≤ lv + y ∧ lv + y ≤ 200 := by omega
  have hwy : IntKind.i64.wrap (lv + y) = lv + y := by rw [IntKind.wrap_i64]; omega
  try dsimp only
  refine hK.out _ _ (NK.xm.cell 4 rfl) ?_; clear hK K hHeld; intro hHeld; try simp only [Act.put, List.setIfInBounds_toArray, List.set_cons_zero, List.set_cons_succ]
  refine Tk.W 4 (some 24) (.binOp .add 2 (.tmp 21) (.tmp 23) 2) 2 none ?_
  refine Tk.W 5 (some 25) (.fieldAddr 25 (.tmp 4) 5) 0 none ?_
  refine Tk.R 6 none (.store 2 (.tmp 25) (.tmp 24)) 0 none (fun K hK => ?_)
  have g5 := NK.xm.froz 5 rfl
  have e5 := NK.xm.cell 5 rfl
  go_simp
  clear g5 e5 hwy
  replace NK := NK.set 5 (.int .i64 (lv + y))
  generalize w6.setCell ⟨q, 5, none⟩ (.int .i64 (lv + y)) = w7 at NK ⊢
  try dsimp only
  refine hK.out _ _ (NK.xm.cell 4 rfl) ?_; clear hK K hHeld; intro hHeld; try simp only [Act.put, List.setIfInBounds_toArray, List.set_cons_zero, List.set_cons_succ]
  refine wpAnyH_done (by kernel_rfl) ?_ _
  refine NoPanic.normal ?_
  clear hHeld
  obtain ⟨m, hm⟩ : ∃ m, m = lv + y := ⟨_, rfl⟩
  rw [← hm] at NK
  have hmc : 0 ≤ m ∧ m ≤ 200 := by omega
  clear hm hmb y0 y1
  go_wp2_with fail
  replace NK := NK.drew
  have hw1 : IntKind.i64.wrap (x + m) = x + m := by rw [IntKind.wrap_i64]; omega
  have hw2 : IntKind.i64.wrap (x + m + 1) = x + m + 1 := by rw [IntKind.wrap_i64]; omega
  refine wp_region_noPanic ?_
  refine wp_region_held_drew (S := (fun w' => w'.cell? ⟨q, 3, none⟩ = some (.int .i64 x) ∧ w'.cell? ⟨q, 5, none⟩ = some (.int .i64 m))) (by kernel_rfl) ⟨NK.xm.cell 3 rfl, NK.xm.cell 5 rfl⟩ (fun hHeld => ?_)
  generalize w7.drew = wd at NK hHeld ⊢
  refine Tk.W 0 (some 26) (.fieldAddr 25 (.tmp 4) 3) 0 none ?_
  refine Tk.W 1 (some 27) (.load 2 (.tmp 26)) 2 none ?_
  refine Tk.W 2 (some 28) (.fieldAddr 25 (.tmp 4) 5) 0 none ?_
  refine Tk.W 3 (some 29) (.load 2 (.tmp 28)) 2 none ?_
  refine Tk.W 4 (some 30) (.binOp .add 2 (.tmp 27) (.tmp 29) 2) 2 none ?_
  refine Tk.W 5 (some 31) (.binOp .add 2 (.tmp 30) (.const (.int .i64 1)) 2) 2 none ?_
  refine Tk.W 6 (some 32) (.move (.tmp 0)) 67 none ?_
  refine Tk.R 7 (some 33) (.call ⟨.value (.func 87), #[.tmp 32, .const (.int .i64 10)], #[67, 2]⟩) 2 none (fun K hK => ?_)
  go_simp
  refine (Dr.l1Below' w B p a len cap 10 (by omega) (by omega) _ NK.st).mono ?_
  rintro e w8 ⟨⟨t, rfl, t0, t1⟩, sx, px⟩
  replace NK := NK.step sx px
  clear sx px
  have htb : 0 ≤ x + m + 1 + t ∧ x + m + 1 + t ≤ 1000 := by omega
  have hw3 : IntKind.i64.wrap (x + m + 1 + t) = x + m + 1 + t := by rw [IntKind.wrap_i64]; omega
  try dsimp only
  refine hK.out _ _ ⟨NK.xm.cell 3 rfl, NK.xm.cell 5 rfl⟩ ?_; clear hK K hHeld; intro hHeld; try simp only [Act.put, List.setIfInBounds_toArray, List.set_cons_zero, List.set_cons_succ]
  refine Tk.W 8 (some 34) (.binOp .add 2 (.tmp 31) (.tmp 33) 2) 2 none ?_
  refine Tk.W 9 (some 35) (.fieldAddr 25 (.tmp 4) 2) 0 none ?_
  refine Tk.R 10 none (.store 2 (.tmp 35) (.tmp 34)) 0 none (fun K hK => ?_)
  have g2 := NK.xm.froz 2 rfl
  have e2 := NK.xm.cell 2 rfl
  go_simp
  clear g2 e2 hw1 hw2 hw3
  replace NK := NK.set 2 (.int .i64 (x + m + 1 + t))
  generalize w8.setCell ⟨q, 2, none⟩ (.int .i64 (x + m + 1 + t)) = w9 at NK ⊢
  try dsimp only
  refine hK.out _ _ ⟨NK.xm.cell 3 rfl, NK.xm.cell 5 rfl⟩ ?_; clear hK K hHeld; intro hHeld; try simp only [Act.put, List.setIfInBounds_toArray, List.set_cons_zero, List.set_cons_succ]
  refine wpAnyH_done (by kernel_rfl) ?_ _
  refine NoPanic.normal ?_
  clear hHeld
  obtain ⟨pp, hpp⟩ : ∃ pp, pp = x + m + 1 + t := ⟨_, rfl⟩
  rw [← hpp] at NK
  have hppb : 0 ≤ pp ∧ pp ≤ 1000 := by omega
  clear hpp htb
  have c0 := NK.xm.cell 0 rfl
  have c1 := NK.xm.cell 1 rfl
  have c2 := NK.xm.cell 2 rfl
  have c3 := NK.xm.cell 3 rfl
  have c4 := NK.xm.cell 4 rfl
  have c5 := NK.xm.cell 5 rfl
  have d0 := NK.rm.cell 0 rfl
  have d1 := NK.rm.cell 1 rfl
  have d2 := NK.rm.cell 2 rfl
  have d3 := NK.rm.cell 3 rfl
  have d4 := NK.rm.cell 4 rfl
  have d5 := NK.rm.cell 5 rfl
  have f0 := NK.rm.froz 0 rfl
  have f1 := NK.rm.froz 1 rfl
  have f2 := NK.rm.froz 2 rfl
  have f3 := NK.rm.froz 3 rfl
  have f4 := NK.rm.froz 4 rfl
  have f5 := NK.rm.froz 5 rfl
  have RF := NK.rm.six (.int .i64 (n)) (.int .i64 (f)) (.int .i64 (pp)) (.int .i64 (x)) (.int .i64 (lv)) (.int .i64 (m))
  have SF := NK.st.six NK.hz.1 NK.hz.2.2.2.1 NK.hz.2.2.2.2.2.1 (.int .i64 (n)) (.int .i64 (f)) (.int .i64 (pp)) (.int .i64 (x)) (.int .i64 (lv)) (.int .i64 (m))
  go_wp2_with fail
  refine bodyPost_ret (v := .agg #[.int .i64 n, .int .i64 f, .int .i64 pp, .int .i64 x, .int .i64 lv, .int .i64 m]) (ret6 Tryz.results86 rfl RF) rfl ⟨⟨n, f, pp, x, lv, m, rfl, hppb, hmc⟩, St.on hst SF, SF.step⟩

set_option maxHeartbeats 8000000 in
theorem drawRuleAny (w0 : World) (B p : Nat) (a : Option Addr) (len cap : Nat) (w : World) (st : St w0 B p a len cap w) :
    Calls Tryz.prog 35 #[.pointer (some ⟨p, 0, none⟩)] w fun e w' => (∃ n f q x l m : Int, e = .returned (.agg #[.int .i64 n, .int .i64 f, .int .i64 q, .int .i64 x, .int .i64 l, .int .i64 m])) ∧ St w0 B p a len cap w' ∧ Step p w w' := by
  have hp := st.lt
  have hB := st.le
  have hst := st.step
  replace st := st.here
  have RR := Room.new w [.int .i64 0, .int .i64 0, .int .i64 0, .int .i64 0, .int .i64 0, .int .i64 0] 25
  have stA := st.obj (.cells #[.int .i64 0, .int .i64 0, .int .i64 0, .int .i64 0, .int .i64 0, .int .i64 0] 25)
  go_enter Tryz.func35, Tryz.ntmps35
  go_wp2_with fail
  have hA : Hid (w.heap.size + 1 = (w.alloc (.cells #[.int .i64 0, .int .i64 0, .int .i64 0, .int .i64 0, .int .i64 0, .int .i64 0] 25)).heap.size) := by show _ = _; simp
  generalize w.alloc (.cells #[.int .i64 0, .int .i64 0, .int .i64 0, .int .i64 0, .int .i64 0, .int .i64 0] 25) = wA at RR stA hA ⊢
  clear st
  refine (drawRule w B p a len cap _ stA).mono ?_
  rintro e w1 ⟨⟨n, f, q, x, l, m, rfl, hqb, hmb⟩, stB, sx⟩
  replace RR := Dg.room_step RR sx (by omega)
  replace stA := stB
  clear stB sx
  have lR := RR.lt (by simp)
  have hs4 := stA.step.size
  obtain ⟨X, hX⟩ : ∃ X, X = w1.heap.size := ⟨_, rfl⟩
  have NK : Rk w B p a len cap w.heap.size X [.int .i64 n, .int .i64 f, .int .i64 q, .int .i64 x, .int .i64 l, .int .i64 m] (w1.alloc (.cells #[.int .i64 n, .int .i64 f, .int .i64 q, .int .i64 x, .int .i64 l, .int .i64 m] 25)) := ⟨stA.obj _, RR.alloc _, Room.at w1 [.int .i64 n, .int .i64 f, .int .i64 q, .int .i64 x, .int .i64 l, .int .i64 m] 25 X hX, by omega⟩
  have HQ : Hid (X = w1.heap.size) := hX
  clear hX stA RR
  go_wp2_with fail
  rw [← HQ.out]
  generalize w1.alloc (.cells #[.int .i64 n, .int .i64 f, .int .i64 q, .int .i64 x, .int .i64 l, .int .i64 m] 25) = w2 at NK ⊢
  clear HQ lR hs4
  refine (Dr.l1Once' w B p a len cap 4 (by omega) (by omega) _ NK.st).mono ?_
  rintro e w3 ⟨⟨tt, rfl⟩, sx, px⟩
  replace NK := NK.step sx px
  clear sx px
  cases tt with
  | false =>
    have c0 := NK.xm.cell 0 rfl
    have c1 := NK.xm.cell 1 rfl
    have c2 := NK.xm.cell 2 rfl
    have c3 := NK.xm.cell 3 rfl
    have c4 := NK.xm.cell 4 rfl
    have c5 := NK.xm.cell 5 rfl
    have d0 := NK.rm.cell 0 rfl
    have d1 := NK.rm.cell 1 rfl
    have d2 := NK.rm.cell 2 rfl
    have d3 := NK.rm.cell 3 rfl
    have d4 := NK.rm.cell 4 rfl
    have d5 := NK.rm.cell 5 rfl
    have f0 := NK.rm.froz 0 rfl
    have f1 := NK.rm.froz 1 rfl
    have f2 := NK.rm.froz 2 rfl
    have f3 := NK.rm.froz 3 rfl
    have f4 := NK.rm.froz 4 rfl
    have f5 := NK.rm.froz 5 rfl
    have RF := NK.rm.six (.int .i64 (n)) (.int .i64 (f)) (.int .i64 (q)) (.int .i64 (x)) (.int .i64 (l)) (.int .i64 (m))
    have SF := NK.st.six NK.hz.1 NK.hz.2.2.2.1 NK.hz.2.2.2.2.2.1 (.int .i64 (n)) (.int .i64 (f)) (.int .i64 (q)) (.int .i64 (x)) (.int .i64 (l)) (.int .i64 (m))
    go_wp2_with fail
    refine bodyPost_ret (v := .agg #[.int .i64 n, .int .i64 f, .int .i64 q, .int .i64 x, .int .i64 l, .int .i64 m]) (ret6 Tryz.results35 rfl RF) rfl ⟨⟨n, f, q, x, l, m, rfl⟩, St.on hst SF, SF.step⟩
  | true =>
    go_wp2_with fail
    refine (Dr.l1Below' w B p a len cap 6 (by omega) (by omega) _ NK.st).mono ?_
    rintro e w4 ⟨⟨z, rfl, z0, z1⟩, sx, px⟩
    replace NK := NK.step sx px
    clear sx px
    rcases (by omega : z = 0 ∨ z = 1 ∨ z = 2 ∨ z = 3 ∨ z = 4 ∨ z = 5) with rfl | rfl | rfl | rfl | rfl | rfl
    · go_wp2_with fail
      refine (Dr.l1Num' w B p a len cap 16 (by omega) (by omega) _ NK.st).mono ?_
      rintro e w5 ⟨⟨u, rfl⟩, sx, px⟩
      replace NK := NK.step sx px
      clear sx px
      have e9 := NK.xm.cell 0 rfl
      have g9 := NK.xm.froz 0 rfl
      replace NK := NK.set 0 (.int .i64 u)
      have c0 := NK.xm.cell 0 rfl
      have c1 := NK.xm.cell 1 rfl
      have c2 := NK.xm.cell 2 rfl
      have c3 := NK.xm.cell 3 rfl
      have c4 := NK.xm.cell 4 rfl
      have c5 := NK.xm.cell 5 rfl
      have d0 := NK.rm.cell 0 rfl
      have d1 := NK.rm.cell 1 rfl
      have d2 := NK.rm.cell 2 rfl
      have d3 := NK.rm.cell 3 rfl
      have d4 := NK.rm.cell 4 rfl
      have d5 := NK.rm.cell 5 rfl
      have f0 := NK.rm.froz 0 rfl
      have f1 := NK.rm.froz 1 rfl
      have f2 := NK.rm.froz 2 rfl
      have f3 := NK.rm.froz 3 rfl
      have f4 := NK.rm.froz 4 rfl
      have f5 := NK.rm.froz 5 rfl
      have RF := NK.rm.six (.int .i64 (u)) (.int .i64 (f)) (.int .i64 (q)) (.int .i64 (x)) (.int .i64 (l)) (.int .i64 (m))
      have SF := NK.st.six NK.hz.1 NK.hz.2.2.2.1 NK.hz.2.2.2.2.2.1 (.int .i64 (u)) (.int .i64 (f)) (.int .i64 (q)) (.int .i64 (x)) (.int .i64 (l)) (.int .i64 (m))
      go_wp2_with fail
      refine bodyPost_ret (v := .agg #[.int .i64 u, .int .i64 f, .int .i64 q, .int .i64 x, .int .i64 l, .int .i64 m]) (ret6 Tryz.results35 rfl RF) rfl ⟨⟨u, f, q, x, l, m, rfl⟩, St.on hst SF, SF.step⟩
    · go_wp2_with fail
      refine (Dr.l1Num' w B p a len cap 7 (by omega) (by omega) _ NK.st).mono ?_
      rintro e w5 ⟨⟨u, rfl⟩, sx, px⟩
      replace NK := NK.step sx px
      clear sx px
      have e9 := NK.xm.cell 1 rfl
      have g9 := NK.xm.froz 1 rfl
      replace NK := NK.set 1 (.int .i64 u)
      have c0 := NK.xm.cell 0 rfl
      have c1 := NK.xm.cell 1 rfl
      have c2 := NK.xm.cell 2 rfl
      have c3 := NK.xm.cell 3 rfl
      have c4 := NK.xm.cell 4 rfl
      have c5 := NK.xm.cell 5 rfl
      have d0 := NK.rm.cell 0 rfl
      have d1 := NK.rm.cell 1 rfl
      have d2 := NK.rm.cell 2 rfl
      have d3 := NK.rm.cell 3 rfl
      have d4 := NK.rm.cell 4 rfl
      have d5 := NK.rm.cell 5 rfl
      have f0 := NK.rm.froz 0 rfl
      have f1 := NK.rm.froz 1 rfl
      have f2 := NK.rm.froz 2 rfl
      have f3 := NK.rm.froz 3 rfl
      have f4 := NK.rm.froz 4 rfl
      have f5 := NK.rm.froz 5 rfl
      have RF := NK.rm.six (.int .i64 (n)) (.int .i64 (u)) (.int .i64 (q)) (.int .i64 (x)) (.int .i64 (l)) (.int .i64 (m))
      have SF := NK.st.six NK.hz.1 NK.hz.2.2.2.1 NK.hz.2.2.2.2.2.1 (.int .i64 (n)) (.int .i64 (u)) (.int .i64 (q)) (.int .i64 (x)) (.int .i64 (l)) (.int .i64 (m))
      go_wp2_with fail
      refine bodyPost_ret (v := .agg #[.int .i64 n, .int .i64 u, .int .i64 q, .int .i64 x, .int .i64 l, .int .i64 m]) (ret6 Tryz.results35 rfl RF) rfl ⟨⟨n, u, q, x, l, m, rfl⟩, St.on hst SF, SF.step⟩
    · go_wp2_with fail
      refine (Dr.l1Num' w B p a len cap 100000 (by omega) (by omega) _ NK.st).mono ?_
      rintro e w5 ⟨⟨u, rfl⟩, sx, px⟩
      replace NK := NK.step sx px
      clear sx px
      have e9 := NK.xm.cell 2 rfl
      have g9 := NK.xm.froz 2 rfl
      replace NK := NK.set 2 (.int .i64 u)
      have c0 := NK.xm.cell 0 rfl
      have c1 := NK.xm.cell 1 rfl
      have c2 := NK.xm.cell 2 rfl
      have c3 := NK.xm.cell 3 rfl
      have c4 := NK.xm.cell 4 rfl
      have c5 := NK.xm.cell 5 rfl
      have d0 := NK.rm.cell 0 rfl
      have d1 := NK.rm.cell 1 rfl
      have d2 := NK.rm.cell 2 rfl
      have d3 := NK.rm.cell 3 rfl
      have d4 := NK.rm.cell 4 rfl
      have d5 := NK.rm.cell 5 rfl
      have f0 := NK.rm.froz 0 rfl
      have f1 := NK.rm.froz 1 rfl
      have f2 := NK.rm.froz 2 rfl
      have f3 := NK.rm.froz 3 rfl
      have f4 := NK.rm.froz 4 rfl
      have f5 := NK.rm.froz 5 rfl
      have RF := NK.rm.six (.int .i64 (n)) (.int .i64 (f)) (.int .i64 (u)) (.int .i64 (x)) (.int .i64 (l)) (.int .i64 (m))
      have SF := NK.st.six NK.hz.1 NK.hz.2.2.2.1 NK.hz.2.2.2.2.2.1 (.int .i64 (n)) (.int .i64 (f)) (.int .i64 (u)) (.int .i64 (x)) (.int .i64 (l)) (.int .i64 (m))
      go_wp2_with fail
      refine bodyPost_ret (v := .agg #[.int .i64 n, .int .i64 f, .int .i64 u, .int .i64 x, .int .i64 l, .int .i64 m]) (ret6 Tryz.results35 rfl RF) rfl ⟨⟨n, f, u, x, l, m, rfl⟩, St.on hst SF, SF.step⟩
    · go_wp2_with fail
      replace NK := NK.drew
      have hw1 : IntKind.i64.wrap (q - m) = q - m := by rw [IntKind.wrap_i64]; omega
      refine wp_region_noPanic ?_
      refine wp_region_held_drew (S := (fun w' => w'.cell? ⟨X, 2, none⟩ = some (.int .i64 q) ∧ w'.cell? ⟨X, 5, none⟩ = some (.int .i64 m))) (by kernel_rfl) ⟨NK.xm.cell 2 rfl, NK.xm.cell 5 rfl⟩ (fun hHeld => ?_)
      generalize w4.drew = wd at NK hHeld ⊢
      refine Tk.W 0 (some 27) (.fieldAddr 25 (.tmp 3) 2) 0 none ?_
      refine Tk.W 1 (some 28) (.load 2 (.tmp 27)) 2 none ?_
      refine Tk.W 2 (some 29) (.fieldAddr 25 (.tmp 3) 5) 0 none ?_
      refine Tk.W 3 (some 30) (.load 2 (.tmp 29)) 2 none ?_
      refine Tk.W 4 (some 31) (.binOp .sub 2 (.tmp 28) (.tmp 30) 2) 2 none ?_
      refine Tk.W 5 (some 32) (.move (.tmp 0)) 67 none ?_
      refine Tk.R 6 (some 33) (.call ⟨.value (.func 87), #[.tmp 32, .const (.int .i64 2)], #[67, 2]⟩) 2 none (fun K hK => ?_)
      go_simp
      refine (Dr.l1Below' w B p a len cap 2 (by omega) (by omega) _ NK.st).mono ?_
      rintro e w5 ⟨⟨y, rfl, y0, y1⟩, sx, px⟩
      replace NK := NK.step sx px
      clear sx px
      have hwb : -1000 ≤ q - m - y ∧ q - m - y ≤ 2000 := by omega
      have hw2 : IntKind.i64.wrap (q - m - y) = q - m - y := by rw [IntKind.wrap_i64]; omega
      try dsimp only
      refine hK.out _ _ ⟨NK.xm.cell 2 rfl, NK.xm.cell 5 rfl⟩ ?_; clear hK K hHeld; intro hHeld; try simp only [Act.put, List.setIfInBounds_toArray, List.set_cons_zero, List.set_cons_succ]
      refine Tk.W 7 (some 34) (.binOp .sub 2 (.tmp 31) (.tmp 33) 2) 2 none ?_
      refine Tk.W 8 (some 35) (.fieldAddr 25 (.tmp 3) 3) 0 none ?_
      refine Tk.R 9 none (.store 2 (.tmp 35) (.tmp 34)) 0 none (fun K hK => ?_)
      have g3 := NK.xm.froz 3 rfl
      have e3 := NK.xm.cell 3 rfl
      go_simp
      clear g3 e3 hw1 hw2
      replace NK := NK.set 3 (.int .i64 (q - m - y))
      generalize w5.setCell ⟨X, 3, none⟩ (.int .i64 (q - m - y)) = w6 at NK ⊢
      try dsimp only
      refine hK.out _ _ ⟨NK.xm.cell 2 rfl, NK.xm.cell 5 rfl⟩ ?_; clear hK K hHeld; intro hHeld; try simp only [Act.put, List.setIfInBounds_toArray, List.set_cons_zero, List.set_cons_succ]
      refine wpAnyH_done (by kernel_rfl) ?_ _
      refine NoPanic.normal ?_
      clear hHeld
      obtain ⟨v, hv⟩ : ∃ v, v = q - m - y := ⟨_, rfl⟩
      rw [← hv] at NK
      clear hv hwb
      have c0 := NK.xm.cell 0 rfl
      have c1 := NK.xm.cell 1 rfl
      have c2 := NK.xm.cell 2 rfl
      have c3 := NK.xm.cell 3 rfl
      have c4 := NK.xm.cell 4 rfl
      have c5 := NK.xm.cell 5 rfl
      have d0 := NK.rm.cell 0 rfl
      have d1 := NK.rm.cell 1 rfl
      have d2 := NK.rm.cell 2 rfl
      have d3 := NK.rm.cell 3 rfl
      have d4 := NK.rm.cell 4 rfl
      have d5 := NK.rm.cell 5 rfl
      have f0 := NK.rm.froz 0 rfl
      have f1 := NK.rm.froz 1 rfl
      have f2 := NK.rm.froz 2 rfl
      have f3 := NK.rm.froz 3 rfl
      have f4 := NK.rm.froz 4 rfl
      have f5 := NK.rm.froz 5 rfl
      have RF := NK.rm.six (.int .i64 (n)) (.int .i64 (f)) (.int .i64 (q)) (.int .i64 (v)) (.int .i64 (l)) (.int .i64 (m))
      have SF := NK.st.six NK.hz.1 NK.hz.2.2.2.1 NK.hz.2.2.2.2.2.1 (.int .i64 (n)) (.int .i64 (f)) (.int .i64 (q)) (.int .i64 (v)) (.int .i64 (l)) (.int .i64 (m))
      go_wp2_with fail
      refine bodyPost_ret (v := .agg #[.int .i64 n, .int .i64 f, .int .i64 q, .int .i64 v, .int .i64 l, .int .i64 m]) (ret6 Tryz.results35 rfl RF) rfl ⟨⟨n, f, q, v, l, m, rfl⟩, St.on hst SF, SF.step⟩
    · go_wp2_with fail
      refine (Dr.l1Num' w B p a len cap 1000 (by omega) (by omega) _ NK.st).mono ?_
      rintro e w5 ⟨⟨u, rfl⟩, sx, px⟩
      replace NK := NK.step sx px
      clear sx px
      have e9 := NK.xm.cell 4 rfl
      have g9 := NK.xm.froz 4 rfl
      replace NK := NK.set 4 (.int .i64 u)
      have c0 := NK.xm.cell 0 rfl
      have c1 := NK.xm.cell 1 rfl
      have c2 := NK.xm.cell 2 rfl
      have c3 := NK.xm.cell 3 rfl
      have c4 := NK.xm.cell 4 rfl
      have c5 := NK.xm.cell 5 rfl
      have d0 := NK.rm.cell 0 rfl
      have d1 := NK.rm.cell 1 rfl
      have d2 := NK.rm.cell 2 rfl
      have d3 := NK.rm.cell 3 rfl
      have d4 := NK.rm.cell 4 rfl
      have d5 := NK.rm.cell 5 rfl
      have f0 := NK.rm.froz 0 rfl
      have f1 := NK.rm.froz 1 rfl
      have f2 := NK.rm.froz 2 rfl
      have f3 := NK.rm.froz 3 rfl
      have f4 := NK.rm.froz 4 rfl
      have f5 := NK.rm.froz 5 rfl
      have RF := NK.rm.six (.int .i64 (n)) (.int .i64 (f)) (.int .i64 (q)) (.int .i64 (x)) (.int .i64 (u)) (.int .i64 (m))
      have SF := NK.st.six NK.hz.1 NK.hz.2.2.2.1 NK.hz.2.2.2.2.2.1 (.int .i64 (n)) (.int .i64 (f)) (.int .i64 (q)) (.int .i64 (x)) (.int .i64 (u)) (.int .i64 (m))
      go_wp2_with fail
      refine bodyPost_ret (v := .agg #[.int .i64 n, .int .i64 f, .int .i64 q, .int .i64 x, .int .i64 u, .int .i64 m]) (ret6 Tryz.results35 rfl RF) rfl ⟨⟨n, f, q, x, u, m, rfl⟩, St.on hst SF, SF.step⟩
    · go_wp2_with fail
      refine (Dr.l1Num' w B p a len cap 1000 (by omega) (by omega) _ NK.st).mono ?_
      rintro e w5 ⟨⟨u, rfl⟩, sx, px⟩
      replace NK := NK.step sx px
      clear sx px
      have e9 := NK.xm.cell 5 rfl
      have g9 := NK.xm.froz 5 rfl
      replace NK := NK.set 5 (.int .i64 u)
      have c0 := NK.xm.cell 0 rfl
      have c1 := NK.xm.cell 1 rfl
      have c2 := NK.xm.cell 2 rfl
      have c3 := NK.xm.cell 3 rfl
      have c4 := NK.xm.cell 4 rfl
      have c5 := NK.xm.cell 5 rfl
      have d0 := NK.rm.cell 0 rfl
      have d1 := NK.rm.cell 1 rfl
      have d2 := NK.rm.cell 2 rfl
      have d3 := NK.rm.cell 3 rfl
      have d4 := NK.rm.cell 4 rfl
      have d5 := NK.rm.cell 5 rfl
      have f0 := NK.rm.froz 0 rfl
      have f1 := NK.rm.froz 1 rfl
      have f2 := NK.rm.froz 2 rfl
      have f3 := NK.rm.froz 3 rfl
      have f4 := NK.rm.froz 4 rfl
      have f5 := NK.rm.froz 5 rfl
      have RF := NK.rm.six (.int .i64 (n)) (.int .i64 (f)) (.int .i64 (q)) (.int .i64 (x)) (.int .i64 (l)) (.int .i64 (u))
      have SF := NK.st.six NK.hz.1 NK.hz.2.2.2.1 NK.hz.2.2.2.2.2.1 (.int .i64 (n)) (.int .i64 (f)) (.int .i64 (q)) (.int .i64 (x)) (.int .i64 (l)) (.int .i64 (u))
      go_wp2_with fail
      refine bodyPost_ret (v := .agg #[.int .i64 n, .int .i64 f, .int .i64 q, .int .i64 x, .int .i64 l, .int .i64 u]) (ret6 Tryz.results35 rfl RF) rfl ⟨⟨n, f, q, x, l, u, rfl⟩, St.on hst SF, SF.step⟩

set_option maxHeartbeats 1000000 in
theorem row (B p : Nat) (a : Option Addr) (len cap N : Nat) (most : Int) (hm0 : 0 ≤ most) (hm1 : most ≤ 1000) (hN : N ≤ 1000) (w0 w : World) (st : St w0 B p a len cap w) (h00 : w0.heap.size ≤ w.heap.size) :
    Calls Tryz.prog 38 #[.pointer (some ⟨p, 0, none⟩), .int .i64 N, .int .i64 most] w fun e w' => (∃ g c, e = .returned (.slice (some ⟨g, 0, none⟩) N c) ∧ ∃ zs, Own w' w.heap.size g N c zs ∧ ∀ x ∈ zs, -most ≤ x ∧ x ≤ most) ∧ St w0 B p a len cap w' ∧ Dr.Step p w w' := by
  obtain ⟨i0, hi, hz0, hz1, hz2⟩ := info_parts Ls.info
  have hpl := st.lt
  have hle := st.le
  have hstp := st.step
  go_enter Tryz.func38, Tryz.ntmps38
  go_wp2
  go_loopw [7, 8] (fun v q wr => ∃ (k g c : Nat) (zs : List Int), k ≤ N ∧ q = .int .i64 (k : Int) ∧ v = .slice (some ⟨g, 0, none⟩) k c ∧ Own wr w.heap.size g k c zs ∧ Hid (∀ x ∈ zs, -most ≤ x ∧ x ≤ most) ∧ St w B p a len cap wr) (fun _ q _ => N - (intOf q).toNat)
  case atStart => exact ⟨0, _, _, [], Nat.zero_le _, rfl, rfl, World.ownsRow_made w #[] 0 (Nat.le_refl _) (by unfold maxLen; omega) rfl, (fun x hx => by cases hx), St.obj ⟨st.cur, Dr.Step.refl _ _⟩ _⟩
  case round =>
    obtain ⟨k, g, c, zs, hk, rfl, rfl, ho, HB, sr⟩ := hrel
    have hgB := ho.data.2.1
    have hzl := ho.data.1
    by_cases hlt : k < N
    · have hi' : (k : Int) < (N : Int) := by omega
      go_wp2_with fail
      refine (Dg.l1From' wr B p a len cap (-most) most (by omega) (by omega) (by omega) wr ⟨sr.cur, Dr.Step.refl _ _⟩).mono ?_
      rintro e w1 ⟨⟨x, rfl, x0, x1⟩, s1, _⟩
      have ho1 := Dg.own_step ho s1.step (by omega)
      have sr1 : St w B p a len cap w1 := ⟨s1.cur, sr.step.trans s1.step⟩
      have sz1 : w.heap.size ≤ w1.heap.size := sr1.step.size
      have HO1 : Hid (Own w1 w.heap.size g k c zs) := ho1
      clear ho ho1 s1 sr
      go_wp2_with (at_builtin; refine wpList_append_own _ rfl (.tmp 15) (.tmp 21) 26 rfl w.heap.size 2 i0 (.int .i64 0) 1 8 Tryz.underlying26 hi hz0 hz1 hz2 rfl (by decide) _ _ _ rfl (World.ownsRow.alloc (w := w1) HO1.out _) ⟨w1.heap.size, 0, none⟩ 1 1 (ints [x]) rfl rfl (Dg.one_new w1 x _ _ rfl) (Ow.one _) (by unfold maxLen; omega) (by omega) (by simp; omega) ?_; intro v2 w2 hx2 hg2 hn2)
      obtain ⟨g2, c2, rfl, ho2⟩ := Kd.more hx2 (Dg.no_nil hn2 rfl)
      have sr2 : St w B p a len cap w2 := Dg.dr_grown (g := g) (sr1.obj _) hg2 (by omega) (by omega) hgB
      clear hx2 hg2 hn2 sr1 HO1
      go_wp2_with fail
      go_roundw
      case rel => exact ⟨k + 1, g2, c2, zs ++ [x], by omega, by go_num, rfl, ho2, (fun y hy => by rcases List.mem_append.1 hy with hy | hy; exact HB.out y hy; rw [List.mem_singleton] at hy; subst hy; exact ⟨x0, x1⟩), sr2⟩
      case measure => simp [intOf]; omega
    · have hi' : ¬ (k : Int) < (N : Int) := by omega
      have e : k = N := by omega
      subst e
      go_wp2
      go_ret
      exact ⟨⟨g, c, rfl, zs, ho, HB.out⟩, ⟨sr.cur, hstp.trans sr.step⟩, sr.step⟩

theorem hasb_step {p : Nat} {w w' : World} {B g off n : Nat} {zs : List Bool} (h : HasB w B g off n zs) (s : Step p w w') (hne : g ≠ p) : HasB w' B g off n zs := by
  have e : w'.heap[g]? = w.heap[g]? := s.block g h.2.2.1 hne
  exact ⟨h.1, h.2.1, by have := s.size; have := h.2.2.1; omega, fun k hk => by rw [World.cell?_of_block (w := w) (a := ⟨g, off + k, none⟩) e]; exact h.2.2.2.1 k hk, fun k hk => by rw [World.frozen?_of_block (w := w) (a := ⟨g, off + k, none⟩) e]; exact h.2.2.2.2 k hk⟩

theorem hasb_set {w : World} {B g off n y : Nat} {bs : List Bool} (h : HasB w B g off n bs) (hy : y < n) (b : Bool) : HasB (w.setCell ⟨g, off + y, none⟩ (.bool b)) B g off n (bs.set y b) := by
  refine ⟨by simp [h.1], h.2.1, by simpa using h.2.2.1, fun k hk => ?_, fun k hk => by rw [World.frozen?_setCell]; exact h.2.2.2.2 k hk⟩
  by_cases e : k = y
  · subst e
    rw [World.cell?_setCell_same _ _ _ (h.2.2.2.1 k hk)]
    simp [eb, List.getD, h.1, hk]
  · rw [World.cell?_setCell_other _ _ _ _ (by simp <;> omega), h.2.2.2.1 k hk]
    simp [eb, List.getD, List.getElem?_set, e, Ne.symm e]

set_option maxHeartbeats 2000000 in
theorem l5DrawLies (w0 : World) (B p : Nat) (a : Option Addr) (len cap : Nat) (n : Nat) (most : Int) (hn : 0 < n) (hn2 : n ≤ 1000) (h0 : 0 ≤ most) (h1 : most ≤ 1000) (w : World) (st : St w0 B p a len cap w) :
    Calls Tryz.prog 42 #[.pointer (some ⟨p, 0, none⟩), .int .i64 n, .int .i64 most] w fun e w' => (∃ g, e = .returned (.slice (some ⟨g, 0, none⟩) n n) ∧ ∃ bs, HasB w' w.heap.size g 0 n bs) ∧ St w0 B p a len cap w' ∧ Step p w w' := by
  have hmk := run_make_row' (P := Tryz.prog) 27 4 (.bool false) 1 Tryz.underlying27 Bo.info rfl .i64 .i64 n (by omega) (by omega)
  have hp := st.lt
  have hB := st.le
  have hst := st.step
  go_enter Tryz.func42, Tryz.ntmps42
  go_wp2_with fail
  have stA := st.here.obj (.cells (madeCells #[.bool false] n) 4)
  have HA : HasB (w.alloc (.cells (madeCells #[.bool false] n) 4)) w.heap.size w.heap.size 0 n (List.replicate n false) :=
    Bo.has_new (by simp) (Nat.le_refl _) ((World.rowIs_made w _ n _).congr (fun i hi => by unfold Bo.part Bo.eb List.getD; rw [List.getElem?_replicate, if_pos hi]; split <;> rfl))
  refine (Dr.l1Below' w B p a len cap (most + 1) (by omega) (by omega) _ stA).mono ?_
  rintro e w1 ⟨⟨x, rfl, x0, x1⟩, st1, s1⟩
  have H1 : Hid (HasB w1 w.heap.size w.heap.size 0 n (List.replicate n false)) := hasb_step HA s1 (by omega)
  clear HA stA s1
  obtain ⟨K, rfl⟩ : ∃ K : Nat, x = K := ⟨x.toNat, by omega⟩
  go_wp2_with fail
  go_loopw [8] (fun q wr => ∃ (j : Nat) (bs : List Bool), q = .int .i64 (j : Int) ∧ Hid (HasB wr w.heap.size w.heap.size 0 n bs) ∧ j ≤ 1000 ∧ St w B p a len cap wr) (fun q _ => (intOf q).toNat)
  case atStart => exact ⟨K, _, rfl, H1, by omega, st1⟩
  case round =>
    obtain ⟨j, bs, rfl, HB, hj, sr⟩ := hrel
    have hsz := sr.step.size
    by_cases hlt : 0 < j
    · have hi : (0 : Int) < j := by omega
      go_wp2_with fail
      refine (Dr.l1Below' w B p a len cap n (by omega) (by omega) _ sr).mono ?_
      rintro e w2 ⟨⟨y, rfl, y0, y1⟩, st2, s2⟩
      obtain ⟨Y, rfl⟩ : ∃ Y : Nat, y = Y := ⟨y.toNat, by omega⟩
      have HB2 := hasb_step HB.out s2 (by omega)
      have hc := HB2.2.2.2.1 Y (by omega)
      have hf := HB2.2.2.2.2 Y (by omega)
      rw [Nat.zero_add] at hc hf
      have HB3 : Hid (HasB (w2.setCell ⟨w.heap.size, Y, none⟩ (.bool true)) w.heap.size w.heap.size 0 n (bs.set Y true)) := by
        have q := hasb_set HB2 (y := Y) (by omega) true
        rw [Nat.zero_add] at q
        exact q
      have st3 := st2.setNew (q := w.heap.size) Y (Nat.le_refl _) (by omega) (by omega) (.bool true)
      clear HB2 HB s2
      go_wp2_with fail
      go_roundw
      case rel => exact ⟨j - 1, _, by rw [Int.ofNat_sub hlt]; go_num, HB3, by omega, st3⟩
      case measure => simp [intOf]; omega
    · have hi : ¬ (0 : Int) < j := by omega
      go_wp2
      go_ret
      exact ⟨⟨_, rfl, bs, HB.out⟩, ⟨sr.cur, hst.trans sr.step⟩, sr.step⟩
theorem ret64 {fn : Func} {ts : Array Value} {W : World} {R : Nat} {x0 x1 x2 x3 x4 x5 : Int} {v3 v4 v5 : Value} (hf : fn.results = #[.cell 2 25, .tmp 3, .tmp 4, .tmp 5]) (h2 : ts[2]? = some (.pointer (some ⟨R, 0, none⟩))) (h3 : ts[3]? = some v3) (h4 : ts[4]? = some v4) (h5 : ts[5]? = some v5)
    (h : Room W R [.int .i64 x0, .int .i64 x1, .int .i64 x2, .int .i64 x3, .int .i64 x4, .int .i64 x5]) : (results fn ts).run Tryz.prog W = .ok (.tuple #[.agg #[.int .i64 x0, .int .i64 x1, .int .i64 x2, .int .i64 x3, .int .i64 x4, .int .i64 x5], v3, v4, v5]) W := by
  have q0 := h.cell 0 rfl
  have q1 := h.cell 1 rfl
  have q2 := h.cell 2 rfl
  have q3 := h.cell 3 rfl
  have q4 := h.cell 4 rfl
  have q5 := h.cell 5 rfl
  simp [results, hf, h2, h3, h4, h5, go_sem, q0, q1, q2, q3, q4, q5]
theorem own_other {w : World} {B g n c q i : Nat} {zs : List Int} (h : Own w B g n c zs) (hne : g ≠ q) (v : Value) : Own (w.setCell ⟨q, i, none⟩ v) B g n c zs := by
  obtain ⟨h1, h2⟩ := h
  refine ⟨h1, ?_⟩
  rcases h2 with h2 | ⟨g', cap', cur, e, hB, hb', rest⟩
  · exact .inl h2
  · cases e
    exact .inr ⟨g, c, cur, rfl, hB, by rw [Below.heap_setCell _ _ _ _ (by simp; omega)]; exact hb', rest⟩
theorem oth6 {w : World} {B g n c q : Nat} {zs : List Int} (h : Own w B g n c zs) (hne : g ≠ q) (v0 v1 v2 v3 v4 v5 : Value) : Own ((((((w.setCell ⟨q, 0, none⟩ v0).setCell ⟨q, 1, none⟩ v1).setCell ⟨q, 2, none⟩ v2).setCell ⟨q, 3, none⟩ v3).setCell ⟨q, 4, none⟩ v4).setCell ⟨q, 5, none⟩ v5) B g n c zs :=
  own_other (own_other (own_other (own_other (own_other (own_other h hne _) hne _) hne _) hne _) hne _) hne _
theorem flag_other {w : World} {g n q i : Nat} {bs : List Bool} (h : Flags w w.heap.size (some ⟨g, 0, none⟩) n bs) (hne : g ≠ q) (v : Value) : Flags (w.setCell ⟨q, i, none⟩ v) (w.setCell ⟨q, i, none⟩ v).heap.size (some ⟨g, 0, none⟩) n bs := by
  refine ⟨h.1, ?_⟩
  rcases h.2 with h0 | ⟨b, off, e, hb, hc⟩
  · exact .inl h0
  · cases e
    exact .inr ⟨g, 0, rfl, by simpa using hb, fun k hk => by rw [World.cell?_setCell_other _ _ _ _ (by simp <;> omega)]; exact hc k hk⟩
theorem oth6b {w : World} {B g n q : Nat} {bs : List Bool} (h : HasB w B g 0 n bs) (hne : g ≠ q) (v0 v1 v2 v3 v4 v5 : Value) : Flags ((((((w.setCell ⟨q, 0, none⟩ v0).setCell ⟨q, 1, none⟩ v1).setCell ⟨q, 2, none⟩ v2).setCell ⟨q, 3, none⟩ v3).setCell ⟨q, 4, none⟩ v4).setCell ⟨q, 5, none⟩ v5) ((((((w.setCell ⟨q, 0, none⟩ v0).setCell ⟨q, 1, none⟩ v1).setCell ⟨q, 2, none⟩ v2).setCell ⟨q, 3, none⟩ v3).setCell ⟨q, 4, none⟩ v4).setCell ⟨q, 5, none⟩ v5).heap.size (some ⟨g, 0, none⟩) n bs :=
  flag_other (flag_other (flag_other (flag_other (flag_other (flag_other h.row hne _) hne _) hne _) hne _) hne _) hne _

set_option maxHeartbeats 16000000 in
set_option maxRecDepth 100000 in
theorem drawNewCourt (B : Nat) (a : Option Addr) (len cap : Nat) (w : World) (hB : B ≤ w.heap.size) (hc : Dr.Code w B a len) :
    Calls Tryz.prog 9 #[.slice a len cap] w fun e w' => (∃ (n f q x l m : Int) (g2 k2 c2 g1 k1 c1 g3 k3 c3 : Nat) (zs os : List Int) (bs : List Bool), e = .returned (.tuple #[.agg #[.int .i64 n, .int .i64 f, .int .i64 q, .int .i64 x, .int .i64 l, .int .i64 m], .slice (some ⟨g2, 0, none⟩) k2 c2, .slice (some ⟨g1, 0, none⟩) k1 c1, .slice (some ⟨g3, 0, none⟩) k3 c3]) ∧ Row w' w'.heap.size (some ⟨g2, 0, none⟩) k2 zs ∧ Row w' w'.heap.size (some ⟨g1, 0, none⟩) k1 os ∧ Flags w' w'.heap.size (some ⟨g3, 0, none⟩) k3 bs ∧ k2 ≤ 1000 ∧ k1 ≤ 1000 ∧ k3 ≤ 1000) ∧ Below w.heap.size w w' := by
  have RR := Room.new w [.int .i64 0, .int .i64 0, .int .i64 0, .int .i64 0, .int .i64 0, .int .i64 0] 25
  have B1 := (Below.refl w.heap.size w).alloc (Nat.le_refl _) (.cells #[.int .i64 0, .int .i64 0, .int .i64 0, .int .i64 0, .int .i64 0, .int .i64 0] 25)
  go_enter Tryz.func9, Tryz.ntmps9
  go_wp2_with fail
  have hA : Hid (w.heap.size + 1 = (w.alloc (.cells #[.int .i64 0, .int .i64 0, .int .i64 0, .int .i64 0, .int .i64 0, .int .i64 0] 25)).heap.size) := by show _ = _; simp
  generalize w.alloc (.cells #[.int .i64 0, .int .i64 0, .int .i64 0, .int .i64 0, .int .i64 0, .int .i64 0] 25) = wA at RR B1 hA ⊢
  have zA : w.heap.size < wA.heap.size := by have := hA.out; omega
  clear hA
  refine (Dr.l1New B a len cap wA (by omega) (hc.later (B1.mono hB))).mono ?_
  rintro e w1 ⟨rfl, st1⟩
  have q1 := st1.step.size
  have hp1 := st1.lt
  replace RR := Dg.room_step RR st1.step (by omega)
  go_wp2_with fail
  refine (drawRuleAny wA B wA.heap.size a len cap _ st1).mono ?_
  rintro e w2 ⟨⟨n, f, q, x, l, m, rfl⟩, st2, s2⟩
  replace RR := Dg.room_step RR s2 (by omega)
  have z2 := s2.size
  clear s2 st1
  have lR := RR.lt (by simp)
  have hs4 := st2.step.size
  obtain ⟨X, hX⟩ : ∃ X, X = w2.heap.size := ⟨_, rfl⟩
  have XX := Room.at w2 [.int .i64 n, .int .i64 f, .int .i64 q, .int .i64 x, .int .i64 l, .int .i64 m] 25 X hX
  replace st2 := st2.obj (.cells #[.int .i64 n, .int .i64 f, .int .i64 q, .int .i64 x, .int .i64 l, .int .i64 m] 25)
  replace RR := RR.alloc (.cells #[.int .i64 n, .int .i64 f, .int .i64 q, .int .i64 x, .int .i64 l, .int .i64 m] 25)
  have zX : X < (w2.alloc (.cells #[.int .i64 n, .int .i64 f, .int .i64 q, .int .i64 x, .int .i64 l, .int .i64 m] 25)).heap.size := by rw [hX]; simp
  have HX : Hid (X = w2.heap.size ∧ w2.heap.size ≠ wA.heap.size ∧ wA.heap.size < w2.heap.size) := ⟨hX, by omega, by omega⟩
  have hx0 := XX.cell 0 rfl
  rw [hX] at hx0
  clear hX
  go_wp2_with fail
  clear hx0
  rw [← HX.out.1]
  generalize w2.alloc (.cells #[.int .i64 n, .int .i64 f, .int .i64 q, .int .i64 x, .int .i64 l, .int .i64 m] 25) = w3 at XX st2 RR zX ⊢
  have hXp : X ≠ wA.heap.size := by have := HX.out; omega
  have hXR : X ≠ w.heap.size := by have := HX.out; omega
  have hwX : w.heap.size < X := by have := HX.out; omega
  have hRp : w.heap.size ≠ wA.heap.size := by omega
  clear HX lR hs4 z2 q1 hp1
  refine (Sp.l1Min n 16 _).mono ?_
  rintro e w3 ⟨rfl, rfl⟩
  go_wp2_with fail
  refine (Sp.l1Max 1 (min n 16) _).mono ?_
  rintro e w3 ⟨rfl, rfl⟩
  have hm0 : 1 ≤ max 1 (min n 16) := by omega
  have hm1 : max 1 (min n 16) ≤ 16 := by omega
  generalize max 1 (min n 16) = v at hm0 hm1 ⊢
  obtain ⟨k, rfl⟩ : ∃ k : Nat, v = (k : Int) := ⟨v.toNat, by omega⟩
  have hk0 : 0 < k := by omega
  have hk1 : k ≤ 16 := by omega
  clear hm0 hm1
  have hAw : wA.heap.size ≤ w3.heap.size := st2.step.size
  go_wp2_with fail
  refine (row B wA.heap.size a len cap k 20 (by omega) (by omega) (by omega) wA _ st2 hAw).mono ?_
  rintro e w5 ⟨⟨g1, c1, rfl, os, ho, _⟩, st5, s5⟩
  have hg1 := ho.data.2.1
  replace RR := Dg.room_step RR s5 hRp
  replace XX := Dg.room_step XX s5 hXp
  replace ho := ho.mono (show w.heap.size + 1 ≤ w3.heap.size by omega)
  have hgX : X < g1 := by omega
  have hAg1 : wA.heap.size ≤ g1 := by omega
  have hgp : g1 ≠ wA.heap.size := by have := st2.lt; omega
  replace zX := Nat.lt_of_lt_of_le zX s5.size
  replace hAw := Nat.le_trans hAw s5.size
  clear s5 st2 hg1
  go_wp2_with fail
  refine (Dr.l1Once' wA B wA.heap.size a len cap 12 (by omega) (by omega) _ st5).mono ?_
  rintro e w6 ⟨⟨tt, rfl⟩, st6, s6⟩
  replace RR := Dg.room_step RR s6 hRp
  replace XX := Dg.room_step XX s6 hXp
  replace ho := Dg.own_step ho s6 hgp
  replace zX := Nat.lt_of_lt_of_le zX s6.size
  replace hAw := Nat.le_trans hAw s6.size
  clear s6 st5
  cases tt with
  | false =>
    go_wp2_with fail
    replace st6 := st6.drew'
    replace RR := RR.drew
    replace XX := XX.drew
    replace ho := ho.later (Below.refl _ _).drew ho.lt
    replace zX : X < w6.drew.heap.size := zX
    replace hAw : wA.heap.size ≤ w6.drew.heap.size := hAw
    refine wp_region_noPanic ?_
    refine wp_region_held_drew (S := (fun w' => w'.cell? ⟨X, 0, none⟩ = some (.int .i64 n) ∧ w'.cell? ⟨X, 1, none⟩ = some (.int .i64 f) ∧ w'.cell? ⟨X, 2, none⟩ = some (.int .i64 q) ∧ w'.cell? ⟨X, 3, none⟩ = some (.int .i64 x) ∧ w'.cell? ⟨X, 4, none⟩ = some (.int .i64 l) ∧ w'.cell? ⟨X, 5, none⟩ = some (.int .i64 m))) (by kernel_rfl) ⟨XX.cell 0 rfl, XX.cell 1 rfl, XX.cell 2 rfl, XX.cell 3 rfl, XX.cell 4 rfl, XX.cell 5 rfl⟩ (fun hHeld => ?_)
    generalize w6.drew = xa at RR XX ho st6 zX hAw hHeld ⊢
    refine Tk.W 0 (some 28) (.load 25 (.tmp 7)) 25 none ?_
    refine Tk.W 1 (some 29) (.move (.tmp 6)) 67 none ?_
    refine Tk.W 2 (some 30) (.move (.tmp 8)) 2 none ?_
    refine Tk.W 4 (some 32) (.move (.tmp 9)) 26 none ?_
    refine Tk.W 5 (some 33) (.move (.tmp 6)) 67 none ?_
    refine Tk.W 6 (some 34) (.move (.tmp 8)) 2 none ?_
    refine Tk.R 3 (some 31) (.call ⟨.value (.func 41), #[.tmp 29, .tmp 30], #[67, 2]⟩) 26 none (fun K hK => ?_)
    go_simp
    refine (Kd.l9DrawKeys wA B wA.heap.size a len cap k (by omega) _ st6).mono ?_
    rintro e xb ⟨⟨g2, c2, rfl, zs, hz⟩, st7, s7⟩
    have hg2 := hz.data.2.1
    replace RR := Dg.room_step RR s7 hRp
    replace XX := Dg.room_step XX s7 hXp
    replace ho := Dg.own_step ho s7 hgp
    have hz2 : Own xb (w.heap.size + 1) g2 k c2 zs := hz.mono (by omega)
    have hg2X : X < g2 := by omega
    have hg2p : g2 ≠ wA.heap.size := by have := st6.lt; omega
    replace zX := Nat.lt_of_lt_of_le zX s7.size
    replace hAw := Nat.le_trans hAw s7.size
    clear s7 st6 hz hg2
    try dsimp only
    refine hK.out _ _ ⟨XX.cell 0 rfl, XX.cell 1 rfl, XX.cell 2 rfl, XX.cell 3 rfl, XX.cell 4 rfl, XX.cell 5 rfl⟩ ?_; clear hK K hHeld; intro hHeld; try simp only [Act.put, List.setIfInBounds_toArray, List.set_cons_zero, List.set_cons_succ]
    refine Tk.R 7 (some 35) (.call ⟨.value (.func 42), #[.tmp 33, .tmp 34, .const (.int .i64 2)], #[67, 2, 2]⟩) 27 none (fun K hK => ?_)
    go_simp
    refine (l5DrawLies wA B wA.heap.size a len cap k 2 hk0 (by omega) (by omega) (by omega) _ st7).mono ?_
    rintro e xc ⟨⟨g3, rfl, bs, hb⟩, st8, s8⟩
    have hg3 := hb.2.1
    replace RR := Dg.room_step RR s8 hRp
    replace XX := Dg.room_step XX s8 hXp
    replace ho := Dg.own_step ho s8 hgp
    replace hz2 := Dg.own_step hz2 s8 hg2p
    have hg3X : w.heap.size < g3 := by omega
    have sz8 := s8.size
    clear s8 st7
    try dsimp only
    refine hK.out _ _ ⟨XX.cell 0 rfl, XX.cell 1 rfl, XX.cell 2 rfl, XX.cell 3 rfl, XX.cell 4 rfl, XX.cell 5 rfl⟩ ?_; clear hK K hHeld; intro hHeld; try simp only [Act.put, List.setIfInBounds_toArray, List.set_cons_zero, List.set_cons_succ]
    refine Tk.R 8 none (.store 25 (.tmp 2) (.tmp 28)) 0 none (fun K hK => ?_)
    have h0 := RR.cell 0 rfl
    have h1 := RR.cell 1 rfl
    have h2 := RR.cell 2 rfl
    have h3 := RR.cell 3 rfl
    have h4 := RR.cell 4 rfl
    have h5 := RR.cell 5 rfl
    have f0 := RR.froz 0 rfl
    have f1 := RR.froz 1 rfl
    have f2 := RR.froz 2 rfl
    have f3 := RR.froz 3 rfl
    have f4 := RR.froz 4 rfl
    have f5 := RR.froz 5 rfl
    go_simp
    clear h0 f0 h1 f1 h2 f2 h3 f3 h4 f4 h5 f5
    have RF := RR.six (.int .i64 n) (.int .i64 f) (.int .i64 q) (.int .i64 x) (.int .i64 l) (.int .i64 m)
    have SF := st8.step
    have BF : Below w.heap.size w ((((((xc.setCell ⟨w.heap.size, 0, none⟩ (.int .i64 n)).setCell ⟨w.heap.size, 1, none⟩ (.int .i64 f)).setCell ⟨w.heap.size, 2, none⟩ (.int .i64 q)).setCell ⟨w.heap.size, 3, none⟩ (.int .i64 x)).setCell ⟨w.heap.size, 4, none⟩ (.int .i64 l)).setCell ⟨w.heap.size, 5, none⟩ (.int .i64 m)) := (((((((B1.trans ((SF.fresh (Nat.le_refl _)).mono B1.size)).setCell (p := ⟨w.heap.size, 0, none⟩) (Nat.le_refl _) _).setCell (p := ⟨w.heap.size, 1, none⟩) (Nat.le_refl _) _).setCell (p := ⟨w.heap.size, 2, none⟩) (Nat.le_refl _) _).setCell (p := ⟨w.heap.size, 3, none⟩) (Nat.le_refl _) _).setCell (p := ⟨w.heap.size, 4, none⟩) (Nat.le_refl _) _).setCell (p := ⟨w.heap.size, 5, none⟩) (Nat.le_refl _) _)
    have hoF : Own ((((((xc.setCell ⟨w.heap.size, 0, none⟩ (.int .i64 n)).setCell ⟨w.heap.size, 1, none⟩ (.int .i64 f)).setCell ⟨w.heap.size, 2, none⟩ (.int .i64 q)).setCell ⟨w.heap.size, 3, none⟩ (.int .i64 x)).setCell ⟨w.heap.size, 4, none⟩ (.int .i64 l)).setCell ⟨w.heap.size, 5, none⟩ (.int .i64 m)) (w.heap.size + 1) g1 k c1 os := oth6 ho (by omega) (.int .i64 n) (.int .i64 f) (.int .i64 q) (.int .i64 x) (.int .i64 l) (.int .i64 m)
    have hzF : Own ((((((xc.setCell ⟨w.heap.size, 0, none⟩ (.int .i64 n)).setCell ⟨w.heap.size, 1, none⟩ (.int .i64 f)).setCell ⟨w.heap.size, 2, none⟩ (.int .i64 q)).setCell ⟨w.heap.size, 3, none⟩ (.int .i64 x)).setCell ⟨w.heap.size, 4, none⟩ (.int .i64 l)).setCell ⟨w.heap.size, 5, none⟩ (.int .i64 m)) (w.heap.size + 1) g2 k c2 zs := oth6 hz2 (by omega) (.int .i64 n) (.int .i64 f) (.int .i64 q) (.int .i64 x) (.int .i64 l) (.int .i64 m)
    have hbF : Flags ((((((xc.setCell ⟨w.heap.size, 0, none⟩ (.int .i64 n)).setCell ⟨w.heap.size, 1, none⟩ (.int .i64 f)).setCell ⟨w.heap.size, 2, none⟩ (.int .i64 q)).setCell ⟨w.heap.size, 3, none⟩ (.int .i64 x)).setCell ⟨w.heap.size, 4, none⟩ (.int .i64 l)).setCell ⟨w.heap.size, 5, none⟩ (.int .i64 m)) ((((((xc.setCell ⟨w.heap.size, 0, none⟩ (.int .i64 n)).setCell ⟨w.heap.size, 1, none⟩ (.int .i64 f)).setCell ⟨w.heap.size, 2, none⟩ (.int .i64 q)).setCell ⟨w.heap.size, 3, none⟩ (.int .i64 x)).setCell ⟨w.heap.size, 4, none⟩ (.int .i64 l)).setCell ⟨w.heap.size, 5, none⟩ (.int .i64 m)).heap.size (some ⟨g3, 0, none⟩) k bs := oth6b hb (by omega) (.int .i64 n) (.int .i64 f) (.int .i64 q) (.int .i64 x) (.int .i64 l) (.int .i64 m)
    have XF := ((((((XX.setOther (Ne.symm hXR) 0 (.int .i64 n)).setOther (Ne.symm hXR) 1 (.int .i64 f)).setOther (Ne.symm hXR) 2 (.int .i64 q)).setOther (Ne.symm hXR) 3 (.int .i64 x)).setOther (Ne.symm hXR) 4 (.int .i64 l)).setOther (Ne.symm hXR) 5 (.int .i64 m))
    generalize ((((((xc.setCell ⟨w.heap.size, 0, none⟩ (.int .i64 n)).setCell ⟨w.heap.size, 1, none⟩ (.int .i64 f)).setCell ⟨w.heap.size, 2, none⟩ (.int .i64 q)).setCell ⟨w.heap.size, 3, none⟩ (.int .i64 x)).setCell ⟨w.heap.size, 4, none⟩ (.int .i64 l)).setCell ⟨w.heap.size, 5, none⟩ (.int .i64 m)) = xd at RF BF hoF hzF hbF XF ⊢
    try dsimp only
    refine hK.out _ _ ⟨XF.cell 0 rfl, XF.cell 1 rfl, XF.cell 2 rfl, XF.cell 3 rfl, XF.cell 4 rfl, XF.cell 5 rfl⟩ ?_; clear hK K hHeld; intro hHeld; try simp only [Act.put, List.setIfInBounds_toArray, List.set_cons_zero, List.set_cons_succ]
    refine Tk.W 9 (some 3) (.assign (.tmp 31)) 26 none ?_
    refine Tk.W 10 (some 4) (.assign (.tmp 32)) 26 none ?_
    refine Tk.W 11 (some 5) (.assign (.tmp 35)) 27 none ?_
    refine wpAnyH_done (by kernel_rfl) ?_ _
    refine NoPanic.normal ?_
    clear hHeld
    go_wp2_with fail
    refine bodyPost_ret (v := .tuple #[.agg #[.int .i64 n, .int .i64 f, .int .i64 q, .int .i64 x, .int .i64 l, .int .i64 m], .slice (some ⟨g2, 0, none⟩) k c2, .slice (some ⟨g1, 0, none⟩) (k) c1, .slice (some ⟨g3, 0, none⟩) k k]) (ret64 Tryz.results9 rfl rfl rfl rfl RF) rfl ⟨⟨n, f, q, x, l, m, g2, k, c2, g1, k, c1, g3, k, k, zs, os, bs, rfl, hzF.row, hoF.row, hbF, by omega, by omega, by omega⟩, BF⟩
  | true =>
    go_wp2_with fail
    refine (Dr.l1Odd' wA B wA.heap.size a len cap _ st6).mono ?_
    rintro e w7 ⟨⟨y, rfl, _, _⟩, st7, s7⟩
    replace RR := Dg.room_step RR s7 hRp
    replace XX := Dg.room_step XX s7 hXp
    replace ho := Dg.own_step ho s7 hgp
    replace zX := Nat.lt_of_lt_of_le zX s7.size
    replace hAw := Nat.le_trans hAw s7.size
    clear s7 st6
    obtain ⟨i0, hi0, hz0, hz1, hz2⟩ := info_parts Ls.info
    have hgB := ho.data.2.1
    have HO : Hid (Own w7 (w.heap.size + 1) g1 k c1 os) := ho
    clear ho
    go_wp2_with (at_builtin; refine wpList_append_own_at _ rfl (.tmp 23) (.tmp 26) 26 rfl (w.heap.size + 1) 2 i0 (.int .i64 0) 1 8 Tryz.underlying26 hi0 hz0 hz1 hz2 rfl (by decide) _ _ _ rfl (World.ownsRow.alloc (w := w7) HO.out _) ⟨w7.heap.size, 0, none⟩ 1 1 (ints [y]) rfl rfl (Dg.one_new w7 y _ _ rfl) (Ow.one _) (by unfold maxLen; omega) (by omega) (by simp; omega) ?_; intro v2 w8 hx2 hg2 hn2 ha2)
    obtain ⟨g9, c9, rfl, ho2, hat⟩ := Ow.more_at hx2 (Dg.no_nil hn2 rfl) ha2
    have hp7 := st7.lt
    have le7 := st7.le
    have h9 : g9 = g1 ∨ g9 = w7.heap.size + 1 := hat
    have st6 : St wA B wA.heap.size a len cap w8 := Dg.dr_grown (g := g1) (st7.obj _) hg2 hgp (Nat.le_trans (st7.le) hAg1) hAg1
    replace RR := (RR.alloc (.cells #[.int .i64 y] 2)).other hg2 (by have := hgX; simp; omega)
    replace XX := (XX.alloc (.cells #[.int .i64 y] 2)).other hg2 (by have := hgX; simp; omega)
    have hgX9 : X < g9 := h9.elim (fun h => by rw [h]; exact hgX) (fun h => by rw [h]; omega)
    have hgp9 : g9 ≠ wA.heap.size := h9.elim (fun h => by rw [h]; exact hgp) (fun h => by rw [h]; omega)
    have sz8 := hg2.size
    rw [World.size_alloc] at sz8
    replace zX : X < w8.heap.size := by omega
    replace hAw : wA.heap.size ≤ w8.heap.size := by omega
    replace hgX := hgX9
    replace hgp := hgp9
    clear hgX9 hgp9 hAg1
    clear hx2 hg2 hn2 ha2 hat HO st7 h9 hgB le7 hp7 sz8 hi0 hz0 hz1 hz2
    have ho := ho2
    clear ho2
    go_wp2_with fail
    replace st6 := st6.drew'
    replace RR := RR.drew
    replace XX := XX.drew
    replace ho := ho.later (Below.refl _ _).drew ho.lt
    replace zX : X < w8.drew.heap.size := zX
    replace hAw : wA.heap.size ≤ w8.drew.heap.size := hAw
    refine wp_region_noPanic ?_
    refine wp_region_held_drew (S := (fun w' => w'.cell? ⟨X, 0, none⟩ = some (.int .i64 n) ∧ w'.cell? ⟨X, 1, none⟩ = some (.int .i64 f) ∧ w'.cell? ⟨X, 2, none⟩ = some (.int .i64 q) ∧ w'.cell? ⟨X, 3, none⟩ = some (.int .i64 x) ∧ w'.cell? ⟨X, 4, none⟩ = some (.int .i64 l) ∧ w'.cell? ⟨X, 5, none⟩ = some (.int .i64 m))) (by kernel_rfl) ⟨XX.cell 0 rfl, XX.cell 1 rfl, XX.cell 2 rfl, XX.cell 3 rfl, XX.cell 4 rfl, XX.cell 5 rfl⟩ (fun hHeld => ?_)
    generalize w8.drew = xa at RR XX ho st6 zX hAw hHeld  ⊢
    refine Tk.W 0 (some 28) (.load 25 (.tmp 7)) 25 none ?_
    refine Tk.W 1 (some 29) (.move (.tmp 6)) 67 none ?_
    refine Tk.W 2 (some 30) (.move (.tmp 8)) 2 none ?_
    refine Tk.W 4 (some 32) (.move (.tmp 9)) 26 none ?_
    refine Tk.W 5 (some 33) (.move (.tmp 6)) 67 none ?_
    refine Tk.W 6 (some 34) (.move (.tmp 8)) 2 none ?_
    refine Tk.R 3 (some 31) (.call ⟨.value (.func 41), #[.tmp 29, .tmp 30], #[67, 2]⟩) 26 none (fun K hK => ?_)
    go_simp
    refine (Kd.l9DrawKeys wA B wA.heap.size a len cap k (by omega) _ st6).mono ?_
    rintro e xb ⟨⟨g2, c2, rfl, zs, hz⟩, st7, s7⟩
    have hg2 := hz.data.2.1
    replace RR := Dg.room_step RR s7 hRp
    replace XX := Dg.room_step XX s7 hXp
    replace ho := Dg.own_step ho s7 hgp
    have hz2 : Own xb (w.heap.size + 1) g2 k c2 zs := hz.mono (by omega)
    have hg2X : X < g2 := by omega
    have hg2p : g2 ≠ wA.heap.size := by have := st6.lt; omega
    replace zX := Nat.lt_of_lt_of_le zX s7.size
    replace hAw := Nat.le_trans hAw s7.size
    clear s7 st6 hz hg2
    try dsimp only
    refine hK.out _ _ ⟨XX.cell 0 rfl, XX.cell 1 rfl, XX.cell 2 rfl, XX.cell 3 rfl, XX.cell 4 rfl, XX.cell 5 rfl⟩ ?_; clear hK K hHeld; intro hHeld; try simp only [Act.put, List.setIfInBounds_toArray, List.set_cons_zero, List.set_cons_succ]
    refine Tk.R 7 (some 35) (.call ⟨.value (.func 42), #[.tmp 33, .tmp 34, .const (.int .i64 2)], #[67, 2, 2]⟩) 27 none (fun K hK => ?_)
    go_simp
    refine (l5DrawLies wA B wA.heap.size a len cap k 2 hk0 (by omega) (by omega) (by omega) _ st7).mono ?_
    rintro e xc ⟨⟨g3, rfl, bs, hb⟩, st8, s8⟩
    have hg3 := hb.2.1
    replace RR := Dg.room_step RR s8 hRp
    replace XX := Dg.room_step XX s8 hXp
    replace ho := Dg.own_step ho s8 hgp
    replace hz2 := Dg.own_step hz2 s8 hg2p
    have hg3X : w.heap.size < g3 := by omega
    have sz8 := s8.size
    clear s8 st7
    try dsimp only
    refine hK.out _ _ ⟨XX.cell 0 rfl, XX.cell 1 rfl, XX.cell 2 rfl, XX.cell 3 rfl, XX.cell 4 rfl, XX.cell 5 rfl⟩ ?_; clear hK K hHeld; intro hHeld; try simp only [Act.put, List.setIfInBounds_toArray, List.set_cons_zero, List.set_cons_succ]
    refine Tk.R 8 none (.store 25 (.tmp 2) (.tmp 28)) 0 none (fun K hK => ?_)
    have h0 := RR.cell 0 rfl
    have h1 := RR.cell 1 rfl
    have h2 := RR.cell 2 rfl
    have h3 := RR.cell 3 rfl
    have h4 := RR.cell 4 rfl
    have h5 := RR.cell 5 rfl
    have f0 := RR.froz 0 rfl
    have f1 := RR.froz 1 rfl
    have f2 := RR.froz 2 rfl
    have f3 := RR.froz 3 rfl
    have f4 := RR.froz 4 rfl
    have f5 := RR.froz 5 rfl
    go_simp
    clear h0 f0 h1 f1 h2 f2 h3 f3 h4 f4 h5 f5
    have RF := RR.six (.int .i64 n) (.int .i64 f) (.int .i64 q) (.int .i64 x) (.int .i64 l) (.int .i64 m)
    have SF := st8.step
    have BF : Below w.heap.size w ((((((xc.setCell ⟨w.heap.size, 0, none⟩ (.int .i64 n)).setCell ⟨w.heap.size, 1, none⟩ (.int .i64 f)).setCell ⟨w.heap.size, 2, none⟩ (.int .i64 q)).setCell ⟨w.heap.size, 3, none⟩ (.int .i64 x)).setCell ⟨w.heap.size, 4, none⟩ (.int .i64 l)).setCell ⟨w.heap.size, 5, none⟩ (.int .i64 m)) := (((((((B1.trans ((SF.fresh (Nat.le_refl _)).mono B1.size)).setCell (p := ⟨w.heap.size, 0, none⟩) (Nat.le_refl _) _).setCell (p := ⟨w.heap.size, 1, none⟩) (Nat.le_refl _) _).setCell (p := ⟨w.heap.size, 2, none⟩) (Nat.le_refl _) _).setCell (p := ⟨w.heap.size, 3, none⟩) (Nat.le_refl _) _).setCell (p := ⟨w.heap.size, 4, none⟩) (Nat.le_refl _) _).setCell (p := ⟨w.heap.size, 5, none⟩) (Nat.le_refl _) _)
    have hoF : Own ((((((xc.setCell ⟨w.heap.size, 0, none⟩ (.int .i64 n)).setCell ⟨w.heap.size, 1, none⟩ (.int .i64 f)).setCell ⟨w.heap.size, 2, none⟩ (.int .i64 q)).setCell ⟨w.heap.size, 3, none⟩ (.int .i64 x)).setCell ⟨w.heap.size, 4, none⟩ (.int .i64 l)).setCell ⟨w.heap.size, 5, none⟩ (.int .i64 m)) (w.heap.size + 1) g9 (k + 1) c9 (os ++ [y]) := oth6 ho (by omega) (.int .i64 n) (.int .i64 f) (.int .i64 q) (.int .i64 x) (.int .i64 l) (.int .i64 m)
    have hzF : Own ((((((xc.setCell ⟨w.heap.size, 0, none⟩ (.int .i64 n)).setCell ⟨w.heap.size, 1, none⟩ (.int .i64 f)).setCell ⟨w.heap.size, 2, none⟩ (.int .i64 q)).setCell ⟨w.heap.size, 3, none⟩ (.int .i64 x)).setCell ⟨w.heap.size, 4, none⟩ (.int .i64 l)).setCell ⟨w.heap.size, 5, none⟩ (.int .i64 m)) (w.heap.size + 1) g2 k c2 zs := oth6 hz2 (by omega) (.int .i64 n) (.int .i64 f) (.int .i64 q) (.int .i64 x) (.int .i64 l) (.int .i64 m)
    have hbF : Flags ((((((xc.setCell ⟨w.heap.size, 0, none⟩ (.int .i64 n)).setCell ⟨w.heap.size, 1, none⟩ (.int .i64 f)).setCell ⟨w.heap.size, 2, none⟩ (.int .i64 q)).setCell ⟨w.heap.size, 3, none⟩ (.int .i64 x)).setCell ⟨w.heap.size, 4, none⟩ (.int .i64 l)).setCell ⟨w.heap.size, 5, none⟩ (.int .i64 m)) ((((((xc.setCell ⟨w.heap.size, 0, none⟩ (.int .i64 n)).setCell ⟨w.heap.size, 1, none⟩ (.int .i64 f)).setCell ⟨w.heap.size, 2, none⟩ (.int .i64 q)).setCell ⟨w.heap.size, 3, none⟩ (.int .i64 x)).setCell ⟨w.heap.size, 4, none⟩ (.int .i64 l)).setCell ⟨w.heap.size, 5, none⟩ (.int .i64 m)).heap.size (some ⟨g3, 0, none⟩) k bs := oth6b hb (by omega) (.int .i64 n) (.int .i64 f) (.int .i64 q) (.int .i64 x) (.int .i64 l) (.int .i64 m)
    have XF := ((((((XX.setOther (Ne.symm hXR) 0 (.int .i64 n)).setOther (Ne.symm hXR) 1 (.int .i64 f)).setOther (Ne.symm hXR) 2 (.int .i64 q)).setOther (Ne.symm hXR) 3 (.int .i64 x)).setOther (Ne.symm hXR) 4 (.int .i64 l)).setOther (Ne.symm hXR) 5 (.int .i64 m))
    generalize ((((((xc.setCell ⟨w.heap.size, 0, none⟩ (.int .i64 n)).setCell ⟨w.heap.size, 1, none⟩ (.int .i64 f)).setCell ⟨w.heap.size, 2, none⟩ (.int .i64 q)).setCell ⟨w.heap.size, 3, none⟩ (.int .i64 x)).setCell ⟨w.heap.size, 4, none⟩ (.int .i64 l)).setCell ⟨w.heap.size, 5, none⟩ (.int .i64 m)) = xd at RF BF hoF hzF hbF XF  ⊢
    try dsimp only
    refine hK.out _ _ ⟨XF.cell 0 rfl, XF.cell 1 rfl, XF.cell 2 rfl, XF.cell 3 rfl, XF.cell 4 rfl, XF.cell 5 rfl⟩ ?_; clear hK K hHeld; intro hHeld; try simp only [Act.put, List.setIfInBounds_toArray, List.set_cons_zero, List.set_cons_succ]
    refine Tk.W 9 (some 3) (.assign (.tmp 31)) 26 none ?_
    refine Tk.W 10 (some 4) (.assign (.tmp 32)) 26 none ?_
    refine Tk.W 11 (some 5) (.assign (.tmp 35)) 27 none ?_
    refine wpAnyH_done (by kernel_rfl) ?_ _
    refine NoPanic.normal ?_
    clear hHeld
    go_wp2_with fail
    refine bodyPost_ret (v := .tuple #[.agg #[.int .i64 n, .int .i64 f, .int .i64 q, .int .i64 x, .int .i64 l, .int .i64 m], .slice (some ⟨g2, 0, none⟩) k c2, .slice (some ⟨g9, 0, none⟩) ((k + 1)) c9, .slice (some ⟨g3, 0, none⟩) k k]) (ret64 Tryz.results9 rfl rfl rfl rfl RF) rfl ⟨⟨n, f, q, x, l, m, g2, k, c2, g9, (k + 1), c9, g3, k, k, zs, (os ++ [y]), bs, rfl, hzF.row, hoF.row, hbF, by omega, by omega, by omega⟩, BF⟩

end Go.Proofs.YtimakfokgcnklaaGreat.Dc
