/-
  Seals: SealOf, SealRight, by both; what the laws make of a seal.
-/
import Derived.Test.YtimakfokgcnklaaGreatSl
import Derived.Deep.Cut
import Derived.Deep.RegionHeld3
namespace Go.Proofs.YtimakfokgcnklaaGreat.Sl
open Go.ChangeShapes Go.WideShapes Go.ChangeAt Go.RowKit
open Sp (IN OK LK span retb reti pk)
open Ad (Tm)
open Ls (el Row)
open Rm (Room)
set_option linter.unusedVariables false
set_option linter.unusedSimpArgs false

abbrev sl (r k t : Int) : Value := .agg #[.int .i64 r, .int .i64 k, .int .i64 t]
abbrev c3 (r k t : Int) : List Value := [.int .i64 r, .int .i64 k, .int .i64 t]
/-- There is a seal. -/
def SO (zs : List Int) (n : Nat) (r k : Int) : Bool := KO zs n && (decide (1 ≤ r ∧ r ≤ 1000) && decide (0 ≤ k ∧ k < n))
/-- Its tag, or 0. -/
def TT (zs : List Int) (n : Nat) (r k : Int) : Int := if SO zs n r k then TG (el zs k.toNat) r k else 0
def S1 (zs : List Int) (n : Nat) (r k : Int) : Int := if SO zs n r k then r else 0
def S2 (zs : List Int) (n : Nat) (r k : Int) : Int := if SO zs n r k then k else 0
theorem so_of {zs : List Int} {n : Nat} {r k : Int} (h : SO zs n r k = true) : KO zs n = true ∧ (1 ≤ r ∧ r ≤ 1000) ∧ 0 ≤ k ∧ k < n := by
  unfold SO at h
  rw [Bool.and_eq_true, Bool.and_eq_true] at h
  exact ⟨h.1, of_decide_eq_true h.2.1, of_decide_eq_true h.2.2⟩
theorem so_yes {zs : List Int} {n : Nat} {r k : Int} (h : KO zs n = true) (h1 : 1 ≤ r ∧ r ≤ 1000) (h2 : 0 ≤ k ∧ k < n) : SO zs n r k = true := by
  unfold SO
  rw [h, decide_eq_true h1, decide_eq_true h2]; rfl
theorem so_no {zs : List Int} {n : Nat} {r k : Int} (h : ¬ (KO zs n = true ∧ (1 ≤ r ∧ r ≤ 1000) ∧ 0 ≤ k ∧ k < n)) : SO zs n r k = false := by
  cases q : SO zs n r k with
  | false => rfl
  | true => exact absurd (so_of q) h
theorem s_no {zs : List Int} {n : Nat} {r k : Int} (h : SO zs n r k = false) : TT zs n r k = 0 ∧ S1 zs n r k = 0 ∧ S2 zs n r k = 0 := by
  unfold TT S1 S2
  rw [h]
  exact ⟨rfl, rfl, rfl⟩
theorem s_yes {zs : List Int} {n : Nat} {r k : Int} (h : SO zs n r k = true) : TT zs n r k = TG (el zs k.toNat) r k ∧ S1 zs n r k = r ∧ S2 zs n r k = k := by
  unfold TT S1 S2
  rw [h]
  exact ⟨rfl, rfl, rfl⟩
theorem tt_bd (zs : List Int) (n : Nat) (r k : Int) : 0 ≤ TT zs n r k ∧ TT zs n r k < 2147483647 := by
  unfold TT
  split
  · exact t3_bd _ _
  · omega
theorem over3 {w : World} {g : Nat} {x y z : Value} (h : Room w g [x, y, z]) (a b c : Value) : Room (((w.setCell ⟨g, 0, none⟩ a).setCell ⟨g, 1, none⟩ b).setCell ⟨g, 2, none⟩ c) g [a, b, c] := ((h.set 0 a).set 1 b).set 2 c
theorem below3 {w0 w : World} {B g : Nat} (h : Below B w0 w) (hg : B ≤ g) (a b c : Value) : Below B w0 (((w.setCell ⟨g, 0, none⟩ a).setCell ⟨g, 1, none⟩ b).setCell ⟨g, 2, none⟩ c) :=
  ((h.setCell (p := ⟨g, 0, none⟩) hg a).setCell (p := ⟨g, 1, none⟩) hg b).setCell (p := ⟨g, 2, none⟩) hg c
theorem ret3 {fn : Func} {ts : Array Value} {W : World} {R i q : Nat} {a b c : Int} {v : Value} (hf : fn.results = #[.cell i 125, .tmp q]) (h2 : ts[i]? = some (.pointer (some ⟨R, 0, none⟩))) (h3 : ts[q]? = some v) (h : Room W R (c3 a b c)) :
    (results fn ts).run Tryz.prog W = .ok (.tuple #[sl a b c, v]) W := by
  have q0 := h.cell 0 rfl
  have q1 := h.cell 1 rfl
  have q2 := h.cell 2 rfl
  simp [results, hf, h2, h3, go_sem, q0, q1, q2]
theorem ret1 {fn : Func} {ts : Array Value} {W : World} {R i : Nat} {a b c : Int} (hf : fn.results = #[.cell i 125]) (h2 : ts[i]? = some (.pointer (some ⟨R, 0, none⟩))) (h : Room W R (c3 a b c)) :
    (results fn ts).run Tryz.prog W = .ok (sl a b c) W := by
  have q0 := h.cell 0 rfl
  have q1 := h.cell 1 rfl
  have q2 := h.cell 2 rfl
  simp [results, hf, h2, go_sem, q0, q1, q2]

/-- What SealOf answers. -/
abbrev SA (zs : List Int) (n : Nat) (r k : Int) : Ending := .returned (.tuple #[sl (S1 zs n r k) (S2 zs n r k) (TT zs n r k), .bool (SO zs n r k)])
theorem sa_no {zs : List Int} {n : Nat} {r k : Int} (h : ¬ (KO zs n = true ∧ (1 ≤ r ∧ r ≤ 1000) ∧ 0 ≤ k ∧ k < n)) : .returned (.tuple #[sl 0 0 0, .bool false]) = SA zs n r k := by
  have hs := so_no h
  obtain ⟨h1, h2, h3⟩ := s_no hs
  rw [SA, hs, h1, h2, h3]
theorem sa_yes {zs : List Int} {n j : Nat} {r : Int} (h : KO zs n = true) (h1 : 1 ≤ r ∧ r ≤ 1000) (h2 : j < n) : .returned (.tuple #[sl r j (TG (el zs j) r j), .bool true]) = SA zs n r j := by
  have hs := so_yes (k := (j : Int)) h h1 ⟨by omega, by omega⟩
  obtain ⟨h1, h2, h3⟩ := s_yes hs
  rw [SA, hs, h1, h2, h3]
  rfl

set_option maxHeartbeats 2000000 in
theorem i_SealOf (a : Option Addr) (n cap : Nat) (zs : List Int) (r k : Int) (w : World) (hr : Row w w.heap.size a n zs) (hn : n ≤ 1048576) :
    Calls Tryz.prog 139 #[.slice a n cap, .int .i64 r, .int .i64 k] w fun e w' => e = SA zs n r k ∧ Below w.heap.size w w' := by
  obtain ⟨wA, hA⟩ : ∃ wA, wA = w.alloc (.cells #[.int .i64 0, .int .i64 0, .int .i64 0] 125) := ⟨_, rfl⟩
  have RX : Room (wA.alloc (.cells #[.int .i64 0, .int .i64 ((n : Int) - 1)] 79)) w.heap.size (c3 0 0 0) := by rw [hA]; exact (Room.new w (c3 0 0 0) 125).alloc _
  have RY : Room (wA.alloc (.cells #[.int .i64 0, .int .i64 ((n : Int) - 1)] 79)) (w.heap.size + 1) [.int .i64 0, .int .i64 ((n : Int) - 1)] := Room.at wA [.int .i64 0, .int .i64 ((n : Int) - 1)] 79 (w.heap.size + 1) (by rw [hA]; simp)
  have BA : Below w.heap.size w (wA.alloc (.cells #[.int .i64 0, .int .i64 ((n : Int) - 1)] 79)) := by rw [hA]; exact ((Below.refl w.heap.size w).alloc (Nat.le_refl _) _).alloc (by simp) _
  go_enter Tryz.func139, Tryz.ntmps139
  go_wp2_with fail
  rw [← hA]
  generalize wA.alloc (.cells #[.int .i64 0, .int .i64 ((n : Int) - 1)] 79) = w1 at RX RY BA ⊢
  clear hA
  refine (i_KeysOk a n cap zs _ ((hr.later BA (Nat.le_refl _)).more BA.size) hn).mono ?_
  rintro e w2 ⟨rfl, b2⟩
  replace RX := RX.below b2
  replace RY := RY.below b2
  replace BA := BA.trans (b2.mono BA.size)
  clear b2
  have zr : ∀ {w3 : World} (RX : Room w3 w.heap.size (c3 0 0 0)) (BA : Below w.heap.size w w3) , _ := fun {w3} RX BA => And.intro (over3 RX (.int .i64 0) (.int .i64 0) (.int .i64 0)) (below3 BA (Nat.le_refl _) (.int .i64 0) (.int .i64 0) (.int .i64 0))
  cases q : KO zs n with
  | false =>
    have HS : Hid (.returned (.tuple #[sl 0 0 0, .bool false]) = SA zs n r k) := sa_no (by rw [q]; simp)
    have f0 := RX.froz 0 rfl
    have f1 := RX.froz 1 rfl
    have f2 := RX.froz 2 rfl
    have e0 := RX.cell 0 rfl
    have e1 := RX.cell 1 rfl
    have e2 := RX.cell 2 rfl
    go_wp2
    obtain ⟨hR, hB⟩ := zr RX BA
    refine bodyPost_ret (v := .tuple #[sl 0 0 0, .bool false]) (ret3 Tryz.results139 rfl rfl hR) rfl ⟨HS.out, hB⟩
  | true =>
    obtain ⟨hk1, hk2⟩ := ko_of q
    go_wp2_with fail
    refine (Sp.i_InSpan 1 1000 r _).mono ?_
    rintro e w3 ⟨rfl, b3⟩
    replace RX := RX.below b3
    replace RY := RY.below b3
    replace BA := BA.trans (b3.mono BA.size)
    clear b3
    rw [in_lk (by decide) (by decide) (by decide)]
    cases q1 : LK 1 1000 r with
    | true =>
      have HS : Hid (.returned (.tuple #[sl 0 0 0, .bool false]) = SA zs n r k) := sa_no (fun h => by rw [lk_yes h.2.1] at q1; cases q1)
      have f0 := RX.froz 0 rfl
      have f1 := RX.froz 1 rfl
      have f2 := RX.froz 2 rfl
      have e0 := RX.cell 0 rfl
      have e1 := RX.cell 1 rfl
      have e2 := RX.cell 2 rfl
      go_wp2
      obtain ⟨hR, hB⟩ := zr RX BA
      refine bodyPost_ret (v := .tuple #[sl 0 0 0, .bool false]) (ret3 Tryz.results139 rfl rfl hR) rfl ⟨HS.out, hB⟩
    | false =>
      have hr1 := lk_of q1
      have y0 := RY.cell 0 rfl
      have y1 := RY.cell 1 rfl
      go_wp2_with fail
      refine (Sp.i_InSpan 0 ((n : Int) - 1) k _).mono ?_
      rintro e w4 ⟨rfl, b4⟩
      clear y0 y1
      replace RX := RX.below b4
      replace BA := BA.trans (b4.mono BA.size)
      clear b4
      rw [in_lk (by decide) ⟨by omega, by omega⟩ (by omega)]
      cases q2 : LK 0 ((n : Int) - 1) k with
      | true =>
        have HS : Hid (.returned (.tuple #[sl 0 0 0, .bool false]) = SA zs n r k) := sa_no (fun h => by rw [lk_yes (by omega)] at q2; cases q2)
        have f0 := RX.froz 0 rfl
        have f1 := RX.froz 1 rfl
        have f2 := RX.froz 2 rfl
        have e0 := RX.cell 0 rfl
        have e1 := RX.cell 1 rfl
        have e2 := RX.cell 2 rfl
        go_wp2
        obtain ⟨hR, hB⟩ := zr RX BA
        refine bodyPost_ret (v := .tuple #[sl 0 0 0, .bool false]) (ret3 Tryz.results139 rfl rfl hR) rfl ⟨HS.out, hB⟩
      | false =>
        have hk3 := lk_of q2
        obtain ⟨j, rfl⟩ : ∃ j : Nat, k = j := ⟨k.toNat, by omega⟩
        have hj : j < n := by omega
        have HS : Hid (.returned (.tuple #[sl r j (TG (el zs j) r j), .bool true]) = SA zs n r j) := sa_yes q hr1 hj
        clear q q1 q2 RY zr
        obtain ⟨hz, hrow⟩ := hr
        rcases hrow with hrow | ⟨b, off, rfl, hB, hc⟩
        · omega
        have hc1 := hc j hj
        rw [← BA.cell (p := ⟨b, off + j, none⟩) hB] at hc1
        have hx := hk2 j hj
        generalize el zs j = x at hx hc1 HS ⊢
        go_wp2_with fail
        refine (tagOf x r j _ hx hr1 (by omega)).mono ?_
        rintro e w5 ⟨rfl, b5⟩
        replace RX := RX.below b5
        replace BA := BA.trans (b5.mono BA.size)
        generalize TG x r j = t at HS ⊢
        have f0 := RX.froz 0 rfl
        have f1 := RX.froz 1 rfl
        have f2 := RX.froz 2 rfl
        have e0 := RX.cell 0 rfl
        have e1 := RX.cell 1 rfl
        have e2 := RX.cell 2 rfl
        go_wp2
        have hR := over3 RX (.int .i64 r) (.int .i64 j) (.int .i64 t)
        have hB := below3 BA (Nat.le_refl _) (.int .i64 r) (.int .i64 j) (.int .i64 t)
        refine bodyPost_ret (v := .tuple #[sl r j t, .bool true]) (ret3 Tryz.results139 rfl rfl hR) rfl ⟨HS.out, hB⟩

theorem l9M (w : World) : Calls Tryz.prog 141 #[] w fun e w' => e = .returned (.int .i64 2147483647) ∧ w' = w := by
  go_enter Tryz.func141, Tryz.ntmps141
  go_wp2
  go_ret
  exact ⟨rfl, rfl⟩

set_option maxHeartbeats 2000000 in
theorem s_SealOf (a : Option Addr) (n cap : Nat) (zs : List Int) (r k : Int) (w : World) (hr : Row w w.heap.size a n zs) (hn : n ≤ 1048576) :
    Calls Tryz.prog 132 #[.slice a n cap, .int .i64 r, .int .i64 k] w fun e w' => e = SA zs n r k ∧ Below w.heap.size w w' := by
  have RX := Room.new w (c3 0 0 0) 125
  have BA : Below w.heap.size w (w.alloc (.cells #[.int .i64 0, .int .i64 0, .int .i64 0] 125)) := (Below.refl w.heap.size w).alloc (Nat.le_refl _) _
  go_enter Tryz.func132, Tryz.ntmps132
  go_wp2_with fail
  generalize w.alloc (.cells #[.int .i64 0, .int .i64 0, .int .i64 0] 125) = w1 at RX BA ⊢
  replace hr := (hr.later BA (Nat.le_refl _)).more BA.size
  refine (s_KeysOk a n cap zs _ hr hn).mono ?_
  rintro e w2 ⟨rfl, rfl⟩
  have zr := And.intro (over3 RX (.int .i64 0) (.int .i64 0) (.int .i64 0)) (below3 BA (Nat.le_refl _) (.int .i64 0) (.int .i64 0) (.int .i64 0))
  cases q : KO zs n with
  | false =>
    have HS : Hid (.returned (.tuple #[sl 0 0 0, .bool false]) = SA zs n r k) := sa_no (by rw [q]; simp)
    have f0 := RX.froz 0 rfl
    have f1 := RX.froz 1 rfl
    have f2 := RX.froz 2 rfl
    have e0 := RX.cell 0 rfl
    have e1 := RX.cell 1 rfl
    have e2 := RX.cell 2 rfl
    go_wp2
    obtain ⟨hR, hB⟩ := zr
    refine bodyPost_ret (v := .tuple #[sl 0 0 0, .bool false]) (ret3 Tryz.results132 rfl rfl hR) rfl ⟨HS.out, hB⟩
  | true =>
    obtain ⟨hk1, hk2⟩ := ko_of q
    go_wp2_with fail
    refine (Sp.s_l1In 1 1000 r _).mono ?_
    rintro e w3 ⟨rfl, rfl⟩
    cases q1 : LK 1 1000 r with
    | true =>
      have HS : Hid (.returned (.tuple #[sl 0 0 0, .bool false]) = SA zs n r k) := sa_no (fun h => by rw [lk_yes h.2.1] at q1; cases q1)
      have f0 := RX.froz 0 rfl
      have f1 := RX.froz 1 rfl
      have f2 := RX.froz 2 rfl
      have e0 := RX.cell 0 rfl
      have e1 := RX.cell 1 rfl
      have e2 := RX.cell 2 rfl
      go_wp2
      obtain ⟨hR, hB⟩ := zr
      refine bodyPost_ret (v := .tuple #[sl 0 0 0, .bool false]) (ret3 Tryz.results132 rfl rfl hR) rfl ⟨HS.out, hB⟩
    | false =>
      have hr1 := lk_of q1
      go_wp2_with fail
      refine (Sp.s_l1In 0 ((n : Int) - 1) k _).mono ?_
      rintro e w4 ⟨rfl, rfl⟩
      cases q2 : LK 0 ((n : Int) - 1) k with
      | true =>
        have HS : Hid (.returned (.tuple #[sl 0 0 0, .bool false]) = SA zs n r k) := sa_no (fun h => by rw [lk_yes (by omega)] at q2; cases q2)
        have f0 := RX.froz 0 rfl
        have f1 := RX.froz 1 rfl
        have f2 := RX.froz 2 rfl
        have e0 := RX.cell 0 rfl
        have e1 := RX.cell 1 rfl
        have e2 := RX.cell 2 rfl
        go_wp2
        obtain ⟨hR, hB⟩ := zr
        refine bodyPost_ret (v := .tuple #[sl 0 0 0, .bool false]) (ret3 Tryz.results132 rfl rfl hR) rfl ⟨HS.out, hB⟩
      | false =>
        have hk3 := lk_of q2
        obtain ⟨j, rfl⟩ : ∃ j : Nat, k = j := ⟨k.toNat, by omega⟩
        have hj : j < n := by omega
        have HS : Hid (.returned (.tuple #[sl r j (TG (el zs j) r j), .bool true]) = SA zs n r j) := sa_yes q hr1 hj
        clear q q1 q2 zr
        obtain ⟨hz, hrow⟩ := hr
        rcases hrow with hrow | ⟨b, off, rfl, hB, hc⟩
        · omega
        have hc1 := hc j hj
        have hx := hk2 j hj
        generalize el zs j = x at hx hc1 HS ⊢
        have hj15 : j ≤ 15 := by omega
        clear hc hk2 hk3 hz
        go_wp2_with fail
        go_quiet (first | (go_at_call 141; refine Calls.quiet_of_same (l9M _)))
        have m1 := t1_bd x r j
        have H1 : Hid (T1 x r j = (x + 8191 * r + 131 * (j : Int)) % 2147483647) := rfl
        change 0 ≤ (x + 8191 * r + 131 * (j : Int)) % 2147483647 ∧ (x + 8191 * r + 131 * (j : Int)) % 2147483647 < 2147483647 at m1
        generalize (x + 8191 * r + 131 * (j : Int)) % 2147483647 = t1 at m1 H1 ⊢
        replace RX := RX.drewN nq
        replace BA := below_drewN BA nq
        replace hc1 : (w4.drewN nq).cell? ⟨b, off + j, none⟩ = some (.int .i64 x) := hc1
        generalize w4.drewN nq = w5 at RX BA hc1 ⊢
        go_wp2_with fail
        go_quiet (first | (go_at_call 141; refine Calls.quiet_of_same (l9M _)))
        have m2 := t2_bd x t1
        have H2 : Hid (T2 x t1 = (48271 * t1 + x) % 2147483647) := rfl
        change 0 ≤ (48271 * t1 + x) % 2147483647 ∧ (48271 * t1 + x) % 2147483647 < 2147483647 at m2
        generalize (48271 * t1 + x) % 2147483647 = t2 at m2 H2 ⊢
        replace RX := RX.drewN nq
        replace BA := below_drewN BA nq
        generalize w5.drewN nq = w6 at RX BA ⊢
        have HT : Hid ((69621 * t2 + r) % 2147483647 = TG x r j) := by show _ = T3 r (T2 x (T1 x r j)); rw [H1.out.trans (show _ = t1 from rfl), H2.out]; rfl
        clear hc1
        go_wp2_with fail
        refine (l9M _).mono ?_
        rintro e w7 ⟨rfl, rfl⟩
        have f0 := RX.froz 0 rfl
        have f1 := RX.froz 1 rfl
        have f2 := RX.froz 2 rfl
        have e0 := RX.cell 0 rfl
        have e1 := RX.cell 1 rfl
        have e2 := RX.cell 2 rfl
        go_wp2_with fail
        have hR := over3 RX (.int .i64 r) (.int .i64 j) (.int .i64 ((69621 * t2 + r) % 2147483647))
        have hB := below3 BA (Nat.le_refl _) (.int .i64 r) (.int .i64 j) (.int .i64 ((69621 * t2 + r) % 2147483647))
        refine bodyPost_ret (v := .tuple #[sl r j ((69621 * t2 + r) % 2147483647), .bool true]) (ret3 Tryz.results132 rfl rfl hR) rfl ⟨by rw [HT.out]; exact HS.out, hB⟩

/-- The seal is right. -/
def SR (zs : List Int) (n : Nat) (r k t : Int) : Bool := SO zs n r k && decide (t = TT zs n r k)
theorem sr_no {zs : List Int} {n : Nat} {r k t : Int} (h : SO zs n r k = false) : SR zs n r k t = false := by unfold SR; rw [h]; rfl

theorem sr_yes {zs : List Int} {n : Nat} {r k t : Int} (h : SO zs n r k = true) : SR zs n r k t = decide (t = TT zs n r k) := by unfold SR; rw [h]; rfl
theorem sa_eq0 {zs : List Int} {n : Nat} {r k : Int} (h : SO zs n r k = false) : SA zs n r k = .returned (.tuple #[sl 0 0 0, .bool false]) := by
  obtain ⟨h1, h2, h3⟩ := s_no h
  rw [SA, h, h1, h2, h3]
theorem sa_eq1 {zs : List Int} {n : Nat} {r k : Int} (h : SO zs n r k = true) : SA zs n r k = .returned (.tuple #[sl r k (TT zs n r k), .bool true]) := by
  obtain ⟨h1, h2, h3⟩ := s_yes h
  rw [SA, h, h2, h3]

set_option maxHeartbeats 2000000 in
theorem i_SealRight (a : Option Addr) (n cap : Nat) (zs : List Int) (r k t : Int) (w : World) (hr : Row w w.heap.size a n zs) (hn : n ≤ 1048576) :
    Calls Tryz.prog 128 #[.slice a n cap, sl r k t] w fun e w' => e = .returned (.bool (SR zs n r k t)) ∧ Below w.heap.size w w' := by
  have RX := Room.new w (c3 r k t) 125
  have BA : Below w.heap.size w (w.alloc (.cells #[.int .i64 r, .int .i64 k, .int .i64 t] 125)) := (Below.refl w.heap.size w).alloc (Nat.le_refl _) _
  cases q : SO zs n r k with
  | false =>
    have HS : Hid (Ending.returned (.bool false) = .returned (.bool (SR zs n r k t))) := by rw [sr_no q]; rfl
    have HA : Hid (SA zs n r k = .returned (.tuple #[sl 0 0 0, .bool false])) := sa_eq0 q
    clear q
    go_enter Tryz.func128, Tryz.ntmps128
    go_wp2_with fail
    refine (i_SealOf a n cap zs r k _ ((hr.later BA (Nat.le_refl _)).more BA.size) hn).mono ?_
    rintro e w2 ⟨rfl, b2⟩
    rw [HA.out]
    replace RX := RX.below b2
    replace BA := BA.trans (b2.mono BA.size)
    have BZ := BA.alloc (by have := BA.size; omega) (.cells #[.int .i64 0, .int .i64 0, .int .i64 0] 125)
    clear b2
    go_wp2_with fail
    go_ret
    exact ⟨HS.out, BZ⟩
  | true =>
    have hq : SR zs n r k t = decide (t = TT zs n r k) := sr_yes q
    have HA : Hid (SA zs n r k = .returned (.tuple #[sl r k (TT zs n r k), .bool true])) := sa_eq1 q
    clear q
    generalize TT zs n r k = tt at hq HA
    have HS : Hid (Ending.returned (.bool (decide (t = tt))) = .returned (.bool (SR zs n r k t))) := by rw [hq]; rfl
    clear hq
    go_enter Tryz.func128, Tryz.ntmps128
    go_wp2_with fail
    refine (i_SealOf a n cap zs r k _ ((hr.later BA (Nat.le_refl _)).more BA.size) hn).mono ?_
    rintro e w2 ⟨rfl, b2⟩
    rw [HA.out]
    replace RX := RX.below b2
    replace BA := BA.trans (b2.mono BA.size)
    have BZ := BA.alloc (by have := BA.size; omega) (.cells #[.int .i64 r, .int .i64 k, .int .i64 tt] 125)
    replace RX := RX.alloc (.cells #[.int .i64 r, .int .i64 k, .int .i64 tt] 125)
    have RY := Room.new w2 (c3 r k tt) 125
    have e0 := RX.cell 0 rfl
    have e1 := RX.cell 1 rfl
    have e2 := RX.cell 2 rfl
    have f0 := RY.cell 0 rfl
    have f1 := RY.cell 1 rfl
    have f2 := RY.cell 2 rfl
    clear b2
    by_cases ht : t = tt
    · subst ht
      rw [decide_eq_true rfl] at HS
      go_wp2
      go_ret
      exact ⟨HS.out, BZ⟩
    · rw [decide_eq_false ht] at HS
      go_wp2
      go_ret
      exact ⟨HS.out, BZ⟩

set_option maxHeartbeats 2000000 in
theorem s_SealRight (a : Option Addr) (n cap : Nat) (zs : List Int) (r k t : Int) (w : World) (hr : Row w w.heap.size a n zs) (hn : n ≤ 1048576) :
    Calls Tryz.prog 108 #[.slice a n cap, sl r k t] w fun e w' => e = .returned (.bool (SR zs n r k t)) ∧ Below w.heap.size w w' := by
  have RX := Room.new w (c3 r k t) 125
  have BA : Below w.heap.size w (w.alloc (.cells #[.int .i64 r, .int .i64 k, .int .i64 t] 125)) := (Below.refl w.heap.size w).alloc (Nat.le_refl _) _
  cases q : SO zs n r k with
  | false =>
    have HS : Hid (Ending.returned (.bool false) = .returned (.bool (SR zs n r k t))) := by rw [sr_no q]; rfl
    have HA : Hid (SA zs n r k = .returned (.tuple #[sl 0 0 0, .bool false])) := sa_eq0 q
    clear q
    go_enter Tryz.func108, Tryz.ntmps108
    go_wp2_with fail
    refine (s_SealOf a n cap zs r k _ ((hr.later BA (Nat.le_refl _)).more BA.size) hn).mono ?_
    rintro e w2 ⟨rfl, b2⟩
    rw [HA.out]
    replace RX := RX.below b2
    replace BA := BA.trans (b2.mono BA.size)
    have BZ := BA.alloc (by have := BA.size; omega) (.cells #[.int .i64 0, .int .i64 0, .int .i64 0] 125)
    clear b2
    go_wp2_with fail
    go_ret
    exact ⟨HS.out, BZ⟩
  | true =>
    have hq : SR zs n r k t = decide (t = TT zs n r k) := sr_yes q
    have HA : Hid (SA zs n r k = .returned (.tuple #[sl r k (TT zs n r k), .bool true])) := sa_eq1 q
    clear q
    generalize TT zs n r k = tt at hq HA
    have HS : Hid (Ending.returned (.bool (decide (t = tt))) = .returned (.bool (SR zs n r k t))) := by rw [hq]; rfl
    clear hq
    go_enter Tryz.func108, Tryz.ntmps108
    go_wp2_with fail
    refine (s_SealOf a n cap zs r k _ ((hr.later BA (Nat.le_refl _)).more BA.size) hn).mono ?_
    rintro e w2 ⟨rfl, b2⟩
    rw [HA.out]
    replace RX := RX.below b2
    replace BA := BA.trans (b2.mono BA.size)
    have BZ := BA.alloc (by have := BA.size; omega) (.cells #[.int .i64 r, .int .i64 k, .int .i64 tt] 125)
    replace RX := RX.alloc (.cells #[.int .i64 r, .int .i64 k, .int .i64 tt] 125)
    have RY := Room.new w2 (c3 r k tt) 125
    have e0 := RX.cell 0 rfl
    have e1 := RX.cell 1 rfl
    have e2 := RX.cell 2 rfl
    have f0 := RY.cell 0 rfl
    have f1 := RY.cell 1 rfl
    have f2 := RY.cell 2 rfl
    clear b2
    by_cases ht : t = tt
    · subst ht
      rw [decide_eq_true rfl] at HS
      go_wp2
      go_ret
      exact ⟨HS.out, BZ⟩
    · rw [decide_eq_false ht] at HS
      go_wp2
      go_ret
      exact ⟨HS.out, BZ⟩

/-! What the laws make of a seal. -/
theorem toSeal (r k t : Int) (w : World) :
    Calls Tryz.prog 111 #[sl r k t] w fun e w' => e = .returned (sl r k t) ∧ Below w.heap.size w w' := by
  go_enter Tryz.func111, Tryz.ntmps111
  go_wp2
  refine bodyPost_ret (v := sl r k t) (by simp [results, Tryz.results111, go_sem]) rfl ⟨rfl, ?_⟩
  (repeat (first | exact Below.refl _ _ | assumption | refine Below.setCell ?_ (by first | omega | (simp <;> omega)) _ | refine Below.alloc ?_ (by first | omega | (simp <;> omega)) _ | refine Below.drew ?_ | refine below_drewN ?_ _ | refine Below.trans ?_ (Below.mono (by assumption) (by first | omega | (simp <;> omega)))))
theorem eqSeal (r k t : Int) (w : World) :
    Calls Tryz.prog 115 #[sl r k t, sl r k t] w fun e w' => e = .returned (.bool true) ∧ Below w.heap.size w w' := by
  go_enter Tryz.func115, Tryz.ntmps115
  go_wp2
  go_ret
  refine ⟨rfl, ?_⟩
  (repeat (first | exact Below.refl _ _ | assumption | refine Below.setCell ?_ (by first | omega | (simp <;> omega)) _ | refine Below.alloc ?_ (by first | omega | (simp <;> omega)) _ | refine Below.drew ?_ | refine below_drewN ?_ _ | refine Below.trans ?_ (Below.mono (by assumption) (by first | omega | (simp <;> omega)))))

end Go.Proofs.YtimakfokgcnklaaGreat.Sl
