/-
  ReadAt, OwedAt, PaidWhen and Corrected, of impl and of spec by one answer each; each writes nothing that was there ahead of it.
-/
import Derived.Test.YtcgcmceobmpdiaaCk3
import Derived.Test.YtcgcmceobmpdiaaTk
namespace Go.Proofs.Ytcgcmceobmpdiaa.Ck
open Go.ChangeShapes Go.WideShapes Go.ChangeAt Go.RowKit
open Sp (IN OK LK span retb reti)
open Ad (Tm)
open Rm (Room)
set_option linter.unusedVariables false
set_option linter.unusedSimpArgs false

/-- What is shown, and what is owed, at a hard. -/
def RV (h v o s a : Int) : Int := if FR h v o s a = true then v + (a - h) + PD o s (a - h) else 0
def OV (h v o s a : Int) : Int := if FR h v o s a = true then o - PD o s (a - h) else 0
theorem rv_no {h v o s a : Int} (q : FR h v o s a = false) : RV h v o s a = 0 := by unfold RV; rw [q]; rfl
theorem ov_no {h v o s a : Int} (q : FR h v o s a = false) : OV h v o s a = 0 := by unfold OV; rw [q]; rfl
theorem rv_yes {h v o s a : Int} (q : FR h v o s a = true) : RV h v o s a = v + (a - h) + PD o s (a - h) := by unfold RV; rw [if_pos q]
theorem ov_yes {h v o s a : Int} (q : FR h v o s a = true) : OV h v o s a = o - PD o s (a - h) := by unfold OV; rw [if_pos q]
theorem lk_of {lo hi n : Int} : LK lo hi n = !(decide (lo ≤ n) && decide (n ≤ hi)) := rfl
theorem fr_lk {h v o s a : Int} (q : CK h v o s = true) : LK h 1000000000000000 a = !FR h v o s a := by
  by_cases r : h ≤ a ∧ a ≤ 1000000000000000
  · rw [lk_yes r, fr_yes q r]; rfl
  · rw [lk_no r, fr_no2 r]; rfl
theorem ret2 {a b : Int} {x y : Bool} (h1 : a = b) (h2 : x = y) : Ending.returned (.tuple #[.int .i64 a, .bool x]) = .returned (.tuple #[.int .i64 b, .bool y]) := by rw [h1, h2]
/-- A whole clock stored. -/
theorem over3 {w : World} {g : Nat} {x y z : Value} (h : Room w g [x, y, z]) (a b c : Value) : Room (((w.setCell ⟨g, 0, none⟩ a).setCell ⟨g, 1, none⟩ b).setCell ⟨g, 2, none⟩ c) g [a, b, c] := ((h.set 0 a).set 1 b).set 2 c
theorem below3 {w0 w : World} {B g : Nat} (h : Below B w0 w) (hg : B ≤ g) (a b c : Value) : Below B w0 (((w.setCell ⟨g, 0, none⟩ a).setCell ⟨g, 1, none⟩ b).setCell ⟨g, 2, none⟩ c) :=
  ((h.setCell (p := ⟨g, 0, none⟩) hg a).setCell (p := ⟨g, 1, none⟩) hg b).setCell (p := ⟨g, 2, none⟩) hg c
theorem other3 {w : World} {g q : Nat} {vs : List Value} (h : Room w g vs) (hq : q ≠ g) (a b c : Value) : Room (((w.setCell ⟨q, 0, none⟩ a).setCell ⟨q, 1, none⟩ b).setCell ⟨q, 2, none⟩ c) g vs := ((h.setOther hq 0 a).setOther hq 1 b).setOther hq 2 c
theorem ret3 {fn : Func} {ts : Array Value} {W : World} {R i q : Nat} {a b c : Int} {v : Value} (hf : fn.results = #[.cell i 29, .tmp q]) (h2 : ts[i]? = some (.pointer (some ⟨R, 0, none⟩))) (h3 : ts[q]? = some v) (h : Room W R (c3 a b c)) :
    (results fn ts).run Try.prog W = .ok (.tuple #[clk a b c, v]) W := by
  have q0 := h.cell 0 rfl
  have q1 := h.cell 1 rfl
  have q2 := h.cell 2 rfl
  simp [results, hf, h2, h3, go_sem, q0, q1, q2]
set_option maxHeartbeats 2000000 in
theorem i_ReadAt (h v o s a : Int) (w : World) :
    Calls Try.prog 15 #[clk h v o, .int .i64 s, .int .i64 a] w fun e w' => e = .returned (.tuple #[.int .i64 (RV h v o s a), .bool (FR h v o s a)]) ∧ Below w.heap.size w w' := by
  have R := Room.new w (c3 h v o) 29
  have B1 := (Below.refl w.heap.size w).alloc (Nat.le_refl _) (.cells #[.int .i64 h, .int .i64 v, .int .i64 o] 29)
  cases q : FR h v o s a with
  | false =>
    rw [rv_no q]
    go_enter Try.func15, Try.ntmps15
    go_wp2_with fail
    refine (i_from_no w.heap.size h v o s a _ R q).mono ?_
    rintro e w2 ⟨rfl, b2⟩
    go_wp2
    go_ret2
    exact ⟨rfl, B1.trans (b2.mono B1.size)⟩
  | true =>
    rw [rv_yes q]
    go_enter Try.func15, Try.ntmps15
    go_wp2_with fail
    refine (i_from_yes w.heap.size h v o s a _ R q).mono ?_
    rintro e w2 ⟨⟨g, rfl, G, hg⟩, b2⟩
    obtain ⟨X, hX⟩ : ∃ X, v + (a - h) + PD o s (a - h) = X := ⟨_, rfl⟩
    rw [hX] at G
    have HX : Hid (v + (a - h) + PD o s (a - h) = X) := hX
    clear hX
    have c := G.cell 1 rfl
    go_wp2
    go_ret2
    exact ⟨ret2 HX.out.symm rfl, B1.trans (b2.mono B1.size)⟩

set_option maxHeartbeats 2000000 in
theorem i_OwedAt (h v o s a : Int) (w : World) :
    Calls Try.prog 18 #[clk h v o, .int .i64 s, .int .i64 a] w fun e w' => e = .returned (.tuple #[.int .i64 (OV h v o s a), .bool (FR h v o s a)]) ∧ Below w.heap.size w w' := by
  have R := Room.new w (c3 h v o) 29
  have B1 := (Below.refl w.heap.size w).alloc (Nat.le_refl _) (.cells #[.int .i64 h, .int .i64 v, .int .i64 o] 29)
  cases q : FR h v o s a with
  | false =>
    rw [ov_no q]
    go_enter Try.func18, Try.ntmps18
    go_wp2_with fail
    refine (i_from_no w.heap.size h v o s a _ R q).mono ?_
    rintro e w2 ⟨rfl, b2⟩
    go_wp2
    go_ret2
    exact ⟨rfl, B1.trans (b2.mono B1.size)⟩
  | true =>
    rw [ov_yes q]
    go_enter Try.func18, Try.ntmps18
    go_wp2_with fail
    refine (i_from_yes w.heap.size h v o s a _ R q).mono ?_
    rintro e w2 ⟨⟨g, rfl, G, hg⟩, b2⟩
    obtain ⟨X, hX⟩ : ∃ X, o - PD o s (a - h) = X := ⟨_, rfl⟩
    rw [hX] at G
    have HX : Hid (o - PD o s (a - h) = X) := hX
    clear hX
    have c := G.cell 2 rfl
    go_wp2
    go_ret2
    exact ⟨ret2 HX.out.symm rfl, B1.trans (b2.mono B1.size)⟩

set_option maxHeartbeats 2000000 in
theorem s_ReadAt (h v o s a : Int) (w : World) :
    Calls Try.prog 16 #[clk h v o, .int .i64 s, .int .i64 a] w fun e w' => e = .returned (.tuple #[.int .i64 (RV h v o s a), .bool (FR h v o s a)]) ∧ Below w.heap.size w w' := by
  have R := Room.new w (c3 h v o) 29
  have B1 := (Below.refl w.heap.size w).alloc (Nat.le_refl _) (.cells #[.int .i64 h, .int .i64 v, .int .i64 o] 29)
  cases hq : CK h v o s with
  | false =>
    rw [fr_no1 hq, rv_no (fr_no1 hq)]
    go_enter Try.func16, Try.ntmps16
    go_wp2_with fail
    refine (s_ClockOk h v o s _).mono ?_
    rintro e w2 ⟨rfl, b2⟩
    rw [hq]
    have R2 := R.below b2
    have B2 := B1.trans (b2.mono B1.size)
    go_wp2
    go_ret2
    exact ⟨rfl, B2⟩
  | true =>
    cases q : FR h v o s a with
    | false =>
      rw [rv_no q]
      go_enter Try.func16, Try.ntmps16
      go_wp2_with fail
      refine (s_ClockOk h v o s _).mono ?_
      rintro e w2 ⟨rfl, b2⟩
      rw [hq]
      have R2 := R.below b2
      have B2 := B1.trans (b2.mono B1.size)
      have c0 := R2.cell 0 rfl
      go_wp2_with fail
      refine (Sp.s_l1In h 1000000000000000 a _).mono ?_
      rintro e w3 ⟨rfl, rfl⟩
      rw [fr_lk hq, q]
      clear c0
      go_wp2
      go_ret2
      exact ⟨rfl, B2⟩
    | true =>
      rw [rv_yes q]
      obtain ⟨_, r1, r2⟩ := fr_of q
      obtain ⟨h1, h2, h3, h4⟩ := ck_of hq
      have hp := pd_bd (s := s) (e := a - h) h3 (by omega) h4.1
      have key : ∀ w, _ := fun w => s_paid h v o s (a - h) w h3 h4.1 (by omega) (by omega)
      generalize PD o s (a - h) = P at hp key ⊢
      go_enter Try.func16, Try.ntmps16
      go_wp2_with fail
      refine (s_ClockOk h v o s _).mono ?_
      rintro e w2 ⟨rfl, b2⟩
      rw [hq]
      have R2 := R.below b2
      have B2 := B1.trans (b2.mono B1.size)
      have c0 := R2.cell 0 rfl
      go_wp2_with fail
      refine (Sp.s_l1In h 1000000000000000 a _).mono ?_
      rintro e w3 ⟨rfl, rfl⟩
      rw [fr_lk hq, q]
      clear c0
      have v0 : IntKind.i64.wrap (a - h) = a - h := by rw [IntKind.wrap_i64]; omega
      have v1 : IntKind.i64.wrap (v + a) = v + a := by rw [IntKind.wrap_i64]; omega
      have v2 : IntKind.i64.wrap (v + a - h) = v + a - h := by rw [IntKind.wrap_i64]; omega
      have v3 : IntKind.i64.wrap (v + a - h + P) = v + a - h + P := by rw [IntKind.wrap_i64]; omega
      have HE : Hid (v + a - h + P = v + (a - h) + P) := by unfold Hid; omega
      have Rd := R2.drew
      have Bd := B2.drew
      go_wp2_with fail
      refine wp_region_noPanic ?_
      refine wp_region_held_drew (S := (fun w' => w'.cell? ⟨w.heap.size, 0, none⟩ = some (.int .i64 h) ∧ w'.cell? ⟨w.heap.size, 1, none⟩ = some (.int .i64 v) ∧ w'.cell? ⟨w.heap.size, 2, none⟩ = some (.int .i64 o) ∧ Hid (Room w' w.heap.size (c3 h v o) ∧ Below w.heap.size w w'))) (by kernel_rfl) ⟨Rd.cell 0 rfl, Rd.cell 1 rfl, Rd.cell 2 rfl, ⟨Rd, Bd⟩⟩ (fun hHeld => ?_)
      refine Tk.W 0 (some 19) (.fieldAddr 29 (.tmp 3) 1) 0 none ?_
      refine Tk.W 1 (some 20) (.load 2 (.tmp 19)) 2 none ?_
      refine Tk.W 2 (some 21) (.move (.tmp 2)) 2 none ?_
      refine Tk.W 3 (some 22) (.binOp .add 2 (.tmp 20) (.tmp 21) 2) 2 none ?_
      refine Tk.W 4 (some 23) (.fieldAddr 29 (.tmp 3) 0) 0 none ?_
      refine Tk.W 5 (some 24) (.load 2 (.tmp 23)) 2 none ?_
      refine Tk.W 6 (some 25) (.binOp .sub 2 (.tmp 22) (.tmp 24) 2) 2 none ?_
      refine Tk.W 7 (some 26) (.load 29 (.tmp 3)) 29 none ?_
      refine Tk.W 8 (some 27) (.move (.tmp 1)) 2 none ?_
      refine Tk.W 9 (some 28) (.move (.tmp 2)) 2 none ?_
      refine Tk.W 10 (some 29) (.fieldAddr 29 (.tmp 3) 0) 0 none ?_
      refine Tk.W 11 (some 30) (.load 2 (.tmp 29)) 2 none ?_
      refine Tk.W 12 (some 31) (.binOp .sub 2 (.tmp 28) (.tmp 30) 2) 2 none ?_
      refine Tk.R 13 (some 32) (.call ⟨.value (.func 31), #[.tmp 26, .tmp 27, .tmp 31], #[29, 2, 2]⟩) 2 none (fun K hK => ?_)
      go_simp
      refine (key _).mono ?_
      rintro e vrR14 ⟨rfl, b_rR14⟩
      have ra_rR14 := hHeld.2.2.2.out.1.below b_rR14
      have bb_rR14 := hHeld.2.2.2.out.2.trans (b_rR14.mono hHeld.2.2.2.out.2.size)
      have kvrR14 := Tk.kv hK (w := vrR14) ⟨ra_rR14.cell 0 rfl, ra_rR14.cell 1 rfl, ra_rR14.cell 2 rfl, ⟨ra_rR14, bb_rR14⟩⟩
      clear ra_rR14 bb_rR14 b_rR14
      try dsimp only
      refine hK.out _ _ kvrR14 ?_; clear hK K hHeld; intro hHeld; try simp only [Act.put, List.setIfInBounds_toArray, List.set_cons_zero, List.set_cons_succ]
      refine Tk.W 14 (some 33) (.binOp .add 2 (.tmp 25) (.tmp 32) 2) 2 none ?_
      refine Tk.W 15 (some 6) (.assign (.tmp 33)) 2 none ?_
      refine Tk.W 16 (some 7) (.assign (.const (.bool true))) 4 none ?_
      refine wpAnyH_done (by kernel_rfl) ?_ _
      refine NoPanic.normal ?_
      have BB := hHeld.2.2.2.out.2
      clear hHeld
      go_wp2
      go_ret2
      exact ⟨ret2 HE.out rfl, BB⟩

set_option maxHeartbeats 2000000 in
theorem s_OwedAt (h v o s a : Int) (w : World) :
    Calls Try.prog 27 #[clk h v o, .int .i64 s, .int .i64 a] w fun e w' => e = .returned (.tuple #[.int .i64 (OV h v o s a), .bool (FR h v o s a)]) ∧ Below w.heap.size w w' := by
  have R := Room.new w (c3 h v o) 29
  have B1 := (Below.refl w.heap.size w).alloc (Nat.le_refl _) (.cells #[.int .i64 h, .int .i64 v, .int .i64 o] 29)
  cases hq : CK h v o s with
  | false =>
    rw [fr_no1 hq, ov_no (fr_no1 hq)]
    go_enter Try.func27, Try.ntmps27
    go_wp2_with fail
    refine (s_ClockOk h v o s _).mono ?_
    rintro e w2 ⟨rfl, b2⟩
    rw [hq]
    have R2 := R.below b2
    have B2 := B1.trans (b2.mono B1.size)
    go_wp2
    go_ret2
    exact ⟨rfl, B2⟩
  | true =>
    cases q : FR h v o s a with
    | false =>
      rw [ov_no q]
      go_enter Try.func27, Try.ntmps27
      go_wp2_with fail
      refine (s_ClockOk h v o s _).mono ?_
      rintro e w2 ⟨rfl, b2⟩
      rw [hq]
      have R2 := R.below b2
      have B2 := B1.trans (b2.mono B1.size)
      have c0 := R2.cell 0 rfl
      go_wp2_with fail
      refine (Sp.s_l1In h 1000000000000000 a _).mono ?_
      rintro e w3 ⟨rfl, rfl⟩
      rw [fr_lk hq, q]
      clear c0
      go_wp2
      go_ret2
      exact ⟨rfl, B2⟩
    | true =>
      rw [ov_yes q]
      obtain ⟨_, r1, r2⟩ := fr_of q
      obtain ⟨h1, h2, h3, h4⟩ := ck_of hq
      have hp := pd_bd (s := s) (e := a - h) h3 (by omega) h4.1
      have key : ∀ w, _ := fun w => s_paid h v o s (a - h) w h3 h4.1 (by omega) (by omega)
      generalize PD o s (a - h) = P at hp key ⊢
      go_enter Try.func27, Try.ntmps27
      go_wp2_with fail
      refine (s_ClockOk h v o s _).mono ?_
      rintro e w2 ⟨rfl, b2⟩
      rw [hq]
      have R2 := R.below b2
      have B2 := B1.trans (b2.mono B1.size)
      have c0 := R2.cell 0 rfl
      go_wp2_with fail
      refine (Sp.s_l1In h 1000000000000000 a _).mono ?_
      rintro e w3 ⟨rfl, rfl⟩
      rw [fr_lk hq, q]
      clear c0
      have v0 : IntKind.i64.wrap (a - h) = a - h := by rw [IntKind.wrap_i64]; omega
      have v1 : IntKind.i64.wrap (o - P) = o - P := by rw [IntKind.wrap_i64]; omega
      have Rd := R2.drew
      have Bd := B2.drew
      go_wp2_with fail
      refine wp_region_noPanic ?_
      refine wp_region_held_drew (S := (fun w' => w'.cell? ⟨w.heap.size, 0, none⟩ = some (.int .i64 h) ∧ w'.cell? ⟨w.heap.size, 1, none⟩ = some (.int .i64 v) ∧ w'.cell? ⟨w.heap.size, 2, none⟩ = some (.int .i64 o) ∧ Hid (Room w' w.heap.size (c3 h v o) ∧ Below w.heap.size w w'))) (by kernel_rfl) ⟨Rd.cell 0 rfl, Rd.cell 1 rfl, Rd.cell 2 rfl, ⟨Rd, Bd⟩⟩ (fun hHeld => ?_)
      refine Tk.W 0 (some 19) (.fieldAddr 29 (.tmp 3) 2) 0 none ?_
      refine Tk.W 1 (some 20) (.load 2 (.tmp 19)) 2 none ?_
      refine Tk.W 2 (some 21) (.load 29 (.tmp 3)) 29 none ?_
      refine Tk.W 3 (some 22) (.move (.tmp 1)) 2 none ?_
      refine Tk.W 4 (some 23) (.move (.tmp 2)) 2 none ?_
      refine Tk.W 5 (some 24) (.fieldAddr 29 (.tmp 3) 0) 0 none ?_
      refine Tk.W 6 (some 25) (.load 2 (.tmp 24)) 2 none ?_
      refine Tk.W 7 (some 26) (.binOp .sub 2 (.tmp 23) (.tmp 25) 2) 2 none ?_
      refine Tk.R 8 (some 27) (.call ⟨.value (.func 31), #[.tmp 21, .tmp 22, .tmp 26], #[29, 2, 2]⟩) 2 none (fun K hK => ?_)
      go_simp
      refine (key _).mono ?_
      rintro e vrO9 ⟨rfl, b_rO9⟩
      have ra_rO9 := hHeld.2.2.2.out.1.below b_rO9
      have bb_rO9 := hHeld.2.2.2.out.2.trans (b_rO9.mono hHeld.2.2.2.out.2.size)
      have kvrO9 := Tk.kv hK (w := vrO9) ⟨ra_rO9.cell 0 rfl, ra_rO9.cell 1 rfl, ra_rO9.cell 2 rfl, ⟨ra_rO9, bb_rO9⟩⟩
      clear ra_rO9 bb_rO9 b_rO9
      try dsimp only
      refine hK.out _ _ kvrO9 ?_; clear hK K hHeld; intro hHeld; try simp only [Act.put, List.setIfInBounds_toArray, List.set_cons_zero, List.set_cons_succ]
      refine Tk.W 9 (some 28) (.binOp .sub 2 (.tmp 20) (.tmp 27) 2) 2 none ?_
      refine Tk.W 10 (some 6) (.assign (.tmp 28)) 2 none ?_
      refine Tk.W 11 (some 7) (.assign (.const (.bool true))) 4 none ?_
      refine wpAnyH_done (by kernel_rfl) ?_ _
      refine NoPanic.normal ?_
      have BB := hHeld.2.2.2.out.2
      clear hHeld
      go_wp2
      go_ret2
      exact ⟨ret2 rfl rfl, BB⟩

/-- When all is paid: whether that can be told, and when. -/
def WB (h v o s : Int) : Bool := CK h v o s && decide (AB o ≤ (1000000000000000 - h) / s)
def WN (h v o s : Int) : Int := if WB h v o s = true then h + AB o * s else 0
theorem wn_no {h v o s : Int} (q : WB h v o s = false) : WN h v o s = 0 := by unfold WN; rw [q]; rfl
theorem wn_yes {h v o s : Int} (q : WB h v o s = true) : WN h v o s = h + AB o * s := by unfold WN; rw [if_pos q]
theorem wb_no {h v o s : Int} (q : CK h v o s = false) : WB h v o s = false := by unfold WB; rw [q]; rfl
theorem wb_is {h v o s : Int} (q : CK h v o s = true) : WB h v o s = decide (AB o ≤ (1000000000000000 - h) / s) := by unfold WB; rw [q]; rfl
theorem wb_bd {h o s : Int} (h1 : 0 ≤ h ∧ h ≤ 1000000000000000) (h2 : 2 ≤ s) (h3 : AB o ≤ (1000000000000000 - h) / s) (h4 : 0 ≤ AB o) : 0 ≤ AB o * s ∧ h + AB o * s ≤ 1000000000000000 := by
  have a := Int.mul_le_of_le_ediv (show (0 : Int) < s by omega) h3
  have b := Int.mul_nonneg h4 (show (0 : Int) ≤ s by omega)
  omega

set_option maxHeartbeats 2000000 in
theorem i_PaidWhen (h v o s : Int) (w : World) :
    Calls Try.prog 17 #[clk h v o, .int .i64 s] w fun e w' => e = .returned (.tuple #[.int .i64 (WN h v o s), .bool (WB h v o s)]) ∧ Below w.heap.size w w' := by
  have R := Room.new w (c3 h v o) 29
  have B1 := (Below.refl w.heap.size w).alloc (Nat.le_refl _) (.cells #[.int .i64 h, .int .i64 v, .int .i64 o] 29)
  cases hq : CK h v o s with
  | false =>
    rw [wb_no hq, wn_no (wb_no hq)]
    go_enter Try.func17, Try.ntmps17
    go_wp2_with fail
    refine (i_ck w.heap.size h v o s _ R).mono ?_
    rintro e w2 ⟨rfl, b2⟩
    rw [hq]
    have R2 := R.below b2
    have B2 := B1.trans (b2.mono B1.size)
    go_wp2
    go_ret2
    exact ⟨rfl, B2⟩
  | true =>
    obtain ⟨h1, h2, h3, h4⟩ := ck_of hq
    cases q : WB h v o s with
    | false =>
      rw [wn_no q]
      have ha := ab_bd h3
      have hd := div_bd (e := 1000000000000000 - h) (s := s) (by omega) h4.1
      have hw := wb_bd (h := h) (o := o) (s := s) h1 h4.1
      obtain ⟨A, eA⟩ : ∃ A, AB o = A := ⟨_, rfl⟩
      obtain ⟨D, eD⟩ : ∃ D, (1000000000000000 - h) / s = D := ⟨_, rfl⟩
      obtain ⟨P, eP⟩ : ∃ P, A * s = P := ⟨_, rfl⟩
      have HA : Hid (AB o = A) := eA
      have hq0 : (1000000000000000 - h).tdiv s = D := by rw [Int.tdiv_eq_ediv_of_nonneg (by omega)]; exact eD
      rw [eA] at ha hw
      rw [eD] at hd hw
      rw [eP] at hw
      rw [wb_is hq, eA, eD] at q
      have HQ : Hid (decide (A ≤ D) = false) := q
      clear q eA eD
      have w0 : IntKind.i64.wrap (1000000000000000 - h) = 1000000000000000 - h := by rw [IntKind.wrap_i64]; omega
      have w1 : IntKind.i64.wrap A = A := by rw [IntKind.wrap_i64]; omega
      have w2 : IntKind.i64.wrap D = D := by rw [IntKind.wrap_i64]; omega
      have hs0 : s ≠ 0 := by omega
      have hgt : decide (D < A) = true := decide_eq_true (by have := of_decide_eq_false HQ.out; omega)
      clear hw eP
      go_enter Try.func17, Try.ntmps17
      go_wp2_with fail
      refine (i_ck w.heap.size h v o s _ R).mono ?_
      rintro e w2 ⟨rfl, b2⟩
      rw [hq]
      have R2 := R.below b2
      have B2 := B1.trans (b2.mono B1.size)
      have c2 := R2.cell 2 rfl
      have c0 := R2.cell 0 rfl
      go_wp2_with fail
      refine (i_size o h3 _).mono ?_
      rintro e w3 ⟨rfl, rfl⟩
      rw [HA.out]
      go_wp2
      go_ret2
      exact ⟨rfl, B2⟩
    | true =>
      rw [wn_yes q]
      have ha := ab_bd h3
      have hd := div_bd (e := 1000000000000000 - h) (s := s) (by omega) h4.1
      have hw := wb_bd (h := h) (o := o) (s := s) h1 h4.1
      obtain ⟨A, eA⟩ : ∃ A, AB o = A := ⟨_, rfl⟩
      obtain ⟨D, eD⟩ : ∃ D, (1000000000000000 - h) / s = D := ⟨_, rfl⟩
      obtain ⟨P, eP⟩ : ∃ P, A * s = P := ⟨_, rfl⟩
      have HA : Hid (AB o = A) := eA
      have hq0 : (1000000000000000 - h).tdiv s = D := by rw [Int.tdiv_eq_ediv_of_nonneg (by omega)]; exact eD
      rw [eA] at ha hw
      rw [eD] at hd hw
      rw [eP] at hw
      rw [wb_is hq, eA, eD] at q
      have HQ : Hid (decide (A ≤ D) = true) := q
      clear q eA eD
      have w0 : IntKind.i64.wrap (1000000000000000 - h) = 1000000000000000 - h := by rw [IntKind.wrap_i64]; omega
      have w1 : IntKind.i64.wrap A = A := by rw [IntKind.wrap_i64]; omega
      have w2 : IntKind.i64.wrap D = D := by rw [IntKind.wrap_i64]; omega
      have hs0 : s ≠ 0 := by omega
      have hle : A ≤ D := of_decide_eq_true HQ.out
      have hw2 := hw hle ha.1
      have w3 : IntKind.i64.wrap P = P := by rw [IntKind.wrap_i64]; omega
      have w4 : IntKind.i64.wrap (h + P) = h + P := by rw [IntKind.wrap_i64]; omega
      have hgt : decide (D < A) = false := decide_eq_false (by omega)
      have HE : Hid (h + P = h + AB o * s) := by rw [HA.out, eP]; rfl
      go_enter Try.func17, Try.ntmps17
      go_wp2_with fail
      refine (i_ck w.heap.size h v o s _ R).mono ?_
      rintro e w2 ⟨rfl, b2⟩
      rw [hq]
      have R2 := R.below b2
      have B2 := B1.trans (b2.mono B1.size)
      have c2 := R2.cell 2 rfl
      have c0 := R2.cell 0 rfl
      go_wp2_with fail
      refine (i_size o h3 _).mono ?_
      rintro e w3 ⟨rfl, rfl⟩
      rw [HA.out]
      go_wp2
      go_ret2
      exact ⟨ret2 HE.out rfl, B2⟩

set_option maxHeartbeats 2000000 in
theorem s_PaidWhen (h v o s : Int) (w : World) :
    Calls Try.prog 20 #[clk h v o, .int .i64 s] w fun e w' => e = .returned (.tuple #[.int .i64 (WN h v o s), .bool (WB h v o s)]) ∧ Below w.heap.size w w' := by
  have R := Room.new w (c3 h v o) 29
  have B1 := (Below.refl w.heap.size w).alloc (Nat.le_refl _) (.cells #[.int .i64 h, .int .i64 v, .int .i64 o] 29)
  have Rd := R.drew
  have Bd := B1.drew
  cases hq : CK h v o s with
  | false =>
    rw [wb_no hq, wn_no (wb_no hq)]
    go_enter Try.func20, Try.ntmps20
    go_wp2_with fail
    refine wp_region_noPanic ?_
    refine wp_region_held_drew (S := (fun w' => w'.cell? ⟨w.heap.size, 0, none⟩ = some (.int .i64 h) ∧ w'.cell? ⟨w.heap.size, 1, none⟩ = some (.int .i64 v) ∧ w'.cell? ⟨w.heap.size, 2, none⟩ = some (.int .i64 o) ∧ Hid (Room w' w.heap.size (c3 h v o) ∧ Below w.heap.size w w'))) (by kernel_rfl) ⟨Rd.cell 0 rfl, Rd.cell 1 rfl, Rd.cell 2 rfl, ⟨Rd, Bd⟩⟩ (fun hHeld => ?_)
    refine Tk.W 0 (some 6) (.load 29 (.tmp 2)) 29 none ?_
    refine Tk.W 1 (some 7) (.move (.tmp 1)) 2 none ?_
    refine Tk.R 2 (some 8) (.call ⟨.value (.func 25), #[.tmp 6, .tmp 7], #[29, 2]⟩) 4 none (fun K hK => ?_)
    go_simp
    refine (s_ClockOk h v o s _).mono ?_
    rintro e va3 ⟨rfl, b_a3⟩
    rw [hq]
    have ra_a3 := hHeld.2.2.2.out.1.below b_a3
    have bb_a3 := hHeld.2.2.2.out.2.trans (b_a3.mono hHeld.2.2.2.out.2.size)
    have kva3 := Tk.kv hK (w := va3) ⟨ra_a3.cell 0 rfl, ra_a3.cell 1 rfl, ra_a3.cell 2 rfl, ⟨ra_a3, bb_a3⟩⟩
    clear ra_a3 bb_a3 b_a3
    try dsimp only
    refine hK.out _ _ kva3 ?_; clear hK K hHeld; intro hHeld; try simp only [Act.put, List.setIfInBounds_toArray, List.set_cons_zero, List.set_cons_succ]
    refine Tk.W 3 (some 9) (.unOp .not 4 (.tmp 8)) 4 none ?_
    refine Tk.W 4 (some 10) (.move (.tmp 9)) 4 none ?_
    refine Tk.N 5 (some 11) (.fieldAddr 29 (.tmp 2) 2) 0 (some (4, false)) ?_
    refine Tk.N 6 (some 12) (.load 2 (.tmp 11)) 2 (some (4, false)) ?_
    refine Tk.N 7 (some 13) (.call ⟨.value (.func 36), #[.tmp 12], #[2]⟩) 2 (some (4, false)) ?_
    refine Tk.N 8 (some 14) (.fieldAddr 29 (.tmp 2) 0) 0 (some (4, false)) ?_
    refine Tk.N 9 (some 15) (.load 2 (.tmp 14)) 2 (some (4, false)) ?_
    refine Tk.N 10 (some 16) (.binOp .sub 2 (.const (.int .i64 1000000000000000)) (.tmp 15) 2) 2 (some (4, false)) ?_
    refine Tk.N 11 (some 17) (.move (.tmp 1)) 2 (some (4, false)) ?_
    refine Tk.N 12 (some 18) (.binOp .quo 2 (.tmp 16) (.tmp 17) 2) 2 (some (4, false)) ?_
    refine Tk.N 13 (some 19) (.binOp .gtr 2 (.tmp 13) (.tmp 18) 2) 4 (some (4, false)) ?_
    refine Tk.W 14 (some 20) (.pick (.tmp 10) (.const (.bool true)) (.tmp 19)) 4 none ?_
    refine wpAnyH_done (by kernel_rfl) ?_ _
    refine NoPanic.normal ?_
    clear R B1 Rd Bd
    obtain ⟨R, B1⟩ := hHeld.2.2.2.out
    clear hHeld
    go_wp2
    go_ret2
    exact ⟨rfl, B1⟩
  | true =>
    obtain ⟨h1, h2, h3, h4⟩ := ck_of hq
    cases q : WB h v o s with
    | false =>
      rw [wn_no q]
      have ha := ab_bd h3
      have hd := div_bd (e := 1000000000000000 - h) (s := s) (by omega) h4.1
      have hw := wb_bd (h := h) (o := o) (s := s) h1 h4.1
      obtain ⟨A, eA⟩ : ∃ A, AB o = A := ⟨_, rfl⟩
      obtain ⟨D, eD⟩ : ∃ D, (1000000000000000 - h) / s = D := ⟨_, rfl⟩
      obtain ⟨P, eP⟩ : ∃ P, A * s = P := ⟨_, rfl⟩
      have HA : Hid (AB o = A) := eA
      have hq0 : (1000000000000000 - h).tdiv s = D := by rw [Int.tdiv_eq_ediv_of_nonneg (by omega)]; exact eD
      rw [eA] at ha hw
      rw [eD] at hd hw
      rw [eP] at hw
      rw [wb_is hq, eA, eD] at q
      have HQ : Hid (decide (A ≤ D) = false) := q
      clear q eA eD
      have w0 : IntKind.i64.wrap (1000000000000000 - h) = 1000000000000000 - h := by rw [IntKind.wrap_i64]; omega
      have w1 : IntKind.i64.wrap A = A := by rw [IntKind.wrap_i64]; omega
      have w2 : IntKind.i64.wrap D = D := by rw [IntKind.wrap_i64]; omega
      have hs0 : s ≠ 0 := by omega
      have hgt : decide (D < A) = true := decide_eq_true (by have := of_decide_eq_false HQ.out; omega)
      clear hw eP
      go_enter Try.func20, Try.ntmps20
      go_wp2_with fail
      refine wp_region_noPanic ?_
      refine wp_region_held_drew (S := (fun w' => w'.cell? ⟨w.heap.size, 0, none⟩ = some (.int .i64 h) ∧ w'.cell? ⟨w.heap.size, 1, none⟩ = some (.int .i64 v) ∧ w'.cell? ⟨w.heap.size, 2, none⟩ = some (.int .i64 o) ∧ Hid (Room w' w.heap.size (c3 h v o) ∧ Below w.heap.size w w'))) (by kernel_rfl) ⟨Rd.cell 0 rfl, Rd.cell 1 rfl, Rd.cell 2 rfl, ⟨Rd, Bd⟩⟩ (fun hHeld => ?_)
      refine Tk.W 0 (some 6) (.load 29 (.tmp 2)) 29 none ?_
      refine Tk.W 1 (some 7) (.move (.tmp 1)) 2 none ?_
      refine Tk.R 2 (some 8) (.call ⟨.value (.func 25), #[.tmp 6, .tmp 7], #[29, 2]⟩) 4 none (fun K hK => ?_)
      go_simp
      refine (s_ClockOk h v o s _).mono ?_
      rintro e vb3 ⟨rfl, b_b3⟩
      rw [hq]
      have ra_b3 := hHeld.2.2.2.out.1.below b_b3
      have bb_b3 := hHeld.2.2.2.out.2.trans (b_b3.mono hHeld.2.2.2.out.2.size)
      have kvb3 := Tk.kv hK (w := vb3) ⟨ra_b3.cell 0 rfl, ra_b3.cell 1 rfl, ra_b3.cell 2 rfl, ⟨ra_b3, bb_b3⟩⟩
      clear ra_b3 bb_b3 b_b3
      try dsimp only
      refine hK.out _ _ kvb3 ?_; clear hK K hHeld; intro hHeld; try simp only [Act.put, List.setIfInBounds_toArray, List.set_cons_zero, List.set_cons_succ]
      refine Tk.W 3 (some 9) (.unOp .not 4 (.tmp 8)) 4 none ?_
      refine Tk.W 4 (some 10) (.move (.tmp 9)) 4 none ?_
      refine Tk.W 5 (some 11) (.fieldAddr 29 (.tmp 2) 2) 0 (some (4, false)) ?_
      refine Tk.W 6 (some 12) (.load 2 (.tmp 11)) 2 (some (4, false)) ?_
      refine Tk.W 8 (some 14) (.fieldAddr 29 (.tmp 2) 0) 0 (some (4, false)) ?_
      refine Tk.W 9 (some 15) (.load 2 (.tmp 14)) 2 (some (4, false)) ?_
      refine Tk.W 10 (some 16) (.binOp .sub 2 (.const (.int .i64 1000000000000000)) (.tmp 15) 2) 2 (some (4, false)) ?_
      refine Tk.W 11 (some 17) (.move (.tmp 1)) 2 (some (4, false)) ?_
      refine Tk.W 12 (some 18) (.binOp .quo 2 (.tmp 16) (.tmp 17) 2) 2 (some (4, false)) ?_
      refine Tk.R 7 (some 13) (.call ⟨.value (.func 36), #[.tmp 12], #[2]⟩) 2 (some (4, false)) (fun K hK => ?_)
      go_simp
      refine (s_abs o h3 _).mono ?_
      rintro e vb13 ⟨rfl, e_b13⟩
      subst e_b13
      rw [HA.out]
      have kvb13 : (fun w' => w'.cell? ⟨w.heap.size, 0, none⟩ = some (.int .i64 h) ∧ w'.cell? ⟨w.heap.size, 1, none⟩ = some (.int .i64 v) ∧ w'.cell? ⟨w.heap.size, 2, none⟩ = some (.int .i64 o) ∧ Hid (Room w' w.heap.size (c3 h v o) ∧ Below w.heap.size w w')) _ := hHeld
      try dsimp only
      refine hK.out _ _ kvb13 ?_; clear hK K hHeld; intro hHeld; try simp only [Act.put, List.setIfInBounds_toArray, List.set_cons_zero, List.set_cons_succ]
      refine Tk.W 13 (some 19) (.binOp .gtr 2 (.tmp 13) (.tmp 18) 2) 4 (some (4, false)) ?_
      refine Tk.W 14 (some 20) (.pick (.tmp 10) (.const (.bool true)) (.tmp 19)) 4 none ?_
      refine wpAnyH_done (by kernel_rfl) ?_ _
      refine NoPanic.normal ?_
      clear R B1 Rd Bd
      obtain ⟨R, B1⟩ := hHeld.2.2.2.out
      clear hHeld
      go_wp2
      go_ret2
      exact ⟨rfl, B1⟩
    | true =>
      rw [wn_yes q]
      have ha := ab_bd h3
      have hd := div_bd (e := 1000000000000000 - h) (s := s) (by omega) h4.1
      have hw := wb_bd (h := h) (o := o) (s := s) h1 h4.1
      obtain ⟨A, eA⟩ : ∃ A, AB o = A := ⟨_, rfl⟩
      obtain ⟨D, eD⟩ : ∃ D, (1000000000000000 - h) / s = D := ⟨_, rfl⟩
      obtain ⟨P, eP⟩ : ∃ P, A * s = P := ⟨_, rfl⟩
      have HA : Hid (AB o = A) := eA
      have hq0 : (1000000000000000 - h).tdiv s = D := by rw [Int.tdiv_eq_ediv_of_nonneg (by omega)]; exact eD
      rw [eA] at ha hw
      rw [eD] at hd hw
      rw [eP] at hw
      rw [wb_is hq, eA, eD] at q
      have HQ : Hid (decide (A ≤ D) = true) := q
      clear q eA eD
      have w0 : IntKind.i64.wrap (1000000000000000 - h) = 1000000000000000 - h := by rw [IntKind.wrap_i64]; omega
      have w1 : IntKind.i64.wrap A = A := by rw [IntKind.wrap_i64]; omega
      have w2 : IntKind.i64.wrap D = D := by rw [IntKind.wrap_i64]; omega
      have hs0 : s ≠ 0 := by omega
      have hle : A ≤ D := of_decide_eq_true HQ.out
      have hw2 := hw hle ha.1
      have w3 : IntKind.i64.wrap P = P := by rw [IntKind.wrap_i64]; omega
      have w4 : IntKind.i64.wrap (h + P) = h + P := by rw [IntKind.wrap_i64]; omega
      have hgt : decide (D < A) = false := decide_eq_false (by omega)
      have HE : Hid (h + P = h + AB o * s) := by rw [HA.out, eP]; rfl
      go_enter Try.func20, Try.ntmps20
      go_wp2_with fail
      refine wp_region_noPanic ?_
      refine wp_region_held_drew (S := (fun w' => w'.cell? ⟨w.heap.size, 0, none⟩ = some (.int .i64 h) ∧ w'.cell? ⟨w.heap.size, 1, none⟩ = some (.int .i64 v) ∧ w'.cell? ⟨w.heap.size, 2, none⟩ = some (.int .i64 o) ∧ Hid (Room w' w.heap.size (c3 h v o) ∧ Below w.heap.size w w'))) (by kernel_rfl) ⟨Rd.cell 0 rfl, Rd.cell 1 rfl, Rd.cell 2 rfl, ⟨Rd, Bd⟩⟩ (fun hHeld => ?_)
      refine Tk.W 0 (some 6) (.load 29 (.tmp 2)) 29 none ?_
      refine Tk.W 1 (some 7) (.move (.tmp 1)) 2 none ?_
      refine Tk.R 2 (some 8) (.call ⟨.value (.func 25), #[.tmp 6, .tmp 7], #[29, 2]⟩) 4 none (fun K hK => ?_)
      go_simp
      refine (s_ClockOk h v o s _).mono ?_
      rintro e vc3 ⟨rfl, b_c3⟩
      rw [hq]
      have ra_c3 := hHeld.2.2.2.out.1.below b_c3
      have bb_c3 := hHeld.2.2.2.out.2.trans (b_c3.mono hHeld.2.2.2.out.2.size)
      have kvc3 := Tk.kv hK (w := vc3) ⟨ra_c3.cell 0 rfl, ra_c3.cell 1 rfl, ra_c3.cell 2 rfl, ⟨ra_c3, bb_c3⟩⟩
      clear ra_c3 bb_c3 b_c3
      try dsimp only
      refine hK.out _ _ kvc3 ?_; clear hK K hHeld; intro hHeld; try simp only [Act.put, List.setIfInBounds_toArray, List.set_cons_zero, List.set_cons_succ]
      refine Tk.W 3 (some 9) (.unOp .not 4 (.tmp 8)) 4 none ?_
      refine Tk.W 4 (some 10) (.move (.tmp 9)) 4 none ?_
      refine Tk.W 5 (some 11) (.fieldAddr 29 (.tmp 2) 2) 0 (some (4, false)) ?_
      refine Tk.W 6 (some 12) (.load 2 (.tmp 11)) 2 (some (4, false)) ?_
      refine Tk.W 8 (some 14) (.fieldAddr 29 (.tmp 2) 0) 0 (some (4, false)) ?_
      refine Tk.W 9 (some 15) (.load 2 (.tmp 14)) 2 (some (4, false)) ?_
      refine Tk.W 10 (some 16) (.binOp .sub 2 (.const (.int .i64 1000000000000000)) (.tmp 15) 2) 2 (some (4, false)) ?_
      refine Tk.W 11 (some 17) (.move (.tmp 1)) 2 (some (4, false)) ?_
      refine Tk.W 12 (some 18) (.binOp .quo 2 (.tmp 16) (.tmp 17) 2) 2 (some (4, false)) ?_
      refine Tk.R 7 (some 13) (.call ⟨.value (.func 36), #[.tmp 12], #[2]⟩) 2 (some (4, false)) (fun K hK => ?_)
      go_simp
      refine (s_abs o h3 _).mono ?_
      rintro e vc13 ⟨rfl, e_c13⟩
      subst e_c13
      rw [HA.out]
      have kvc13 : (fun w' => w'.cell? ⟨w.heap.size, 0, none⟩ = some (.int .i64 h) ∧ w'.cell? ⟨w.heap.size, 1, none⟩ = some (.int .i64 v) ∧ w'.cell? ⟨w.heap.size, 2, none⟩ = some (.int .i64 o) ∧ Hid (Room w' w.heap.size (c3 h v o) ∧ Below w.heap.size w w')) _ := hHeld
      try dsimp only
      refine hK.out _ _ kvc13 ?_; clear hK K hHeld; intro hHeld; try simp only [Act.put, List.setIfInBounds_toArray, List.set_cons_zero, List.set_cons_succ]
      refine Tk.W 13 (some 19) (.binOp .gtr 2 (.tmp 13) (.tmp 18) 2) 4 (some (4, false)) ?_
      refine Tk.W 14 (some 20) (.pick (.tmp 10) (.const (.bool true)) (.tmp 19)) 4 none ?_
      refine wpAnyH_done (by kernel_rfl) ?_ _
      refine NoPanic.normal ?_
      clear R B1 Rd Bd
      obtain ⟨R, B1⟩ := hHeld.2.2.2.out
      clear hHeld
      go_wp2_with fail
      have Rd := R.drew
      have Bd := B1.drew
      refine wp_region_noPanic ?_
      refine wp_region_held_drew (S := (fun w' => w'.cell? ⟨w.heap.size, 0, none⟩ = some (.int .i64 h) ∧ w'.cell? ⟨w.heap.size, 1, none⟩ = some (.int .i64 v) ∧ w'.cell? ⟨w.heap.size, 2, none⟩ = some (.int .i64 o) ∧ Hid (Room w' w.heap.size (c3 h v o) ∧ Below w.heap.size w w'))) (by kernel_rfl) ⟨Rd.cell 0 rfl, Rd.cell 1 rfl, Rd.cell 2 rfl, ⟨Rd, Bd⟩⟩ (fun hHeld => ?_)
      refine Tk.W 0 (some 21) (.fieldAddr 29 (.tmp 2) 0) 0 none ?_
      refine Tk.W 1 (some 22) (.load 2 (.tmp 21)) 2 none ?_
      refine Tk.W 2 (some 23) (.fieldAddr 29 (.tmp 2) 2) 0 none ?_
      refine Tk.W 3 (some 24) (.load 2 (.tmp 23)) 2 none ?_
      refine Tk.W 5 (some 26) (.move (.tmp 1)) 2 none ?_
      refine Tk.R 4 (some 25) (.call ⟨.value (.func 36), #[.tmp 24], #[2]⟩) 2 none (fun K hK => ?_)
      go_simp
      refine (s_abs o h3 _).mono ?_
      rintro e vd6 ⟨rfl, e_d6⟩
      subst e_d6
      rw [HA.out]
      have kvd6 : (fun w' => w'.cell? ⟨w.heap.size, 0, none⟩ = some (.int .i64 h) ∧ w'.cell? ⟨w.heap.size, 1, none⟩ = some (.int .i64 v) ∧ w'.cell? ⟨w.heap.size, 2, none⟩ = some (.int .i64 o) ∧ Hid (Room w' w.heap.size (c3 h v o) ∧ Below w.heap.size w w')) _ := hHeld
      try dsimp only
      refine hK.out _ _ kvd6 ?_; clear hK K hHeld; intro hHeld; try simp only [Act.put, List.setIfInBounds_toArray, List.set_cons_zero, List.set_cons_succ]
      refine Tk.W 6 (some 27) (.binOp .mul 2 (.tmp 25) (.tmp 26) 2) 2 none ?_
      refine Tk.W 7 (some 28) (.binOp .add 2 (.tmp 22) (.tmp 27) 2) 2 none ?_
      refine Tk.W 8 (some 4) (.assign (.tmp 28)) 2 none ?_
      refine Tk.W 9 (some 5) (.assign (.const (.bool true))) 4 none ?_
      refine wpAnyH_done (by kernel_rfl) ?_ _
      refine NoPanic.normal ?_
      clear R B1 Rd Bd
      obtain ⟨R, B1⟩ := hHeld.2.2.2.out
      clear hHeld
      go_wp2
      go_ret2
      exact ⟨ret2 HE.out rfl, B1⟩

end Go.Proofs.Ytcgcmceobmpdiaa.Ck
