/-
  The Go function laws.FnCorrected answers true at every code: a drawn clock of chapter 8 that is put right goes on from what it shows, owes what it owed and what it is put right by, and is left as it is where that is refused; impl.Corrected and ClockOk answer there as spec's. No condition.
-/
import Derived.Test.YtcgcmceobmpdiaaRows
import Derived.WalkKit
import Derived.ProofKit
import Derived.OpenShut
import Derived.ShutString
import Derived.ChangeOld
import Derived.Below
import Derived.Test.YtcgcmceobmpdiaaDk3
import Derived.Test.YtcgcmceobmpdiaaTk
namespace Go.Proofs.Ytcgcmceobmpdiaa.fnCorrected
open Go.ChangeShapes Go.WideShapes Go.ChangeAt Go.RowKit
open Go.ChangeMaps (open_string shut_string)
set_option linter.unusedVariables false
set_option linter.unusedSimpArgs false

theorem own : ownKnob Try.prog.godebug = none := by kernel_rfl
theorem laidOut : laidOutB Try.prog = true := by kernel_rfl

/-- WHAT THE WALK IS TOLD OF A SLICE OF INTEGERS THAT CAME IN: it is nil; or it leads to a row of 'cap' cells, the numbers 'zs' (the first 'len' are its elements, the rest its spare room), each fitting its kind. -/
def IsRow (k : IntKind) (w : World) (a : Option Addr) (len cap : Nat) (zs : List Int) : Prop :=
  (a = none ∧ len = 0 ∧ cap = 0 ∧ zs = []) ∨
  ∃ x, a = some x ∧ len ≤ cap ∧ cap ≤ maxLen ∧ zs.length = cap ∧ (∀ i, i < zs.length → w.cell? (x.add i) = some (.int k (zs.getD i 0))) ∧ ∀ n ∈ zs, (Lit.int k n).wf = true

theorem ov_here {h v o s : Int} (q : Ck.CK h v o s = true) : Ck.OV h v o s h = o := by
  obtain ⟨h1, h2, h3, h4⟩ := Ck.ck_of q
  have f := Ck.fr_yes (a := h) q ⟨by omega, h1.2⟩
  rw [Ck.ov_yes f, Int.sub_self]
  have a := Ck.ab_bd h3
  have e : Ck.PN o s 0 = 0 := by unfold Ck.PN; rw [Int.zero_ediv]; omega
  unfold Ck.PD
  rw [e]
  split <;> omega
/-- A clock that has been put right. -/
theorem corr_facts {h v o s a y : Int} (q : Ck.CB h v o s a y = true) : Ck.CK h v o s = true ∧ Ck.FR h v o s a = true ∧ (Ck.FR a (Ck.RV h v o s a) (Ck.OV h v o s a + y) s a = true ∧ Ck.RV a (Ck.RV h v o s a) (Ck.OV h v o s a + y) s a = Ck.RV h v o s a ∧ Ck.OV a (Ck.RV h v o s a) (Ck.OV h v o s a + y) s a = Ck.OV h v o s a + y) ∧ (-1000000000000000 ≤ Ck.OV h v o s a + y ∧ Ck.OV h v o s a + y ≤ 1000000000000000) := by
  unfold Ck.CB at q
  rw [Bool.and_eq_true, Bool.and_eq_true] at q
  obtain ⟨⟨q1, q2⟩, q3⟩ := q
  obtain ⟨f1, _, _⟩ := Ck.fr_of q1
  have r := Ck.rv_here q3
  exact ⟨f1, q1, ⟨r.1, r.2, ov_here q3⟩, (Ck.ck_of q3).2.2.1⟩

theorem code_of {w : World} {a : Option Addr} {len cap : Nat} {zs : List Int} (h : IsRow .u8 w a len cap zs) (hl : len ≤ 4096) : Dr.Code w w.heap.size a len := by
  refine ⟨hl, ?_⟩
  rcases h with ⟨_, h, _, _⟩ | ⟨x, rfl, h1, h2, h3, h4, h5⟩
  · exact .inl h
  · by_cases h0 : len = 0
    · exact .inl h0
    · obtain ⟨b, off, spot⟩ := x
      have hc := h4 0 (by omega)
      have hs : spot = none := by simpa [Addr.add] using World.cell?_spot hc
      subst hs
      have hb := World.block_lt_of_cell? _ _ hc
      refine .inr ⟨b, off, rfl, by simpa [Addr.add] using hb, fun k hk => ⟨zs.getD k 0, ?_, ?_⟩⟩
      · have hk4 := h4 k (by omega)
        by_cases hk0 : k = 0
        · subst hk0; simpa [Addr.add] using hk4
        · simpa [Addr.add, hk0] using hk4
      · have e : zs.getD k 0 = zs[k]'(by omega) := by simp [List.getD, show k < zs.length by omega]
        refine bounds_u8 (h5 _ ?_)
        rw [e]
        exact List.getElem_mem _

theorem small (a : Option Addr) (len cap : Nat) (h : len ≤ 4096) (w : World) : Calls Try.prog 11 #[.slice a len cap] w fun e w' => e = .returned (.bool false) ∧ w' = w := by
  have h' : ¬ (4096 : Int) < len := by omega
  go_enter Try.func11, Try.ntmps11
  go_wp2
  go_ret
  exact ⟨rfl, rfl⟩

theorem great (a : Option Addr) (len cap : Nat) (h : ¬ len ≤ 4096) (w : World) : Calls Try.prog 11 #[.slice a len cap] w fun e w' => e = .returned (.bool true) ∧ w' = w := by
  have h' : (4096 : Int) < len := by omega
  go_enter Try.func11, Try.ntmps11
  go_wp2
  go_ret
  exact ⟨rfl, rfl⟩

/-! The walk. -/
set_option maxHeartbeats 20000000 in
set_option maxRecDepth 100000 in
theorem walk (a0 : Option Addr) (len0 cap0 : Nat) (z0 : List Int) (w : World) (w0 : IsRow .u8 w a0 len0 cap0 z0) :
    Calls Try.prog 5 #[.slice a0 len0 cap0] w fun e w' => e = .returned (.bool true) ∧ Below w.heap.size w w' := by
  by_cases hl : len0 ≤ 4096
  · have code := code_of w0 hl
    clear w0
    go_enter Try.func5, Try.ntmps5
    go_wp2_with fail
    refine (small a0 len0 cap0 hl _).mono ?_
    rintro e w ⟨rfl, rfl⟩
    go_wp2_with fail
    refine (Dr.drawCorrected w.heap.size a0 len0 cap0 w (Nat.le_refl _) code).mono ?_
    rintro e w1 ⟨⟨h, v, o, s, a, y, rfl⟩, B⟩
    clear code
    have RC := Rm.Room.new w1 [.int .i64 h, .int .i64 v, .int .i64 o] 29
    replace B := B.alloc B.size (.cells #[.int .i64 h, .int .i64 v, .int .i64 o] 29)
    have c0 := RC.cell 0 rfl
    have c1 := RC.cell 1 rfl
    have c2 := RC.cell 2 rfl
    cases hq : Ck.CK h v o s with
    | false =>
      obtain ⟨e4, e1, e2, e3⟩ := Ck.c_none (a := a) (y := y) hq
      have E1 : Hid (Ck.CH h v o s a y = 0) := e1
      have E2 : Hid (Ck.CV h v o s a y = 0) := e2
      have E3 : Hid (Ck.CO h v o s a y = 0) := e3
      have E4 : Hid (Ck.CB h v o s a y = false) := e4
      have HQ : Hid (Ck.CK h v o s = false) := hq
      clear e1 e2 e3 e4 hq
      go_wp2_with fail
      clear c0 c1 c2
      refine (Ck.i_Corrected h v o s a y _).mono ?_
      rintro e w2 ⟨rfl, b⟩
      rw [E4.out]
      rw [E1.out, E2.out, E3.out]
      replace RC := RC.below b
      replace B := B.trans (b.mono B.size)
      clear b
      have b : Below w2.heap.size w2 (w2.alloc (.cells #[.int .i64 0, .int .i64 0, .int .i64 0] 29)) := (Below.refl _ w2).alloc (Nat.le_refl _) _
      have RX := Rm.Room.new w2 [.int .i64 0, .int .i64 0, .int .i64 0] 29
      replace RC := RC.below b
      replace B := B.trans (b.mono B.size)
      clear b
      have c0 := RC.cell 0 rfl
      have c1 := RC.cell 1 rfl
      have c2 := RC.cell 2 rfl
      go_wp2_with fail
      clear c0 c1 c2
      refine (Ck.s_Corrected h v o s a y _).mono ?_
      rintro e w3 ⟨rfl, b⟩
      rw [E4.out]
      rw [E1.out, E2.out, E3.out]
      replace RC := RC.below b
      replace RX := RX.below b
      replace B := B.trans (b.mono B.size)
      clear b
      have b : Below w3.heap.size w3 (w3.alloc (.cells #[.int .i64 0, .int .i64 0, .int .i64 0] 29)) := (Below.refl _ w3).alloc (Nat.le_refl _) _
      have RY := Rm.Room.new w3 [.int .i64 0, .int .i64 0, .int .i64 0] 29
      replace RC := RC.below b
      replace RX := RX.below b
      replace B := B.trans (b.mono B.size)
      clear b
      go_wp2_with fail
      have da := RC.drew
      have db := RX.drew
      have dc := RY.drew
      have dd := B.drew
      refine wp_region_noPanic ?_
      refine wp_region_held_drew (S := (fun w' => w'.cell? ⟨w1.heap.size, 0, none⟩ = some (.int .i64 h) ∧ w'.cell? ⟨w1.heap.size, 1, none⟩ = some (.int .i64 v) ∧ w'.cell? ⟨w1.heap.size, 2, none⟩ = some (.int .i64 o) ∧ w'.cell? ⟨w2.heap.size, 0, none⟩ = some (.int .i64 0) ∧ w'.cell? ⟨w2.heap.size, 1, none⟩ = some (.int .i64 0) ∧ w'.cell? ⟨w2.heap.size, 2, none⟩ = some (.int .i64 0) ∧ w'.cell? ⟨w3.heap.size, 0, none⟩ = some (.int .i64 0) ∧ w'.cell? ⟨w3.heap.size, 1, none⟩ = some (.int .i64 0) ∧ w'.cell? ⟨w3.heap.size, 2, none⟩ = some (.int .i64 0) ∧ Hid (Rm.Room w' w1.heap.size [.int .i64 h, .int .i64 v, .int .i64 o] ∧ Rm.Room w' w2.heap.size [.int .i64 0, .int .i64 0, .int .i64 0] ∧ Rm.Room w' w3.heap.size [.int .i64 0, .int .i64 0, .int .i64 0] ∧ Below w.heap.size w w'))) (by kernel_rfl) ⟨da.cell 0 rfl, da.cell 1 rfl, da.cell 2 rfl, db.cell 0 rfl, db.cell 1 rfl, db.cell 2 rfl, dc.cell 0 rfl, dc.cell 1 rfl, dc.cell 2 rfl, ⟨da, db, dc, dd⟩⟩ (fun hHeld => ?_)
      refine Tk.W 0 (some 44) (.move (.tmp 8)) 4 none ?_
      refine Tk.W 1 (some 45) (.move (.tmp 10)) 4 none ?_
      refine Tk.W 2 (some 46) (.binOp .neq 4 (.tmp 44) (.tmp 45) 4) 4 none ?_
      refine Tk.W 3 (some 47) (.move (.tmp 46)) 4 none ?_
      refine Tk.W 4 (some 48) (.load 29 (.tmp 7)) 29 (some (3, false)) ?_
      refine Tk.W 5 (some 49) (.load 29 (.tmp 9)) 29 (some (3, false)) ?_
      refine Tk.W 6 (some 50) (.binOp .neq 29 (.tmp 48) (.tmp 49) 29) 4 (some (3, false)) ?_
      refine Tk.W 7 (some 51) (.pick (.tmp 47) (.const (.bool true)) (.tmp 50)) 4 none ?_
      refine Tk.W 8 (some 52) (.move (.tmp 51)) 4 none ?_
      refine Tk.W 9 (some 53) (.load 29 (.tmp 3)) 29 (some (8, false)) ?_
      refine Tk.W 10 (some 54) (.move (.tmp 4)) 2 (some (8, false)) ?_
      refine Tk.W 12 (some 56) (.load 29 (.tmp 3)) 29 (some (8, false)) ?_
      refine Tk.W 13 (some 57) (.move (.tmp 4)) 2 (some (8, false)) ?_
      refine Tk.R 11 (some 55) (.call ⟨.value (.func 24), #[.tmp 53, .tmp 54], #[29, 2]⟩) 4 (some (8, false)) (fun K hK => ?_)
      go_simp
      refine (Ck.i_ClockOk h v o s _).mono ?_
      rintro e vgnone14 ⟨rfl, b_gnone14⟩
      rw [HQ.out]
      have ra_gnone14 := hHeld.2.2.2.2.2.2.2.2.2.out.1.below b_gnone14
      have rb_gnone14 := hHeld.2.2.2.2.2.2.2.2.2.out.2.1.below b_gnone14
      have rc_gnone14 := hHeld.2.2.2.2.2.2.2.2.2.out.2.2.1.below b_gnone14
      have bb_gnone14 := hHeld.2.2.2.2.2.2.2.2.2.out.2.2.2.trans (b_gnone14.mono hHeld.2.2.2.2.2.2.2.2.2.out.2.2.2.size)
      have kvgnone14 := Tk.kv hK (w := vgnone14) ⟨ra_gnone14.cell 0 rfl, ra_gnone14.cell 1 rfl, ra_gnone14.cell 2 rfl, rb_gnone14.cell 0 rfl, rb_gnone14.cell 1 rfl, rb_gnone14.cell 2 rfl, rc_gnone14.cell 0 rfl, rc_gnone14.cell 1 rfl, rc_gnone14.cell 2 rfl, ⟨ra_gnone14, rb_gnone14, rc_gnone14, bb_gnone14⟩⟩
      clear ra_gnone14 rb_gnone14 rc_gnone14 bb_gnone14 b_gnone14
      try dsimp only
      refine hK.out _ _ kvgnone14 ?_; clear hK K hHeld; intro hHeld; try simp only [Act.put, List.setIfInBounds_toArray, List.set_cons_zero, List.set_cons_succ]
      refine Tk.R 14 (some 58) (.call ⟨.value (.func 25), #[.tmp 56, .tmp 57], #[29, 2]⟩) 4 (some (8, false)) (fun K hK => ?_)
      go_simp
      refine (Ck.s_ClockOk h v o s _).mono ?_
      rintro e vgnone15 ⟨rfl, b_gnone15⟩
      rw [HQ.out]
      have ra_gnone15 := hHeld.2.2.2.2.2.2.2.2.2.out.1.below b_gnone15
      have rb_gnone15 := hHeld.2.2.2.2.2.2.2.2.2.out.2.1.below b_gnone15
      have rc_gnone15 := hHeld.2.2.2.2.2.2.2.2.2.out.2.2.1.below b_gnone15
      have bb_gnone15 := hHeld.2.2.2.2.2.2.2.2.2.out.2.2.2.trans (b_gnone15.mono hHeld.2.2.2.2.2.2.2.2.2.out.2.2.2.size)
      have kvgnone15 := Tk.kv hK (w := vgnone15) ⟨ra_gnone15.cell 0 rfl, ra_gnone15.cell 1 rfl, ra_gnone15.cell 2 rfl, rb_gnone15.cell 0 rfl, rb_gnone15.cell 1 rfl, rb_gnone15.cell 2 rfl, rc_gnone15.cell 0 rfl, rc_gnone15.cell 1 rfl, rc_gnone15.cell 2 rfl, ⟨ra_gnone15, rb_gnone15, rc_gnone15, bb_gnone15⟩⟩
      clear ra_gnone15 rb_gnone15 rc_gnone15 bb_gnone15 b_gnone15
      try dsimp only
      refine hK.out _ _ kvgnone15 ?_; clear hK K hHeld; intro hHeld; try simp only [Act.put, List.setIfInBounds_toArray, List.set_cons_zero, List.set_cons_succ]
      refine Tk.W 15 (some 59) (.binOp .neq 4 (.tmp 55) (.tmp 58) 4) 4 (some (8, false)) ?_
      refine Tk.W 16 (some 60) (.pick (.tmp 52) (.const (.bool true)) (.tmp 59)) 4 none ?_
      refine wpAnyH_done (by kernel_rfl) ?_ _
      refine NoPanic.normal ?_
      clear da db dc dd RC RX RY B
      obtain ⟨RC, RX, RY, B⟩ := hHeld.2.2.2.2.2.2.2.2.2.out
      clear hHeld
      have c0 := RC.cell 0 rfl
      have c1 := RC.cell 1 rfl
      have c2 := RC.cell 2 rfl
      go_wp2_with fail
      clear c0 c1 c2
      refine (Ck.s_ClockOk h v o s _).mono ?_
      rintro e w9 ⟨rfl, b⟩
      rw [HQ.out]
      replace RC := RC.below b
      replace RX := RX.below b
      replace B := B.trans (b.mono B.size)
      clear b
      go_wp2
      go_ret
      exact ⟨rfl, B⟩
    | true =>
      cases e4 : Ck.CB h v o s a y with
      | false =>
        obtain ⟨e1, e2, e3⟩ := Ck.c_no hq e4
        have E1 : Hid (Ck.CH h v o s a y = h) := e1
        have E2 : Hid (Ck.CV h v o s a y = v) := e2
        have E3 : Hid (Ck.CO h v o s a y = o) := e3
        have E4 : Hid (Ck.CB h v o s a y = false) := e4
        have HQ : Hid (Ck.CK h v o s = true) := hq
        clear e1 e2 e3 e4 hq
        go_wp2_with fail
        clear c0 c1 c2
        refine (Ck.i_Corrected h v o s a y _).mono ?_
        rintro e w2 ⟨rfl, b⟩
        rw [E4.out]
        rw [E1.out, E2.out, E3.out]
        replace RC := RC.below b
        replace B := B.trans (b.mono B.size)
        clear b
        have b : Below w2.heap.size w2 (w2.alloc (.cells #[.int .i64 h, .int .i64 v, .int .i64 o] 29)) := (Below.refl _ w2).alloc (Nat.le_refl _) _
        have RX := Rm.Room.new w2 [.int .i64 h, .int .i64 v, .int .i64 o] 29
        replace RC := RC.below b
        replace B := B.trans (b.mono B.size)
        clear b
        have c0 := RC.cell 0 rfl
        have c1 := RC.cell 1 rfl
        have c2 := RC.cell 2 rfl
        go_wp2_with fail
        clear c0 c1 c2
        refine (Ck.s_Corrected h v o s a y _).mono ?_
        rintro e w3 ⟨rfl, b⟩
        rw [E4.out]
        rw [E1.out, E2.out, E3.out]
        replace RC := RC.below b
        replace RX := RX.below b
        replace B := B.trans (b.mono B.size)
        clear b
        have b : Below w3.heap.size w3 (w3.alloc (.cells #[.int .i64 h, .int .i64 v, .int .i64 o] 29)) := (Below.refl _ w3).alloc (Nat.le_refl _) _
        have RY := Rm.Room.new w3 [.int .i64 h, .int .i64 v, .int .i64 o] 29
        replace RC := RC.below b
        replace RX := RX.below b
        replace B := B.trans (b.mono B.size)
        clear b
        go_wp2_with fail
        have da := RC.drew
        have db := RX.drew
        have dc := RY.drew
        have dd := B.drew
        refine wp_region_noPanic ?_
        refine wp_region_held_drew (S := (fun w' => w'.cell? ⟨w1.heap.size, 0, none⟩ = some (.int .i64 h) ∧ w'.cell? ⟨w1.heap.size, 1, none⟩ = some (.int .i64 v) ∧ w'.cell? ⟨w1.heap.size, 2, none⟩ = some (.int .i64 o) ∧ w'.cell? ⟨w2.heap.size, 0, none⟩ = some (.int .i64 h) ∧ w'.cell? ⟨w2.heap.size, 1, none⟩ = some (.int .i64 v) ∧ w'.cell? ⟨w2.heap.size, 2, none⟩ = some (.int .i64 o) ∧ w'.cell? ⟨w3.heap.size, 0, none⟩ = some (.int .i64 h) ∧ w'.cell? ⟨w3.heap.size, 1, none⟩ = some (.int .i64 v) ∧ w'.cell? ⟨w3.heap.size, 2, none⟩ = some (.int .i64 o) ∧ Hid (Rm.Room w' w1.heap.size [.int .i64 h, .int .i64 v, .int .i64 o] ∧ Rm.Room w' w2.heap.size [.int .i64 h, .int .i64 v, .int .i64 o] ∧ Rm.Room w' w3.heap.size [.int .i64 h, .int .i64 v, .int .i64 o] ∧ Below w.heap.size w w'))) (by kernel_rfl) ⟨da.cell 0 rfl, da.cell 1 rfl, da.cell 2 rfl, db.cell 0 rfl, db.cell 1 rfl, db.cell 2 rfl, dc.cell 0 rfl, dc.cell 1 rfl, dc.cell 2 rfl, ⟨da, db, dc, dd⟩⟩ (fun hHeld => ?_)
        refine Tk.W 0 (some 44) (.move (.tmp 8)) 4 none ?_
        refine Tk.W 1 (some 45) (.move (.tmp 10)) 4 none ?_
        refine Tk.W 2 (some 46) (.binOp .neq 4 (.tmp 44) (.tmp 45) 4) 4 none ?_
        refine Tk.W 3 (some 47) (.move (.tmp 46)) 4 none ?_
        refine Tk.W 4 (some 48) (.load 29 (.tmp 7)) 29 (some (3, false)) ?_
        refine Tk.W 5 (some 49) (.load 29 (.tmp 9)) 29 (some (3, false)) ?_
        refine Tk.W 6 (some 50) (.binOp .neq 29 (.tmp 48) (.tmp 49) 29) 4 (some (3, false)) ?_
        refine Tk.W 7 (some 51) (.pick (.tmp 47) (.const (.bool true)) (.tmp 50)) 4 none ?_
        refine Tk.W 8 (some 52) (.move (.tmp 51)) 4 none ?_
        refine Tk.W 9 (some 53) (.load 29 (.tmp 3)) 29 (some (8, false)) ?_
        refine Tk.W 10 (some 54) (.move (.tmp 4)) 2 (some (8, false)) ?_
        refine Tk.W 12 (some 56) (.load 29 (.tmp 3)) 29 (some (8, false)) ?_
        refine Tk.W 13 (some 57) (.move (.tmp 4)) 2 (some (8, false)) ?_
        refine Tk.R 11 (some 55) (.call ⟨.value (.func 24), #[.tmp 53, .tmp 54], #[29, 2]⟩) 4 (some (8, false)) (fun K hK => ?_)
        go_simp
        refine (Ck.i_ClockOk h v o s _).mono ?_
        rintro e vgno14 ⟨rfl, b_gno14⟩
        rw [HQ.out]
        have ra_gno14 := hHeld.2.2.2.2.2.2.2.2.2.out.1.below b_gno14
        have rb_gno14 := hHeld.2.2.2.2.2.2.2.2.2.out.2.1.below b_gno14
        have rc_gno14 := hHeld.2.2.2.2.2.2.2.2.2.out.2.2.1.below b_gno14
        have bb_gno14 := hHeld.2.2.2.2.2.2.2.2.2.out.2.2.2.trans (b_gno14.mono hHeld.2.2.2.2.2.2.2.2.2.out.2.2.2.size)
        have kvgno14 := Tk.kv hK (w := vgno14) ⟨ra_gno14.cell 0 rfl, ra_gno14.cell 1 rfl, ra_gno14.cell 2 rfl, rb_gno14.cell 0 rfl, rb_gno14.cell 1 rfl, rb_gno14.cell 2 rfl, rc_gno14.cell 0 rfl, rc_gno14.cell 1 rfl, rc_gno14.cell 2 rfl, ⟨ra_gno14, rb_gno14, rc_gno14, bb_gno14⟩⟩
        clear ra_gno14 rb_gno14 rc_gno14 bb_gno14 b_gno14
        try dsimp only
        refine hK.out _ _ kvgno14 ?_; clear hK K hHeld; intro hHeld; try simp only [Act.put, List.setIfInBounds_toArray, List.set_cons_zero, List.set_cons_succ]
        refine Tk.R 14 (some 58) (.call ⟨.value (.func 25), #[.tmp 56, .tmp 57], #[29, 2]⟩) 4 (some (8, false)) (fun K hK => ?_)
        go_simp
        refine (Ck.s_ClockOk h v o s _).mono ?_
        rintro e vgno15 ⟨rfl, b_gno15⟩
        rw [HQ.out]
        have ra_gno15 := hHeld.2.2.2.2.2.2.2.2.2.out.1.below b_gno15
        have rb_gno15 := hHeld.2.2.2.2.2.2.2.2.2.out.2.1.below b_gno15
        have rc_gno15 := hHeld.2.2.2.2.2.2.2.2.2.out.2.2.1.below b_gno15
        have bb_gno15 := hHeld.2.2.2.2.2.2.2.2.2.out.2.2.2.trans (b_gno15.mono hHeld.2.2.2.2.2.2.2.2.2.out.2.2.2.size)
        have kvgno15 := Tk.kv hK (w := vgno15) ⟨ra_gno15.cell 0 rfl, ra_gno15.cell 1 rfl, ra_gno15.cell 2 rfl, rb_gno15.cell 0 rfl, rb_gno15.cell 1 rfl, rb_gno15.cell 2 rfl, rc_gno15.cell 0 rfl, rc_gno15.cell 1 rfl, rc_gno15.cell 2 rfl, ⟨ra_gno15, rb_gno15, rc_gno15, bb_gno15⟩⟩
        clear ra_gno15 rb_gno15 rc_gno15 bb_gno15 b_gno15
        try dsimp only
        refine hK.out _ _ kvgno15 ?_; clear hK K hHeld; intro hHeld; try simp only [Act.put, List.setIfInBounds_toArray, List.set_cons_zero, List.set_cons_succ]
        refine Tk.W 15 (some 59) (.binOp .neq 4 (.tmp 55) (.tmp 58) 4) 4 (some (8, false)) ?_
        refine Tk.W 16 (some 60) (.pick (.tmp 52) (.const (.bool true)) (.tmp 59)) 4 none ?_
        refine wpAnyH_done (by kernel_rfl) ?_ _
        refine NoPanic.normal ?_
        clear da db dc dd RC RX RY B
        obtain ⟨RC, RX, RY, B⟩ := hHeld.2.2.2.2.2.2.2.2.2.out
        clear hHeld
        have c0 := RC.cell 0 rfl
        have c1 := RC.cell 1 rfl
        have c2 := RC.cell 2 rfl
        go_wp2_with fail
        clear c0 c1 c2
        refine (Ck.s_ClockOk h v o s _).mono ?_
        rintro e w9 ⟨rfl, b⟩
        rw [HQ.out]
        replace RC := RC.below b
        replace RX := RX.below b
        replace B := B.trans (b.mono B.size)
        clear b
        have c0 := RC.cell 0 rfl
        have c1 := RC.cell 1 rfl
        have c2 := RC.cell 2 rfl
        have d0 := RX.cell 0 rfl
        have d1 := RX.cell 1 rfl
        have d2 := RX.cell 2 rfl
        go_wp2
        go_ret
        exact ⟨rfl, B⟩
      | true =>
        obtain ⟨e1, e2, e3⟩ := Ck.c_yes hq e4
        obtain ⟨_, f1, f2, f3, f4⟩ := corr_facts e4
        have E1 : Hid (Ck.CH h v o s a y = a) := e1
        have E2 : Hid (Ck.CV h v o s a y = (Ck.RV h v o s a)) := e2
        have E3 : Hid (Ck.CO h v o s a y = (Ck.OV h v o s a + y)) := e3
        have E4 : Hid (Ck.CB h v o s a y = true) := e4
        have HQ : Hid (Ck.CK h v o s = true) := hq
        have HF : Hid (Ck.FR h v o s a = true ∧ True) := ⟨f1, trivial⟩
        have HG : Hid (Ck.FR a (Ck.RV h v o s a) (Ck.OV h v o s a + y) s a = true ∧ Ck.RV a (Ck.RV h v o s a) (Ck.OV h v o s a + y) s a = Ck.RV h v o s a ∧ Ck.OV a (Ck.RV h v o s a) (Ck.OV h v o s a + y) s a = Ck.OV h v o s a + y) := f2
        clear e1 e2 e3 e4 hq f1 f2
        go_wp2_with fail
        clear c0 c1 c2
        refine (Ck.i_Corrected h v o s a y _).mono ?_
        rintro e w2 ⟨rfl, b⟩
        rw [E4.out]
        rw [E1.out, E2.out, E3.out]
        replace RC := RC.below b
        replace B := B.trans (b.mono B.size)
        clear b
        have b : Below w2.heap.size w2 (w2.alloc (.cells #[.int .i64 a, .int .i64 (Ck.RV h v o s a), .int .i64 (Ck.OV h v o s a + y)] 29)) := (Below.refl _ w2).alloc (Nat.le_refl _) _
        have RX := Rm.Room.new w2 [.int .i64 a, .int .i64 (Ck.RV h v o s a), .int .i64 (Ck.OV h v o s a + y)] 29
        replace RC := RC.below b
        replace B := B.trans (b.mono B.size)
        clear b
        have c0 := RC.cell 0 rfl
        have c1 := RC.cell 1 rfl
        have c2 := RC.cell 2 rfl
        go_wp2_with fail
        clear c0 c1 c2
        refine (Ck.s_Corrected h v o s a y _).mono ?_
        rintro e w3 ⟨rfl, b⟩
        rw [E4.out]
        rw [E1.out, E2.out, E3.out]
        replace RC := RC.below b
        replace RX := RX.below b
        replace B := B.trans (b.mono B.size)
        clear b
        have b : Below w3.heap.size w3 (w3.alloc (.cells #[.int .i64 a, .int .i64 (Ck.RV h v o s a), .int .i64 (Ck.OV h v o s a + y)] 29)) := (Below.refl _ w3).alloc (Nat.le_refl _) _
        have RY := Rm.Room.new w3 [.int .i64 a, .int .i64 (Ck.RV h v o s a), .int .i64 (Ck.OV h v o s a + y)] 29
        replace RC := RC.below b
        replace RX := RX.below b
        replace B := B.trans (b.mono B.size)
        clear b
        go_wp2_with fail
        have da := RC.drew
        have db := RX.drew
        have dc := RY.drew
        have dd := B.drew
        refine wp_region_noPanic ?_
        refine wp_region_held_drew (S := (fun w' => w'.cell? ⟨w1.heap.size, 0, none⟩ = some (.int .i64 h) ∧ w'.cell? ⟨w1.heap.size, 1, none⟩ = some (.int .i64 v) ∧ w'.cell? ⟨w1.heap.size, 2, none⟩ = some (.int .i64 o) ∧ w'.cell? ⟨w2.heap.size, 0, none⟩ = some (.int .i64 a) ∧ w'.cell? ⟨w2.heap.size, 1, none⟩ = some (.int .i64 (Ck.RV h v o s a)) ∧ w'.cell? ⟨w2.heap.size, 2, none⟩ = some (.int .i64 (Ck.OV h v o s a + y)) ∧ w'.cell? ⟨w3.heap.size, 0, none⟩ = some (.int .i64 a) ∧ w'.cell? ⟨w3.heap.size, 1, none⟩ = some (.int .i64 (Ck.RV h v o s a)) ∧ w'.cell? ⟨w3.heap.size, 2, none⟩ = some (.int .i64 (Ck.OV h v o s a + y)) ∧ Hid (Rm.Room w' w1.heap.size [.int .i64 h, .int .i64 v, .int .i64 o] ∧ Rm.Room w' w2.heap.size [.int .i64 a, .int .i64 (Ck.RV h v o s a), .int .i64 (Ck.OV h v o s a + y)] ∧ Rm.Room w' w3.heap.size [.int .i64 a, .int .i64 (Ck.RV h v o s a), .int .i64 (Ck.OV h v o s a + y)] ∧ Below w.heap.size w w'))) (by kernel_rfl) ⟨da.cell 0 rfl, da.cell 1 rfl, da.cell 2 rfl, db.cell 0 rfl, db.cell 1 rfl, db.cell 2 rfl, dc.cell 0 rfl, dc.cell 1 rfl, dc.cell 2 rfl, ⟨da, db, dc, dd⟩⟩ (fun hHeld => ?_)
        refine Tk.W 0 (some 44) (.move (.tmp 8)) 4 none ?_
        refine Tk.W 1 (some 45) (.move (.tmp 10)) 4 none ?_
        refine Tk.W 2 (some 46) (.binOp .neq 4 (.tmp 44) (.tmp 45) 4) 4 none ?_
        refine Tk.W 3 (some 47) (.move (.tmp 46)) 4 none ?_
        refine Tk.W 4 (some 48) (.load 29 (.tmp 7)) 29 (some (3, false)) ?_
        refine Tk.W 5 (some 49) (.load 29 (.tmp 9)) 29 (some (3, false)) ?_
        refine Tk.W 6 (some 50) (.binOp .neq 29 (.tmp 48) (.tmp 49) 29) 4 (some (3, false)) ?_
        refine Tk.W 7 (some 51) (.pick (.tmp 47) (.const (.bool true)) (.tmp 50)) 4 none ?_
        refine Tk.W 8 (some 52) (.move (.tmp 51)) 4 none ?_
        refine Tk.W 9 (some 53) (.load 29 (.tmp 3)) 29 (some (8, false)) ?_
        refine Tk.W 10 (some 54) (.move (.tmp 4)) 2 (some (8, false)) ?_
        refine Tk.W 12 (some 56) (.load 29 (.tmp 3)) 29 (some (8, false)) ?_
        refine Tk.W 13 (some 57) (.move (.tmp 4)) 2 (some (8, false)) ?_
        refine Tk.R 11 (some 55) (.call ⟨.value (.func 24), #[.tmp 53, .tmp 54], #[29, 2]⟩) 4 (some (8, false)) (fun K hK => ?_)
        go_simp
        refine (Ck.i_ClockOk h v o s _).mono ?_
        rintro e vgyes14 ⟨rfl, b_gyes14⟩
        rw [HQ.out]
        have ra_gyes14 := hHeld.2.2.2.2.2.2.2.2.2.out.1.below b_gyes14
        have rb_gyes14 := hHeld.2.2.2.2.2.2.2.2.2.out.2.1.below b_gyes14
        have rc_gyes14 := hHeld.2.2.2.2.2.2.2.2.2.out.2.2.1.below b_gyes14
        have bb_gyes14 := hHeld.2.2.2.2.2.2.2.2.2.out.2.2.2.trans (b_gyes14.mono hHeld.2.2.2.2.2.2.2.2.2.out.2.2.2.size)
        have kvgyes14 := Tk.kv hK (w := vgyes14) ⟨ra_gyes14.cell 0 rfl, ra_gyes14.cell 1 rfl, ra_gyes14.cell 2 rfl, rb_gyes14.cell 0 rfl, rb_gyes14.cell 1 rfl, rb_gyes14.cell 2 rfl, rc_gyes14.cell 0 rfl, rc_gyes14.cell 1 rfl, rc_gyes14.cell 2 rfl, ⟨ra_gyes14, rb_gyes14, rc_gyes14, bb_gyes14⟩⟩
        clear ra_gyes14 rb_gyes14 rc_gyes14 bb_gyes14 b_gyes14
        try dsimp only
        refine hK.out _ _ kvgyes14 ?_; clear hK K hHeld; intro hHeld; try simp only [Act.put, List.setIfInBounds_toArray, List.set_cons_zero, List.set_cons_succ]
        refine Tk.R 14 (some 58) (.call ⟨.value (.func 25), #[.tmp 56, .tmp 57], #[29, 2]⟩) 4 (some (8, false)) (fun K hK => ?_)
        go_simp
        refine (Ck.s_ClockOk h v o s _).mono ?_
        rintro e vgyes15 ⟨rfl, b_gyes15⟩
        rw [HQ.out]
        have ra_gyes15 := hHeld.2.2.2.2.2.2.2.2.2.out.1.below b_gyes15
        have rb_gyes15 := hHeld.2.2.2.2.2.2.2.2.2.out.2.1.below b_gyes15
        have rc_gyes15 := hHeld.2.2.2.2.2.2.2.2.2.out.2.2.1.below b_gyes15
        have bb_gyes15 := hHeld.2.2.2.2.2.2.2.2.2.out.2.2.2.trans (b_gyes15.mono hHeld.2.2.2.2.2.2.2.2.2.out.2.2.2.size)
        have kvgyes15 := Tk.kv hK (w := vgyes15) ⟨ra_gyes15.cell 0 rfl, ra_gyes15.cell 1 rfl, ra_gyes15.cell 2 rfl, rb_gyes15.cell 0 rfl, rb_gyes15.cell 1 rfl, rb_gyes15.cell 2 rfl, rc_gyes15.cell 0 rfl, rc_gyes15.cell 1 rfl, rc_gyes15.cell 2 rfl, ⟨ra_gyes15, rb_gyes15, rc_gyes15, bb_gyes15⟩⟩
        clear ra_gyes15 rb_gyes15 rc_gyes15 bb_gyes15 b_gyes15
        try dsimp only
        refine hK.out _ _ kvgyes15 ?_; clear hK K hHeld; intro hHeld; try simp only [Act.put, List.setIfInBounds_toArray, List.set_cons_zero, List.set_cons_succ]
        refine Tk.W 15 (some 59) (.binOp .neq 4 (.tmp 55) (.tmp 58) 4) 4 (some (8, false)) ?_
        refine Tk.W 16 (some 60) (.pick (.tmp 52) (.const (.bool true)) (.tmp 59)) 4 none ?_
        refine wpAnyH_done (by kernel_rfl) ?_ _
        refine NoPanic.normal ?_
        clear da db dc dd RC RX RY B
        obtain ⟨RC, RX, RY, B⟩ := hHeld.2.2.2.2.2.2.2.2.2.out
        clear hHeld
        have c0 := RC.cell 0 rfl
        have c1 := RC.cell 1 rfl
        have c2 := RC.cell 2 rfl
        go_wp2_with fail
        clear c0 c1 c2
        refine (Ck.i_ReadAt h v o s a _).mono ?_
        rintro e w9 ⟨rfl, b⟩
        rw [HF.out.1]
        replace RC := RC.below b
        replace RX := RX.below b
        replace B := B.trans (b.mono B.size)
        clear b
        have c0 := RX.cell 0 rfl
        have c1 := RX.cell 1 rfl
        have c2 := RX.cell 2 rfl
        go_wp2_with fail
        clear c0 c1 c2
        refine (Ck.i_ReadAt a (Ck.RV h v o s a) (Ck.OV h v o s a + y) s a _).mono ?_
        rintro e w10 ⟨rfl, b⟩
        rw [HG.out.1, HG.out.2.1]
        replace RC := RC.below b
        replace RX := RX.below b
        replace B := B.trans (b.mono B.size)
        clear b
        have c0 := RC.cell 0 rfl
        have c1 := RC.cell 1 rfl
        have c2 := RC.cell 2 rfl
        go_wp2_with fail
        clear c0 c1 c2
        refine (Ck.i_OwedAt h v o s a _).mono ?_
        rintro e w11 ⟨rfl, b⟩
        rw [HF.out.1]
        replace RC := RC.below b
        replace RX := RX.below b
        replace B := B.trans (b.mono B.size)
        clear b
        have c0 := RX.cell 0 rfl
        have c1 := RX.cell 1 rfl
        have c2 := RX.cell 2 rfl
        go_wp2_with fail
        clear c0 c1 c2
        refine (Ck.i_OwedAt a (Ck.RV h v o s a) (Ck.OV h v o s a + y) s a _).mono ?_
        rintro e w12 ⟨rfl, b⟩
        rw [HG.out.1, HG.out.2.2]
        replace RC := RC.below b
        replace RX := RX.below b
        replace B := B.trans (b.mono B.size)
        clear b
        have wr : IntKind.i64.wrap (Ck.OV h v o s a + y) = Ck.OV h v o s a + y := by rw [IntKind.wrap_i64]; omega
        have c0 := RX.cell 0 rfl
        have c1 := RX.cell 1 rfl
        have c2 := RX.cell 2 rfl
        go_wp2
        go_ret
        exact ⟨rfl, B⟩
  · go_enter Try.func5, Try.ntmps5
    go_wp2_with fail
    refine (great a0 len0 cap0 hl _).mono ?_
    rintro e w ⟨rfl, rfl⟩
    go_wp2
    go_ret
    exact ⟨rfl, Below.refl _ _⟩

/-! The row. -/
set_option maxRecDepth 100000 in
theorem lifted (os : Os) (started : os.Started) (H : Type) (enc : TypeId × Value → H) :
    ReturnsInHanded {} Try.checked os 5 .any (Rows.fnCorrectedSpec.pre6 enc Try.prog Try.f5 Rows.fnCorrectedRow.domain false) (Rows.fnCorrectedSpec.post enc Try.prog Try.f5 false true false false) := by
  refine returnsInHanded_of_change (C := Try.checked) own started (by kernel_rfl) Try.func5
    (ChangeSpec.witness6 (enc := enc) (C := Try.checked) false ⟨#[], #[.slice none 0 0], []⟩ 8 (by kernel_rfl) (by kernel_rfl) (by kernel_rfl) (by kernel_rfl)) ?_
  intro W base args ds gs before hval0 hW hcnd _
  have hval : ∀ (j : Nat) t v, Try.f5.params[j]? = some t → args[j]? = some v → Value.okWide Try.prog W .any base t v := hval0
  have hW' := hW
  obtain ⟨p, q, hA0, hV, rfl, hfz, hnd⟩ := hW
  have hA : DataW.TrodAll enc Try.prog W 0 (fun _ => true) true Try.f5.params.toList args.toList ds p := hA0
  rw [Try.params5] at hA hval
  obtain ⟨v0, vs0, d0, ds0, p0, q0, hargs, rfl, rfl, h0, r0⟩ := trodAll_cons hA
  obtain ⟨rfl, rfl, rfl⟩ := trodAll_nil r0
  obtain rfl : args = #[v0] := by cases args; simp_all
  obtain ⟨rfl, rfl⟩ := trodVars_none hV
  obtain ⟨a0, len0, cap0, rfl⟩ := okWide_slice Try.underlying22 (hval 0 22 v0 rfl rfl)
  have k0 := h0
  have lt0 : ∀ x ∈ p0, x.block < W.heap.size := by obtain ⟨m, hm⟩ := k0; exact DataW.trod_lt m _ _ _ hm
  obtain ⟨z0, w0⟩ : ∃ zs, IsRow .u8 W a0 len0 cap0 zs := by
    obtain ⟨fuel, hf⟩ := h0
    rcases open_ints Try.underlying22 Try.underlying5 (by kernel_rfl) hf with ⟨hcs, _⟩ | ⟨x, l, c, zs, hcs, _, hl, hm, hz, _, hcell, hwz⟩
    · simp [Value.cells] at hcs
      obtain ⟨rfl, rfl, rfl⟩ := hcs
      exact ⟨[], .inl ⟨rfl, rfl, rfl, rfl⟩⟩
    · simp [Value.cells] at hcs
      obtain ⟨rfl, rfl, rfl⟩ := hcs
      exact ⟨zs, .inr ⟨_, rfl, hl, hm, by simpa using hz, hcell, hwz⟩⟩
  clear hA0 hval0
  refine (walk a0 len0 cap0 z0 W w0).mono fun e W' ⟨he, bel⟩ => ?_
  subst he
  exact ⟨_, rfl, _, _, _, [], _, [], hW', trodAll_mk1 (shut_bool Try.underlying4 _), (trodAll_cons_mk (Below.trod laidOut (by kernel_rfl) (of_decide_eq_true (by kernel_rfl)) k0 bel lt0) trodAll_mk0), rfl, bel.frame _, fun h => by cases h⟩

theorem over : Rows.fnCorrectedRow.holds Try.pinned (OpenSpec.ofChange Rows.fnCorrectedSpec) :=
  OpenClaim.holds_of_wide 5 Try.f5 rfl rfl rfl rfl rfl rfl rfl ⟨rfl, rfl, rfl, rfl, rfl⟩ rfl rfl rfl rfl rfl (by kernel_rfl) Try.func5 (by kernel_rfl)
    (of_decide_eq_true (by kernel_rfl)) (by unfold Func.isWrapper; first | (rw [if_pos (by decide +kernel)]; kernel_rfl) | (rw [if_neg (by decide +kernel)]; exact ⟨rfl, rfl⟩))
    (fun os started H enc _ => lifted os started H enc)

end Go.Proofs.Ytcgcmceobmpdiaa.fnCorrected

namespace Go.Proofs.Ytcgcmceobmpdiaa
/-- The given statement. -/
theorem fnCorrected_holds : Rows.FnCorrectedSaid := fnCorrected.over
#print axioms fnCorrected_holds
end Go.Proofs.Ytcgcmceobmpdiaa
