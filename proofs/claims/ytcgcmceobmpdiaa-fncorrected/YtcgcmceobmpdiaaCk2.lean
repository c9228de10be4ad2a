/-
  What a clock has paid, what it shows and owes, by both; each writes nothing that was there ahead of it.
-/
import Derived.Test.YtcgcmceobmpdiaaCk
import Derived.Test.YtcgcmceobmpdiaaTk
namespace Go.Proofs.Ytcgcmceobmpdiaa.Ck
open Go.ChangeShapes Go.WideShapes Go.ChangeAt Go.RowKit
open Sp (IN OK LK span retb reti)
open Ad (Tm)
open Rm (Room)
set_option linter.unusedVariables false
set_option linter.unusedSimpArgs false

def AB (n : Int) : Int := if n < 0 then -n else n
theorem ab_neg {n : Int} (h : n < 0) : AB n = -n := if_pos h
theorem ab_pos {n : Int} (h : ¬ n < 0) : AB n = n := if_neg h
theorem ab_bd {n : Int} (h : -1000000000000000 ≤ n ∧ n ≤ 1000000000000000) : 0 ≤ AB n ∧ AB n ≤ 1000000000000000 := by unfold AB; split <;> omega
/-- How much is paid some counts behind, without its sign. -/
def PN (o s e : Int) : Int := min (AB o) (e / s)
def PD (o s e : Int) : Int := if o < 0 then -(PN o s e) else PN o s e
theorem pd_neg {o s e : Int} (h : o < 0) : PD o s e = -(PN o s e) := if_pos h
theorem pd_pos {o s e : Int} (h : ¬ o < 0) : PD o s e = PN o s e := if_neg h
theorem div_bd {e s : Int} (h1 : 0 ≤ e) (h2 : 2 ≤ s) : 0 ≤ e / s ∧ e / s ≤ e := by
  refine ⟨Int.ediv_nonneg h1 (by omega), ?_⟩
  have a := Int.mul_ediv_add_emod e s
  have b := Int.emod_nonneg e (b := s) (by omega)
  have c := Int.ediv_nonneg h1 (show (0 : Int) ≤ s by omega)
  have d : 1 * (e / s) ≤ s * (e / s) := Int.mul_le_mul_of_nonneg_right (by omega) c
  omega
theorem pn_bd {o s e : Int} (h : -1000000000000000 ≤ o ∧ o ≤ 1000000000000000) (h1 : 0 ≤ e) (h2 : 2 ≤ s) : 0 ≤ PN o s e ∧ PN o s e ≤ AB o ∧ PN o s e ≤ e / s := by
  have a := ab_bd h
  have b := div_bd h1 h2
  unfold PN
  omega
theorem pd_bd {o s e : Int} (h : -1000000000000000 ≤ o ∧ o ≤ 1000000000000000) (h1 : 0 ≤ e) (h2 : 2 ≤ s) : -1000000000000000 ≤ PD o s e ∧ PD o s e ≤ 1000000000000000 := by
  have a := ab_bd h
  have b := pn_bd (s := s) h h1 h2
  unfold PD
  split <;> omega
/-- What is owed still is no more than what was owed. -/
theorem rest_bd {o s e : Int} (h : -1000000000000000 ≤ o ∧ o ≤ 1000000000000000) (h1 : 0 ≤ e) (h2 : 2 ≤ s) : -1000000000000000 ≤ o - PD o s e ∧ o - PD o s e ≤ 1000000000000000 := by
  have b := pn_bd (s := s) h h1 h2
  unfold PD
  unfold AB at b
  split
  · rw [if_pos (by assumption)] at b; omega
  · rw [if_neg (by assumption)] at b; omega

theorem i_size (n : Int) (h : -1000000000000000 ≤ n ∧ n ≤ 1000000000000000) (w : World) :
    Calls Try.prog 33 #[.int .i64 n] w fun e w' => e = .returned (.int .u64 (AB n)) ∧ w' = w := by
  by_cases h1 : n < 0
  · rw [ab_neg h1]
    have w1 : wrap64 (-n) = -n := by unfold wrap64; omega
    have w2 : IntKind.u64.wrap (-n) = -n := by rw [IntKind.wrap_u64]; omega
    go_enter Try.func33, Try.ntmps33
    go_wp2
    go_ret
    exact ⟨rfl, rfl⟩
  · rw [ab_pos h1]
    have w2 : IntKind.u64.wrap n = n := by rw [IntKind.wrap_u64]; omega
    go_enter Try.func33, Try.ntmps33
    go_wp2
    go_ret
    exact ⟨rfl, rfl⟩

theorem i_lesser (a b : Int) (w : World) :
    Calls Try.prog 51 #[.int .i64 a, .int .i64 b] w fun e w' => e = .returned (.int .i64 (min a b)) ∧ w' = w := by
  by_cases h : b < a
  · go_enter Try.func51, Try.ntmps51
    go_wp2
    go_ret
    exact ⟨reti (by omega), rfl⟩
  · go_enter Try.func51, Try.ntmps51
    go_wp2
    go_ret
    exact ⟨reti (by omega), rfl⟩

theorem s_abs (n : Int) (h : -1000000000000000 ≤ n ∧ n ≤ 1000000000000000) (w : World) :
    Calls Try.prog 36 #[.int .i64 n] w fun e w' => e = .returned (.int .i64 (AB n)) ∧ w' = w := by
  by_cases h1 : n < 0
  · rw [ab_neg h1]
    have w1 : wrap64 (-n) = -n := by unfold wrap64; omega
    go_enter Try.func36, Try.ntmps36
    go_wp2
    go_ret
    exact ⟨rfl, rfl⟩
  · rw [ab_pos h1]
    go_enter Try.func36, Try.ntmps36
    go_wp2
    go_ret
    exact ⟨rfl, rfl⟩

theorem i_payer (p : Nat) (s : Int) (w : World) :
    Calls Try.prog 44 #[.pointer (some ⟨p, 0, none⟩), .int .i64 s] w fun e w' => (∃ g1 g2, e = .returned (.func (.func 50) #[] #[.pointer (some ⟨g1, 0, none⟩), .pointer (some ⟨g2, 0, none⟩)]) ∧ Room w' g1 [.pointer (some ⟨p, 0, none⟩)] ∧ Room w' g2 [.int .i64 s]) ∧ Below w.heap.size w w' := by
  have hmf : ∀ (fn : Fn) (first cap : Array Value) (w : World), (Instr.makeFunc fn first cap).run Try.prog w = .ok (.func fn first cap) w := fun _ _ _ _ => rfl
  have R1 := (Room.new w [.pointer (some ⟨p, 0, none⟩)] 49).alloc (.cells #[.int .i64 s] 2)
  have R2 : Room ((w.alloc (.cells #[.pointer (some ⟨p, 0, none⟩)] 49)).alloc (.cells #[.int .i64 s] 2)) (w.heap.size + 1) [.int .i64 s] := Room.at _ [.int .i64 s] 2 _ (by simp)
  have B2 := ((Below.refl w.heap.size w).alloc (Nat.le_refl _) (.cells #[.pointer (some ⟨p, 0, none⟩)] 49)).alloc (by simp) (.cells #[.int .i64 s] 2)
  go_enter Try.func44, Try.ntmps44
  go_wp2
  go_ret
  exact ⟨⟨_, _, rfl, R1, R2⟩, B2⟩

set_option maxHeartbeats 4000000 in
theorem i_paid (p g1 g2 : Nat) (h v o s e : Int) (w : World) (R1 : Room w g1 [.pointer (some ⟨p, 0, none⟩)]) (R2 : Room w g2 [.int .i64 s]) (R3 : Room w p (c3 h v o)) (ho : -1000000000000000 ≤ o ∧ o ≤ 1000000000000000) (hs : 2 ≤ s) (h0 : 0 ≤ e) (he : e ≤ 1000000000000000) :
    Calls Try.prog 50 #[.int .i64 e, .pointer (some ⟨g1, 0, none⟩), .pointer (some ⟨g2, 0, none⟩)] w fun e' w' => e' = .returned (.int .i64 (PD o s e)) ∧ Below w.heap.size w w' := by
  have ha := ab_bd ho
  have hd := div_bd h0 hs
  have hn := pn_bd (s := s) ho h0 hs
  have BB := Below.refl w.heap.size w
  obtain ⟨A, eA⟩ : ∃ A, AB o = A := ⟨_, rfl⟩
  obtain ⟨D, eD⟩ : ∃ D, e / s = D := ⟨_, rfl⟩
  obtain ⟨PP, eP⟩ : ∃ P, PN o s e = P := ⟨_, rfl⟩
  have HA : Hid (AB o = A) := eA
  have HP : Hid (PN o s e = PP) := eP
  have HN : Hid (min A D = PP) := by rw [← eA, ← eD, ← eP]; rfl
  have hq : e.tdiv s = D := by rw [Int.tdiv_eq_ediv_of_nonneg h0]; exact eD
  rw [eA] at ha hn
  rw [eD] at hd hn
  rw [eP] at hn
  clear eA eD eP
  have w1 : IntKind.i64.wrap A = A := by rw [IntKind.wrap_i64]; omega
  have w2 : IntKind.i64.wrap D = D := by rw [IntKind.wrap_i64]; omega
  have w3 : IntKind.i64.wrap (-PP) = -PP := by rw [IntKind.wrap_i64]; omega
  have hs0 : s ≠ 0 := by omega
  have R1d := R1.drew
  have R2d := R2.drew
  have R3d := R3.drew
  have BBd := BB.drew
  by_cases h1 : o < 0
  · go_enter Try.func50, Try.ntmps50
    go_wp2_with fail
    refine wp_region_noPanic ?_
    refine wp_region_held_drew (S := (fun w' => w'.cell? ⟨g1, 0, none⟩ = some (.pointer (some ⟨p, 0, none⟩)) ∧ w'.cell? ⟨g2, 0, none⟩ = some (.int .i64 s) ∧ w'.cell? ⟨p, 0, none⟩ = some (.int .i64 h) ∧ w'.cell? ⟨p, 1, none⟩ = some (.int .i64 v) ∧ w'.cell? ⟨p, 2, none⟩ = some (.int .i64 o) ∧ Hid (Room w' g1 [.pointer (some ⟨p, 0, none⟩)] ∧ Room w' g2 [.int .i64 s] ∧ Room w' p (c3 h v o) ∧ Below w.heap.size w w'))) (by kernel_rfl) ⟨R1d.cell 0 rfl, R2d.cell 0 rfl, R3d.cell 0 rfl, R3d.cell 1 rfl, R3d.cell 2 rfl, ⟨R1d, R2d, R3d, BBd⟩⟩ (fun hHeld => ?_)
    refine Tk.W 0 (some 6) (.load 49 (.tmp 1)) 49 none ?_
    refine Tk.W 1 (some 7) (.nilCheck (.tmp 6)) 0 none ?_
    refine Tk.W 2 (some 8) (.fieldAddr 29 (.tmp 7) 2) 0 none ?_
    refine Tk.W 3 (some 9) (.load 2 (.tmp 8)) 2 none ?_
    refine Tk.W 6 (some 12) (.move (.tmp 0)) 2 none ?_
    refine Tk.W 7 (some 13) (.load 2 (.tmp 2)) 2 none ?_
    refine Tk.W 8 (some 14) (.binOp .quo 2 (.tmp 12) (.tmp 13) 2) 2 none ?_
    refine Tk.R 4 (some 10) (.call ⟨.value (.func 33), #[.tmp 9], #[2]⟩) 26 none (fun K hK => ?_)
    go_simp
    refine (i_size o ho _).mono ?_
    rintro e vp8 ⟨rfl, e_p8⟩
    subst e_p8
    rw [HA.out]
    have kvp8 : (fun w' => w'.cell? ⟨g1, 0, none⟩ = some (.pointer (some ⟨p, 0, none⟩)) ∧ w'.cell? ⟨g2, 0, none⟩ = some (.int .i64 s) ∧ w'.cell? ⟨p, 0, none⟩ = some (.int .i64 h) ∧ w'.cell? ⟨p, 1, none⟩ = some (.int .i64 v) ∧ w'.cell? ⟨p, 2, none⟩ = some (.int .i64 o) ∧ Hid (Room w' g1 [.pointer (some ⟨p, 0, none⟩)] ∧ Room w' g2 [.int .i64 s] ∧ Room w' p (c3 h v o) ∧ Below w.heap.size w w')) _ := hHeld
    try dsimp only
    refine hK.out _ _ kvp8 ?_; clear hK K hHeld; intro hHeld; try simp only [Act.put, List.setIfInBounds_toArray, List.set_cons_zero, List.set_cons_succ]
    refine Tk.W 5 (some 11) (.convert 26 2 (.tmp 10)) 2 none ?_
    refine Tk.R 9 (some 15) (.call ⟨.value (.func 51), #[.tmp 11, .tmp 14], #[2, 2]⟩) 2 none (fun K hK => ?_)
    go_simp
    refine (i_lesser A D _).mono ?_
    rintro e vp10 ⟨rfl, e_p10⟩
    subst e_p10
    rw [HN.out]
    have kvp10 : (fun w' => w'.cell? ⟨g1, 0, none⟩ = some (.pointer (some ⟨p, 0, none⟩)) ∧ w'.cell? ⟨g2, 0, none⟩ = some (.int .i64 s) ∧ w'.cell? ⟨p, 0, none⟩ = some (.int .i64 h) ∧ w'.cell? ⟨p, 1, none⟩ = some (.int .i64 v) ∧ w'.cell? ⟨p, 2, none⟩ = some (.int .i64 o) ∧ Hid (Room w' g1 [.pointer (some ⟨p, 0, none⟩)] ∧ Room w' g2 [.int .i64 s] ∧ Room w' p (c3 h v o) ∧ Below w.heap.size w w')) _ := hHeld
    try dsimp only
    refine hK.out _ _ kvp10 ?_; clear hK K hHeld; intro hHeld; try simp only [Act.put, List.setIfInBounds_toArray, List.set_cons_zero, List.set_cons_succ]
    refine Tk.W 10 (some 5) (.assign (.tmp 15)) 2 none ?_
    refine wpAnyH_done (by kernel_rfl) ?_ _
    refine NoPanic.normal ?_
    clear R1 R2 R3 BB R1d R2d R3d BBd
    obtain ⟨R1, R2, R3, BB⟩ := hHeld.2.2.2.2.2.out
    clear hHeld
    have c1 := R1.cell 0 rfl
    have c3 := R3.cell 2 rfl
    go_wp2
    go_ret
    exact ⟨reti (by rw [pd_neg h1, HP.out]), BB⟩
  · go_enter Try.func50, Try.ntmps50
    go_wp2_with fail
    refine wp_region_noPanic ?_
    refine wp_region_held_drew (S := (fun w' => w'.cell? ⟨g1, 0, none⟩ = some (.pointer (some ⟨p, 0, none⟩)) ∧ w'.cell? ⟨g2, 0, none⟩ = some (.int .i64 s) ∧ w'.cell? ⟨p, 0, none⟩ = some (.int .i64 h) ∧ w'.cell? ⟨p, 1, none⟩ = some (.int .i64 v) ∧ w'.cell? ⟨p, 2, none⟩ = some (.int .i64 o) ∧ Hid (Room w' g1 [.pointer (some ⟨p, 0, none⟩)] ∧ Room w' g2 [.int .i64 s] ∧ Room w' p (c3 h v o) ∧ Below w.heap.size w w'))) (by kernel_rfl) ⟨R1d.cell 0 rfl, R2d.cell 0 rfl, R3d.cell 0 rfl, R3d.cell 1 rfl, R3d.cell 2 rfl, ⟨R1d, R2d, R3d, BBd⟩⟩ (fun hHeld => ?_)
    refine Tk.W 0 (some 6) (.load 49 (.tmp 1)) 49 none ?_
    refine Tk.W 1 (some 7) (.nilCheck (.tmp 6)) 0 none ?_
    refine Tk.W 2 (some 8) (.fieldAddr 29 (.tmp 7) 2) 0 none ?_
    refine Tk.W 3 (some 9) (.load 2 (.tmp 8)) 2 none ?_
    refine Tk.W 6 (some 12) (.move (.tmp 0)) 2 none ?_
    refine Tk.W 7 (some 13) (.load 2 (.tmp 2)) 2 none ?_
    refine Tk.W 8 (some 14) (.binOp .quo 2 (.tmp 12) (.tmp 13) 2) 2 none ?_
    refine Tk.R 4 (some 10) (.call ⟨.value (.func 33), #[.tmp 9], #[2]⟩) 26 none (fun K hK => ?_)
    go_simp
    refine (i_size o ho _).mono ?_
    rintro e vp8 ⟨rfl, e_p8⟩
    subst e_p8
    rw [HA.out]
    have kvp8 : (fun w' => w'.cell? ⟨g1, 0, none⟩ = some (.pointer (some ⟨p, 0, none⟩)) ∧ w'.cell? ⟨g2, 0, none⟩ = some (.int .i64 s) ∧ w'.cell? ⟨p, 0, none⟩ = some (.int .i64 h) ∧ w'.cell? ⟨p, 1, none⟩ = some (.int .i64 v) ∧ w'.cell? ⟨p, 2, none⟩ = some (.int .i64 o) ∧ Hid (Room w' g1 [.pointer (some ⟨p, 0, none⟩)] ∧ Room w' g2 [.int .i64 s] ∧ Room w' p (c3 h v o) ∧ Below w.heap.size w w')) _ := hHeld
    try dsimp only
    refine hK.out _ _ kvp8 ?_; clear hK K hHeld; intro hHeld; try simp only [Act.put, List.setIfInBounds_toArray, List.set_cons_zero, List.set_cons_succ]
    refine Tk.W 5 (some 11) (.convert 26 2 (.tmp 10)) 2 none ?_
    refine Tk.R 9 (some 15) (.call ⟨.value (.func 51), #[.tmp 11, .tmp 14], #[2, 2]⟩) 2 none (fun K hK => ?_)
    go_simp
    refine (i_lesser A D _).mono ?_
    rintro e vp10 ⟨rfl, e_p10⟩
    subst e_p10
    rw [HN.out]
    have kvp10 : (fun w' => w'.cell? ⟨g1, 0, none⟩ = some (.pointer (some ⟨p, 0, none⟩)) ∧ w'.cell? ⟨g2, 0, none⟩ = some (.int .i64 s) ∧ w'.cell? ⟨p, 0, none⟩ = some (.int .i64 h) ∧ w'.cell? ⟨p, 1, none⟩ = some (.int .i64 v) ∧ w'.cell? ⟨p, 2, none⟩ = some (.int .i64 o) ∧ Hid (Room w' g1 [.pointer (some ⟨p, 0, none⟩)] ∧ Room w' g2 [.int .i64 s] ∧ Room w' p (c3 h v o) ∧ Below w.heap.size w w')) _ := hHeld
    try dsimp only
    refine hK.out _ _ kvp10 ?_; clear hK K hHeld; intro hHeld; try simp only [Act.put, List.setIfInBounds_toArray, List.set_cons_zero, List.set_cons_succ]
    refine Tk.W 10 (some 5) (.assign (.tmp 15)) 2 none ?_
    refine wpAnyH_done (by kernel_rfl) ?_ _
    refine NoPanic.normal ?_
    clear R1 R2 R3 BB R1d R2d R3d BBd
    obtain ⟨R1, R2, R3, BB⟩ := hHeld.2.2.2.2.2.out
    clear hHeld
    have c1 := R1.cell 0 rfl
    have c3 := R3.cell 2 rfl
    go_wp2
    go_ret
    exact ⟨reti (by rw [pd_pos (by omega), HP.out]), BB⟩

set_option maxHeartbeats 4000000 in
theorem s_paid (h v o s e : Int) (w : World) (ho : -1000000000000000 ≤ o ∧ o ≤ 1000000000000000) (hs : 2 ≤ s) (h0 : 0 ≤ e) (he : e ≤ 1000000000000000) :
    Calls Try.prog 31 #[clk h v o, .int .i64 s, .int .i64 e] w fun e' w' => e' = .returned (.int .i64 (PD o s e)) ∧ Below w.heap.size w w' := by
  have R1 := Room.new w (c3 h v o) 29
  have BB := (Below.refl w.heap.size w).alloc (Nat.le_refl _) (.cells #[.int .i64 h, .int .i64 v, .int .i64 o] 29)
  have ha := ab_bd ho
  have hd := div_bd h0 hs
  have hn := pn_bd (s := s) ho h0 hs
  obtain ⟨A, eA⟩ : ∃ A, AB o = A := ⟨_, rfl⟩
  obtain ⟨D, eD⟩ : ∃ D, e / s = D := ⟨_, rfl⟩
  obtain ⟨PP, eP⟩ : ∃ P, PN o s e = P := ⟨_, rfl⟩
  have HA : Hid (AB o = A) := eA
  have HP : Hid (PN o s e = PP) := eP
  have HN : Hid (min A D = PP) := by rw [← eA, ← eD, ← eP]; rfl
  have hq : e.tdiv s = D := by rw [Int.tdiv_eq_ediv_of_nonneg h0]; exact eD
  rw [eA] at ha hn
  rw [eD] at hd hn
  rw [eP] at hn
  clear eA eD eP
  have w1 : IntKind.i64.wrap A = A := by rw [IntKind.wrap_i64]; omega
  have w2 : IntKind.i64.wrap D = D := by rw [IntKind.wrap_i64]; omega
  have w3 : IntKind.i64.wrap (-PP) = -PP := by rw [IntKind.wrap_i64]; omega
  have hs0 : s ≠ 0 := by omega
  have R1d := R1.drew
  have BBd := BB.drew
  by_cases h1 : o < 0
  · go_enter Try.func31, Try.ntmps31
    go_wp2_with fail
    refine wp_region_noPanic ?_
    refine wp_region_held_drew (S := (fun w' => w'.cell? ⟨w.heap.size, 0, none⟩ = some (.int .i64 h) ∧ w'.cell? ⟨w.heap.size, 1, none⟩ = some (.int .i64 v) ∧ w'.cell? ⟨w.heap.size, 2, none⟩ = some (.int .i64 o) ∧ Hid (Room w' w.heap.size (c3 h v o) ∧ Below w.heap.size w w'))) (by kernel_rfl) ⟨R1d.cell 0 rfl, R1d.cell 1 rfl, R1d.cell 2 rfl, ⟨R1d, BBd⟩⟩ (fun hHeld => ?_)
    refine Tk.W 0 (some 8) (.fieldAddr 29 (.tmp 3) 2) 0 none ?_
    refine Tk.W 1 (some 9) (.load 2 (.tmp 8)) 2 none ?_
    refine Tk.W 3 (some 11) (.move (.tmp 2)) 2 none ?_
    refine Tk.W 4 (some 12) (.move (.tmp 1)) 2 none ?_
    refine Tk.W 5 (some 13) (.binOp .quo 2 (.tmp 11) (.tmp 12) 2) 2 none ?_
    refine Tk.R 2 (some 10) (.call ⟨.value (.func 36), #[.tmp 9], #[2]⟩) 2 none (fun K hK => ?_)
    go_simp
    refine (s_abs o ho _).mono ?_
    rintro e vs6 ⟨rfl, e_s6⟩
    subst e_s6
    rw [HA.out]
    have kvs6 : (fun w' => w'.cell? ⟨w.heap.size, 0, none⟩ = some (.int .i64 h) ∧ w'.cell? ⟨w.heap.size, 1, none⟩ = some (.int .i64 v) ∧ w'.cell? ⟨w.heap.size, 2, none⟩ = some (.int .i64 o) ∧ Hid (Room w' w.heap.size (c3 h v o) ∧ Below w.heap.size w w')) _ := hHeld
    try dsimp only
    refine hK.out _ _ kvs6 ?_; clear hK K hHeld; intro hHeld; try simp only [Act.put, List.setIfInBounds_toArray, List.set_cons_zero, List.set_cons_succ]
    refine Tk.R 6 (some 14) (.call ⟨.value (.func 45), #[.tmp 10, .tmp 13], #[2, 2]⟩) 2 none (fun K hK => ?_)
    go_simp
    refine (Sp.l1Min A D _).mono ?_
    rintro e vs7 ⟨rfl, e_s7⟩
    subst e_s7
    rw [HN.out]
    have kvs7 : (fun w' => w'.cell? ⟨w.heap.size, 0, none⟩ = some (.int .i64 h) ∧ w'.cell? ⟨w.heap.size, 1, none⟩ = some (.int .i64 v) ∧ w'.cell? ⟨w.heap.size, 2, none⟩ = some (.int .i64 o) ∧ Hid (Room w' w.heap.size (c3 h v o) ∧ Below w.heap.size w w')) _ := hHeld
    try dsimp only
    refine hK.out _ _ kvs7 ?_; clear hK K hHeld; intro hHeld; try simp only [Act.put, List.setIfInBounds_toArray, List.set_cons_zero, List.set_cons_succ]
    refine Tk.W 7 (some 7) (.assign (.tmp 14)) 2 none ?_
    refine wpAnyH_done (by kernel_rfl) ?_ _
    refine NoPanic.normal ?_
    clear R1 BB R1d BBd
    obtain ⟨R1, BB⟩ := hHeld.2.2.2.out
    clear hHeld
    have c3 := R1.cell 2 rfl
    go_wp2
    go_ret
    exact ⟨reti (by rw [pd_neg h1, HP.out]), BB⟩
  · go_enter Try.func31, Try.ntmps31
    go_wp2_with fail
    refine wp_region_noPanic ?_
    refine wp_region_held_drew (S := (fun w' => w'.cell? ⟨w.heap.size, 0, none⟩ = some (.int .i64 h) ∧ w'.cell? ⟨w.heap.size, 1, none⟩ = some (.int .i64 v) ∧ w'.cell? ⟨w.heap.size, 2, none⟩ = some (.int .i64 o) ∧ Hid (Room w' w.heap.size (c3 h v o) ∧ Below w.heap.size w w'))) (by kernel_rfl) ⟨R1d.cell 0 rfl, R1d.cell 1 rfl, R1d.cell 2 rfl, ⟨R1d, BBd⟩⟩ (fun hHeld => ?_)
    refine Tk.W 0 (some 8) (.fieldAddr 29 (.tmp 3) 2) 0 none ?_
    refine Tk.W 1 (some 9) (.load 2 (.tmp 8)) 2 none ?_
    refine Tk.W 3 (some 11) (.move (.tmp 2)) 2 none ?_
    refine Tk.W 4 (some 12) (.move (.tmp 1)) 2 none ?_
    refine Tk.W 5 (some 13) (.binOp .quo 2 (.tmp 11) (.tmp 12) 2) 2 none ?_
    refine Tk.R 2 (some 10) (.call ⟨.value (.func 36), #[.tmp 9], #[2]⟩) 2 none (fun K hK => ?_)
    go_simp
    refine (s_abs o ho _).mono ?_
    rintro e vs6 ⟨rfl, e_s6⟩
    subst e_s6
    rw [HA.out]
    have kvs6 : (fun w' => w'.cell? ⟨w.heap.size, 0, none⟩ = some (.int .i64 h) ∧ w'.cell? ⟨w.heap.size, 1, none⟩ = some (.int .i64 v) ∧ w'.cell? ⟨w.heap.size, 2, none⟩ = some (.int .i64 o) ∧ Hid (Room w' w.heap.size (c3 h v o) ∧ Below w.heap.size w w')) _ := hHeld
    try dsimp only
    refine hK.out _ _ kvs6 ?_; clear hK K hHeld; intro hHeld; try simp only [Act.put, List.setIfInBounds_toArray, List.set_cons_zero, List.set_cons_succ]
    refine Tk.R 6 (some 14) (.call ⟨.value (.func 45), #[.tmp 10, .tmp 13], #[2, 2]⟩) 2 none (fun K hK => ?_)
    go_simp
    refine (Sp.l1Min A D _).mono ?_
    rintro e vs7 ⟨rfl, e_s7⟩
    subst e_s7
    rw [HN.out]
    have kvs7 : (fun w' => w'.cell? ⟨w.heap.size, 0, none⟩ = some (.int .i64 h) ∧ w'.cell? ⟨w.heap.size, 1, none⟩ = some (.int .i64 v) ∧ w'.cell? ⟨w.heap.size, 2, none⟩ = some (.int .i64 o) ∧ Hid (Room w' w.heap.size (c3 h v o) ∧ Below w.heap.size w w')) _ := hHeld
    try dsimp only
    refine hK.out _ _ kvs7 ?_; clear hK K hHeld; intro hHeld; try simp only [Act.put, List.setIfInBounds_toArray, List.set_cons_zero, List.set_cons_succ]
    refine Tk.W 7 (some 7) (.assign (.tmp 14)) 2 none ?_
    refine wpAnyH_done (by kernel_rfl) ?_ _
    refine NoPanic.normal ?_
    clear R1 BB R1d BBd
    obtain ⟨R1, BB⟩ := hHeld.2.2.2.out
    clear hHeld
    have c3 := R1.cell 2 rfl
    go_wp2
    go_ret
    exact ⟨reti (by rw [pd_pos (by omega), HP.out]), BB⟩

end Go.Proofs.Ytcgcmceobmpdiaa.Ck
