/-
  A config drawn, right or not (spec.l4DrawAny, spec.DrawCodeOf): each returns, and writes nothing that was there ahead of it but its cursor.
-/
import Derived.Test.YtloicicgcdfgnaaDrawCfg
import Derived.Test.YtloicicgcdfgnaaTk
namespace Go.Proofs.Ytloicicgcdfgnaa.Dr
open Go.ChangeShapes Go.WideShapes Go.ChangeAt Go.RowKit
open Cf (cfg CP CR AM N1 L1 R1 P1)
set_option linter.unusedVariables false
set_option linter.unusedSimpArgs false

theorem l4Draw' (w0 : World) (B p : Nat) (a : Option Addr) (len cap : Nat) (w : World) (st : St w0 B p a len cap w) :
    Calls Try.prog 142 #[.pointer (some ⟨p, 0, none⟩)] w fun e w' => (∃ n l d r q s : Int, e = .returned (cfg n l d r q s) ∧ Hid (CP n l d r q s = 0)) ∧ St w0 B p a len cap w' ∧ Step p w w' :=
  (l4Draw w B p a len cap w st.here).mono fun e w' ⟨h, s⟩ => ⟨h, St.on st.step s, s.step⟩

def K5 (w0 : World) (B p : Nat) (a : Option Addr) (len cap : Nat) (X R : Nat) (n l d r s : Int) (w' : World) : Prop :=
  w'.cell? ⟨X, 5, none⟩ = some (.int .i64 s) ∧ Hid (St w0 B p a len cap w' ∧ (∃ q : Int, Room w' X (nums n l d r q s)) ∧ Room w' R zeros ∧ X < w'.heap.size)
section
variable {w0 : World} {B p : Nat} {a : Option Addr} {len cap : Nat} {X R : Nat} {n l d r q s : Int} {w w' : World}
theorem k5 (h1 : St w0 B p a len cap w) (h2 : Room w X (nums n l d r q s)) (h3 : Room w R zeros) (h4 : X < w.heap.size) : K5 w0 B p a len cap X R n l d r s w :=
  ⟨h2.cell 5 rfl, h1, ⟨q, h2⟩, h3, h4⟩
theorem K5.all (k : K5 w0 B p a len cap X R n l d r s w) : St w0 B p a len cap w ∧ (∃ q : Int, Room w X (nums n l d r q s)) ∧ Room w R zeros ∧ X < w.heap.size := k.2.out
theorem k5.below (k : K5 w0 B p a len cap X R n l d r s w) (hb : Below w.heap.size w w') : K5 w0 B p a len cap X R n l d r s w' := by
  obtain ⟨h1, ⟨q, h2⟩, h3, h4⟩ := k.all
  exact k5 (h1.below hb) (h2.below hb) (h3.below hb) (Nat.lt_of_lt_of_le h4 hb.size)
theorem k5.drew (k : K5 w0 B p a len cap X R n l d r s w) : K5 w0 B p a len cap X R n l d r s w.drew := by
  obtain ⟨h1, ⟨q, h2⟩, h3, h4⟩ := k.all
  exact k5 h1.drew' h2.drew h3.drew h4
theorem k5.step (k : K5 w0 B p a len cap X R n l d r s w) (st : St w0 B p a len cap w') (st2 : Step p w w') (hx : X ≠ p) (hr : R ≠ p) : K5 w0 B p a len cap X R n l d r s w' := by
  obtain ⟨h1, ⟨q, h2⟩, h3, h4⟩ := k.all
  exact k5 st (h2.step st2 hx) (h3.step st2 hr) (Nat.lt_of_lt_of_le h4 st2.size)
theorem k5.obj (k : K5 w0 B p a len cap X R n l d r s w) (o : Obj) : K5 w0 B p a len cap X R n l d r s (w.alloc o) := by
  obtain ⟨h1, ⟨q, h2⟩, h3, h4⟩ := k.all
  exact k5 (h1.obj o) (h2.alloc o) (h3.alloc o) (by simp; omega)
theorem k5.store (k : K5 w0 B p a len cap X R n l d r s w) (hx : w0.heap.size ≤ X) (hp : X ≠ p) (hB : B ≤ X) (hr : X ≠ R) (v : Int) : K5 w0 B p a len cap X R n l d r s (w.setCell ⟨X, 4, none⟩ (.int .i64 v)) := by
  obtain ⟨h1, ⟨q, h2⟩, h3, h4⟩ := k.all
  exact k5 (h1.setNew 4 hx hp hB _) (h2.set 4 (.int .i64 v)) (h3.setOther hr 4 _) (by simpa [World.setCell] using h4)
end
def Lit5 (w : World) (g : Nat) : Prop := g < w.heap.size ∧ ∀ j, j < 5 → ∃ v : Int, w.cell? ⟨g, j, none⟩ = some (.int .i64 v)
theorem lit5 (w : World) (a b c d e : Int) (t : TypeId) : Lit5 (w.alloc (.cells #[.int .i64 a, .int .i64 b, .int .i64 c, .int .i64 d, .int .i64 e] t)) w.heap.size := by
  refine ⟨by simp, fun j hj => ?_⟩
  rw [World.cell?_alloc_new]
  rcases (show j = 0 ∨ j = 1 ∨ j = 2 ∨ j = 3 ∨ j = 4 by omega) with rfl | rfl | rfl | rfl | rfl
  all_goals exact ⟨_, rfl⟩
theorem Lit5.step {p : Nat} {w w' : World} {g : Nat} (h : Lit5 w g) (s : Step p w w') (hn : g ≠ p) : Lit5 w' g :=
  ⟨Nat.lt_of_lt_of_le h.1 s.size, fun j hj => by
    obtain ⟨v, hv⟩ := h.2 j hj
    exact ⟨v, by rw [s.cell h.1 hn]; exact hv⟩⟩

set_option maxHeartbeats 8000000 in
set_option maxRecDepth 100000 in
theorem l4DrawAny (w0 : World) (B p : Nat) (a : Option Addr) (len cap : Nat) (w : World) (st : St w0 B p a len cap w) :
    Calls Try.prog 118 #[.pointer (some ⟨p, 0, none⟩)] w fun e w' => (∃ n l d r q s : Int, e = .returned (cfg n l d r q s)) ∧ St w0 B p a len cap w' := by
  have hp := st.lt
  have hB := st.le
  have h0 := st.step.size
  have stA := st.obj (.cells zeros.toArray 28)
  have hR0 := Room.new w zeros 28
  go_enter Try.func118, Try.ntmps118
  go_wp2_with fail
  refine (l4Draw' w0 B p a len cap _ stA).mono ?_
  rintro e w1 ⟨⟨n, l, d, r, q, s, rfl, HC⟩, st1, s1⟩
  have z1 := s1.size
  (try simp at z1)
  have hR1 := hR0.step s1 (by omega)
  have hx1 := st1.lt
  have stX := st1.obj (.cells (nums n l d r q s).toArray 28)
  have hX0 := Room.new w1 (nums n l d r q s) 28
  have hR2 := hR1.alloc (.cells (nums n l d r q s).toArray 28)
  clear stA hR0 hR1 s1
  go_wp2_with fail
  refine (l1Once' w0 B p a len cap 4 (by omega) (by omega) _ stX).mono ?_
  rintro e w2 ⟨⟨t, rfl⟩, st2, s2⟩
  have z2 := s2.size
  (try simp at z2)
  have hR3 := hR2.step s2 (by omega)
  have hX1 := hX0.step s2 (by omega)
  clear hR2 hX0 stX s2 st1
  go_upto_if 7 with fail
  go_cut [3] (fun p3 wc => p3 = .pointer (some ⟨w1.heap.size, 0, none⟩) ∧ w1.heap.size < wc.heap.size ∧ ∃ n l d r q s : Int, Hid (St w0 B p a len cap wc ∧ Room wc w1.heap.size (nums n l d r q s) ∧ Room wc w.heap.size zeros))
  case first =>
    cases t with
    | false =>
      go_wp2_with fail
      go_meet
      case rel => exact ⟨rfl, by omega, n, l, d, r, q, s, st2, hX1, hR3⟩
    | true =>
      go_wp2_with fail
      refine (l1Below' w0 B p a len cap 6 (by omega) (by omega) _ st2).mono ?_
      rintro e w3 ⟨⟨k, rfl, k0, k1⟩, st3, s3⟩
      have z3 := s3.size
      (try simp at z3)
      have hR4 := hR3.step s3 (by omega)
      have hX2 := hX1.step s3 (by omega)
      clear hR3 hX1 s3 st2
      by_cases h0 : k = 0
      · subst h0
        go_wp2_with fail
        refine (l1Num' w0 B p a len cap 16 (by omega) (by omega) _ st3).mono ?_
        rintro e w4 ⟨⟨m, rfl⟩, st4, s4⟩
        have z4 := s4.size
        have hR5 := hR4.step s4 (by omega)
        have hX3 := hX2.step s4 (by omega)
        have y := hX3.cell 0 rfl
        have g := hX3.froz 0 rfl
        go_wp2_with fail
        go_meet
        case rel => exact ⟨rfl, by simp [World.setCell]; omega, m, l, d, r, q, s, st4.setNew 0 (by omega) (by omega) (by omega) _, hX3.set 0 _, hR5.setOther (by omega) 0 _⟩
      · have n0 : (k == 0) = false := by simp; omega
        by_cases h1 : k = 1
        · subst h1
          go_wp2_with fail
          refine (l1Num' w0 B p a len cap 5 (by omega) (by omega) _ st3).mono ?_
          rintro e w4 ⟨⟨m, rfl⟩, st4, s4⟩
          have z4 := s4.size
          have hR5 := hR4.step s4 (by omega)
          have hX3 := hX2.step s4 (by omega)
          have y := hX3.cell 1 rfl
          have g := hX3.froz 1 rfl
          go_wp2_with fail
          go_meet
          case rel => exact ⟨rfl, by simp [World.setCell]; omega, n, m, d, r, q, s, st4.setNew 1 (by omega) (by omega) (by omega) _, hX3.set 1 _, hR5.setOther (by omega) 1 _⟩
        · have n1 : (k == 1) = false := by simp; omega
          by_cases h2 : k = 2
          · subst h2
            go_wp2_with fail
            refine (l1Num' w0 B p a len cap 1000000 (by omega) (by omega) _ st3).mono ?_
            rintro e w4 ⟨⟨m, rfl⟩, st4, s4⟩
            have z4 := s4.size
            have hR5 := hR4.step s4 (by omega)
            have hX3 := hX2.step s4 (by omega)
            have y := hX3.cell 2 rfl
            have g := hX3.froz 2 rfl
            go_wp2_with fail
            go_meet
            case rel => exact ⟨rfl, by simp [World.setCell]; omega, n, l, m, r, q, s, st4.setNew 2 (by omega) (by omega) (by omega) _, hX3.set 2 _, hR5.setOther (by omega) 2 _⟩
          · have n2 : (k == 2) = false := by simp; omega
            by_cases h3 : k = 3
            · subst h3
              go_wp2_with fail
              refine (l1Num' w0 B p a len cap 1000000 (by omega) (by omega) _ st3).mono ?_
              rintro e w4 ⟨⟨m, rfl⟩, st4, s4⟩
              have z4 := s4.size
              have hR5 := hR4.step s4 (by omega)
              have hX3 := hX2.step s4 (by omega)
              have y := hX3.cell 3 rfl
              have g := hX3.froz 3 rfl
              go_wp2_with fail
              go_meet
              case rel => exact ⟨rfl, by simp [World.setCell]; omega, n, l, d, m, q, s, st4.setNew 3 (by omega) (by omega) (by omega) _, hX3.set 3 _, hR5.setOther (by omega) 3 _⟩
            · have n3 : (k == 3) = false := by simp; omega
              by_cases h4 : k = 4
              · subst h4
                go_wp2_with fail
                refine (l1Num' w0 B p a len cap 100000 (by omega) (by omega) _ st3).mono ?_
                rintro e w4 ⟨⟨m, rfl⟩, st4, s4⟩
                have z4 := s4.size
                have hR5 := hR4.step s4 (by omega)
                have hX3 := hX2.step s4 (by omega)
                have y := hX3.cell 5 rfl
                have g := hX3.froz 5 rfl
                go_wp2_with fail
                go_meet
                case rel => exact ⟨rfl, by simp [World.setCell]; omega, n, l, d, r, q, m, st4.setNew 5 (by omega) (by omega) (by omega) _, hX3.set 5 _, hR5.setOther (by omega) 5 _⟩
              · have n4 : (k == 4) = false := by simp; omega
                have h5 : k = 5 := by omega
                subst h5
                obtain ⟨G, hG⟩ : ∃ G, AM n l d r s = G := ⟨_, rfl⟩
                have hz3 : w1.heap.size < w3.heap.size := by omega
                have S0 := k5 st3 hX2 hR4 hz3
                have y0 := hX2.cell 0 rfl
                have y1 := hX2.cell 1 rfl
                have y2 := hX2.cell 2 rfl
                have y3 := hX2.cell 3 rfl
                have y4 := hX2.cell 4 rfl
                have y5 := hX2.cell 5 rfl
                clear st3 hX2 hR4 hz3
                go_wp2_with fail
                refine wp_region_noPanic ?_
                refine wp_region_held_drew (S := (fun w' => w'.cell? ⟨w1.heap.size, 5, none⟩ = some (.int .i64 s) ∧ Hid (St w0 B p a len cap w' ∧ (∃ q : Int, Room w' w1.heap.size (nums n l d r q s)) ∧ Room w' w.heap.size zeros ∧ w1.heap.size < w'.heap.size))) (by kernel_rfl) (k5.drew S0) (fun hHeld => ?_)
                refine Tk.W 2 (some 39) (.fieldAddr 28 (.tmp 3) 5) 0 none ?_
                refine Tk.W 3 (some 40) (.load 2 (.tmp 39)) 2 none ?_
                refine Tk.W 6 (some 43) (.move (.tmp 0)) 89 none ?_
                refine Tk.W 9 (some 46) (.move (.tmp 0)) 89 none ?_
                refine Tk.R 0 (some 37) (.load 28 (.tmp 3)) 28 none (fun K hK => ?_)
                go_simp
                try dsimp only
                refine hK.out _ _ hHeld ?_; clear hK K hHeld; intro hHeld; try simp only [Act.put, List.setIfInBounds_toArray, List.set_cons_zero, List.set_cons_succ]
                refine Tk.R 1 (some 38) (.call ⟨.value (.func 144), #[.tmp 37], #[28]⟩) 2 none (fun K hK => ?_)
                go_simp
                refine (Cf.s_AdjustMost _ _ _ _ _ _ _).mono ?_
                rintro e wA ⟨rfl, hbq6⟩
                rw [hG]
                have kvq6 := k5.below hHeld hbq6
                clear hbq6 y0 y1 y2 y3 y4 y5
                try dsimp only
                refine hK.out _ _ kvq6 ?_; clear hK K hHeld; intro hHeld; try simp only [Act.put, List.setIfInBounds_toArray, List.set_cons_zero, List.set_cons_succ]
                refine Tk.W 4 (some 41) (.binOp .mul 2 (.tmp 38) (.tmp 40) 2) 2 none ?_
                refine Tk.W 5 (some 42) (.binOp .sub 2 (.tmp 41) (.const (.int .i64 1)) 2) 2 none ?_
                refine Tk.R 7 (some 44) (.call ⟨.value (.func 120), #[.tmp 43], #[89]⟩) 2 none (fun K hK => ?_)
                go_simp
                refine (l1Odd' w0 B p a len cap _ hHeld.2.out.1).mono ?_
                rintro e wO ⟨⟨o, rfl, o0, o1⟩, stq9, sq9⟩
                have kvq9 := k5.step hHeld stq9 sq9 (by omega) (by omega)
                clear sq9 stq9
                obtain ⟨M, hM⟩ : ∃ M, IntKind.i64.wrap (IntKind.i64.wrap (G * s) - 1) = M := ⟨_, rfl⟩
                try rw [hM]
                have zO := kvq9.all.2.2.2
                try dsimp only
                refine hK.out _ _ kvq9 ?_; clear hK K hHeld; intro hHeld; try simp only [Act.put, List.setIfInBounds_toArray, List.set_cons_zero, List.set_cons_succ]
                refine wpAnyH_ready (rs := [8, 10]) (by kernel_rfl) (by simp) ?_
                refine (AllReadyH.cons (o := ⟨some 45, .buildSlice 29 5 #[(0, .const (.int .i64 0)), (1, .tmp 42), (2, .const (.int .i64 1000000000000000)), (3, .const (.int .i64 1000000000000001)), (4, .tmp 44)], 29, _, _, none⟩) rfl (fun K hK => ?_) (AllReadyH.cons (o := ⟨some 47, .call ⟨.value (.func 117), #[.tmp 46, .const (.int .i64 5)], #[89, 2]⟩, 2, _, _, none⟩) rfl (fun K hK => ?_) AllReadyH.nil))
                · go_simp
                  have aq10 := And.intro (k5.obj hHeld (.cells #[.int .i64 0, .int .i64 M, .int .i64 1000000000000000, .int .i64 1000000000000001, .int .i64 o] 2)) (lit5 wO 0 M 1000000000000000 1000000000000001 o 2)
                  generalize wO.alloc (.cells #[.int .i64 0, .int .i64 M, .int .i64 1000000000000000, .int .i64 1000000000000001, .int .i64 o] 2) = wD at aq10 ⊢
                  obtain ⟨kvq10, hl⟩ := aq10
                  try dsimp only
                  refine hK.out _ _ kvq10 ?_; clear hK K hHeld; intro hHeld; try simp only [Act.put, List.setIfInBounds_toArray, List.set_cons_zero, List.set_cons_succ]
                  refine Tk.R 10 (some 47) (.call ⟨.value (.func 117), #[.tmp 46, .const (.int .i64 5)], #[89, 2]⟩) 2 none (fun K hK => ?_)
                  go_simp
                  refine (l1Below' w0 B p a len cap 5 (by omega) (by omega) _ hHeld.2.out.1).mono ?_
                  rintro e wC ⟨⟨y, rfl, yy0, yy1⟩, stq11, sq11⟩
                  have kvq11 := k5.step hHeld stq11 sq11 (by omega) (by omega)
                  replace hl := hl.step sq11 (by omega)
                  obtain ⟨j, rfl⟩ := Int.eq_ofNat_of_zero_le yy0
                  have hj : j < 5 := by omega
                  obtain ⟨v, hv⟩ := hl.2 j hj
                  clear hl
                  clear stq11 sq11
                  try dsimp only
                  refine hK.out _ _ kvq11 ?_; clear hK K hHeld; intro hHeld; try simp only [Act.put, List.setIfInBounds_toArray, List.set_cons_zero, List.set_cons_succ]
                  refine Tk.W 11 (some 48) (.indexAddr 29 (.tmp 45) (.tmp 47)) 0 none ?_
                  refine Tk.R 12 (some 49) (.load 2 (.tmp 48)) 2 none (fun K hK => ?_)
                  go_simp
                  try dsimp only
                  refine hK.out _ _ hHeld ?_; clear hK K hHeld; intro hHeld; try simp only [Act.put, List.setIfInBounds_toArray, List.set_cons_zero, List.set_cons_succ]
                  refine Tk.W 13 (some 50) (.fieldAddr 28 (.tmp 3) 4) 0 none ?_
                  refine Tk.R 14 none (.store 2 (.tmp 50) (.tmp 49)) 0 none (fun K hK => ?_)
                  obtain ⟨-, ⟨q2, hq2⟩, -, -⟩ := hHeld.2.out
                  have f4 := hq2.froz 4 rfl
                  have e4 := hq2.cell 4 rfl
                  go_simp
                  try dsimp only
                  refine hK.out _ _ (k5.store hHeld (by omega) (by omega) (by omega) (by omega) _) ?_; clear hK K hHeld; intro hHeld; try simp only [Act.put, List.setIfInBounds_toArray, List.set_cons_zero, List.set_cons_succ]
                  refine wpAnyH_done (by kernel_rfl) ?_ _
                  refine NoPanic.normal ?_
                  obtain ⟨a1, ⟨q3, a2⟩, a3, a4⟩ := hHeld.2.out
                  clear hHeld
                  go_wp2_with fail
                  go_meet
                  case rel => exact ⟨rfl, a4, n, l, d, r, q3, s, a1, a2, a3⟩
                · go_simp
                  refine (l1Below' w0 B p a len cap 5 (by omega) (by omega) _ hHeld.2.out.1).mono ?_
                  rintro e wC ⟨⟨y, rfl, yy0, yy1⟩, stq16, sq16⟩
                  have kvq16 := k5.step hHeld stq16 sq16 (by omega) (by omega)
                  clear stq16 sq16
                  try dsimp only
                  refine hK.out _ _ kvq16 ?_; clear hK K hHeld; intro hHeld; try simp only [Act.put, List.setIfInBounds_toArray, List.set_cons_zero, List.set_cons_succ]
                  refine Tk.R 8 (some 45) (.buildSlice 29 5 #[(0, .const (.int .i64 0)), (1, .tmp 42), (2, .const (.int .i64 1000000000000000)), (3, .const (.int .i64 1000000000000001)), (4, .tmp 44)]) 29 none (fun K hK => ?_)
                  go_simp
                  have aq17 := And.intro (k5.obj hHeld (.cells #[.int .i64 0, .int .i64 M, .int .i64 1000000000000000, .int .i64 1000000000000001, .int .i64 o] 2)) (lit5 wC 0 M 1000000000000000 1000000000000001 o 2)
                  generalize wC.alloc (.cells #[.int .i64 0, .int .i64 M, .int .i64 1000000000000000, .int .i64 1000000000000001, .int .i64 o] 2) = wD at aq17 ⊢
                  obtain ⟨kvq17, hl⟩ := aq17
                  obtain ⟨j, rfl⟩ := Int.eq_ofNat_of_zero_le yy0
                  have hj : j < 5 := by omega
                  obtain ⟨v, hv⟩ := hl.2 j hj
                  clear hl
                  try dsimp only
                  refine hK.out _ _ kvq17 ?_; clear hK K hHeld; intro hHeld; try simp only [Act.put, List.setIfInBounds_toArray, List.set_cons_zero, List.set_cons_succ]
                  refine Tk.W 11 (some 48) (.indexAddr 29 (.tmp 45) (.tmp 47)) 0 none ?_
                  refine Tk.R 12 (some 49) (.load 2 (.tmp 48)) 2 none (fun K hK => ?_)
                  go_simp
                  try dsimp only
                  refine hK.out _ _ hHeld ?_; clear hK K hHeld; intro hHeld; try simp only [Act.put, List.setIfInBounds_toArray, List.set_cons_zero, List.set_cons_succ]
                  refine Tk.W 13 (some 50) (.fieldAddr 28 (.tmp 3) 4) 0 none ?_
                  refine Tk.R 14 none (.store 2 (.tmp 50) (.tmp 49)) 0 none (fun K hK => ?_)
                  obtain ⟨-, ⟨q2, hq2⟩, -, -⟩ := hHeld.2.out
                  have f4 := hq2.froz 4 rfl
                  have e4 := hq2.cell 4 rfl
                  go_simp
                  try dsimp only
                  refine hK.out _ _ (k5.store hHeld (by omega) (by omega) (by omega) (by omega) _) ?_; clear hK K hHeld; intro hHeld; try simp only [Act.put, List.setIfInBounds_toArray, List.set_cons_zero, List.set_cons_succ]
                  refine wpAnyH_done (by kernel_rfl) ?_ _
                  refine NoPanic.normal ?_
                  obtain ⟨a1, ⟨q3, a2⟩, a3, a4⟩ := hHeld.2.out
                  clear hHeld
                  go_wp2_with fail
                  go_meet
                  case rel => exact ⟨rfl, a4, n, l, d, r, q3, s, a1, a2, a3⟩
  case rest =>
    obtain ⟨rfl, zc, n, l, d, r, q, s, H⟩ := hcut
    obtain ⟨st7, hX7, hR7⟩ := H.out
    have y0d := hX7.cell 0 rfl
    have y1d := hX7.cell 1 rfl
    have y2d := hX7.cell 2 rfl
    have y3d := hX7.cell 3 rfl
    have y4d := hX7.cell 4 rfl
    have y5d := hX7.cell 5 rfl
    have r0d := hR7.cell 0 rfl
    have r1d := hR7.cell 1 rfl
    have r2d := hR7.cell 2 rfl
    have r3d := hR7.cell 3 rfl
    have r4d := hR7.cell 4 rfl
    have r5d := hR7.cell 5 rfl
    have f0d := hR7.froz 0 rfl
    have f1d := hR7.froz 1 rfl
    have f2d := hR7.froz 2 rfl
    have f3d := hR7.froz 3 rfl
    have f4d := hR7.froz 4 rfl
    have f5d := hR7.froz 5 rfl
    go_wp2_with fail
    have F6 := hR7.six (.int .i64 n) (.int .i64 l) (.int .i64 d) (.int .i64 r) (.int .i64 q) (.int .i64 s)
    refine bodyPost_ret (v := cfg n l d r q s) (by simp [results, Try.results118, go_sem, F6.cell 0 rfl, F6.cell 1 rfl, F6.cell 2 rfl, F6.cell 3 rfl, F6.cell 4 rfl, F6.cell 5 rfl]) rfl ⟨⟨_, _, _, _, _, _, rfl⟩, st7.six (by omega) (by omega) (by omega) _ _ _ _ _ _⟩

end Go.Proofs.Ytloicicgcdfgnaa.Dr
