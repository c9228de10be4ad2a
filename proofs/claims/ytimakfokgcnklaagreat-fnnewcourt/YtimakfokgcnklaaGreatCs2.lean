/-
  A rule, a node, a peer, a parcel: right or not (spec.RuleOk, l12Honest, l12Peer, l12Parcel), at whatever arguments.
-/
import Derived.Test.YtimakfokgcnklaaGreatCs1
import Derived.Deep.RegionHeld3
namespace Go.Proofs.YtimakfokgcnklaaGreat.Cd
open Go.ChangeShapes Go.WideShapes Go.ChangeAt Go.RowKit
open Ls (el Row)
open Rm (Room)
open Rd (Flags)
open Sb (S3 es es_ext fl sl Row3 SHas)
open Ns
open Mg (MG RT)
open Sl (KO lk_yes lk_no SR)
open Sp (LK retb)
set_option linter.unusedVariables false
set_option linter.unusedSimpArgs false

def RK (n f p a l m : Int) : Prop := (1 ≤ n ∧ n ≤ 16) ∧ (0 ≤ f ∧ 2 * f + 1 ≤ n) ∧ (1 ≤ l ∧ l ≤ 1000) ∧ (l ≤ m ∧ m ≤ 1000) ∧ (1 ≤ p ∧ p ≤ 100000) ∧ 0 ≤ a ∧ a + m < p
instance (n f p a l m : Int) : Decidable (RK n f p a l m) := by unfold RK; infer_instance
def RO (n f p a l m : Int) : Bool := decide (RK n f p a l m)

set_option maxHeartbeats 4000000 in
theorem ruleS (n f p a l m : Int) (w : World) :
    Calls Tryz.prog 13 #[.agg #[.int .i64 n, .int .i64 f, .int .i64 p, .int .i64 a, .int .i64 l, .int .i64 m]] w fun e w' => e = .returned (.bool (RO n f p a l m)) ∧ Below w.heap.size w w' := by
  have R := Room.new w [.int .i64 n, .int .i64 f, .int .i64 p, .int .i64 a, .int .i64 l, .int .i64 m] 25
  have B := (Below.refl w.heap.size w).alloc (Nat.le_refl _) (.cells #[.int .i64 n, .int .i64 f, .int .i64 p, .int .i64 a, .int .i64 l, .int .i64 m] 25)
  by_cases h0 : 1 ≤ n ∧ n ≤ 16
  · by_cases h1 : 0 ≤ f ∧ f ≤ 16
    · by_cases h2 : 2 * f + 1 ≤ n
      · by_cases h3 : 1 ≤ l ∧ l ≤ 1000
        · by_cases h4 : l ≤ m ∧ m ≤ 1000
          · by_cases h5 : 1 ≤ p ∧ p ≤ 100000
            · by_cases h6 : 0 ≤ a ∧ a ≤ p
              · by_cases h7 : a + m < p
                · have HV : Hid (RO n f p a l m = true) := decide_eq_true (by unfold RK; omega)
                  have hw1 : IntKind.i64.wrap (2 * f) = 2 * f := by rw [IntKind.wrap_i64]; omega
                  have hw2 : IntKind.i64.wrap (2 * f + 1) = 2 * f + 1 := by rw [IntKind.wrap_i64]; omega
                  have hw3 : IntKind.i64.wrap (a + m) = a + m := by rw [IntKind.wrap_i64]; omega
                  go_enter Tryz.func13, Tryz.ntmps13
                  have c0 := R.cell 0 rfl
                  have c1 := R.cell 1 rfl
                  have c2 := R.cell 2 rfl
                  have c3 := R.cell 3 rfl
                  have c4 := R.cell 4 rfl
                  have c5 := R.cell 5 rfl
                  go_wp2_with fail
                  refine (Sp.s_l1In 1 16 n _).mono ?_
                  rintro e w1 ⟨rfl, rfl⟩
                  rw [lk_yes h0]
                  go_wp2_with fail
                  refine (Sp.s_l1In 0 16 f _).mono ?_
                  rintro e w1 ⟨rfl, rfl⟩
                  rw [lk_yes h1]
                  go_wp2_with fail
                  refine (Sp.s_l1In 1 1000 l _).mono ?_
                  rintro e w1 ⟨rfl, rfl⟩
                  rw [lk_yes h3]
                  go_wp2_with fail
                  refine (Sp.s_l1In l 1000 m _).mono ?_
                  rintro e w1 ⟨rfl, rfl⟩
                  rw [lk_yes h4]
                  go_wp2_with fail
                  refine (Sp.s_l1In 1 100000 p _).mono ?_
                  rintro e w1 ⟨rfl, rfl⟩
                  rw [lk_yes h5]
                  go_wp2_with fail
                  refine (Sp.s_l1In 0 p a _).mono ?_
                  rintro e w1 ⟨rfl, rfl⟩
                  rw [lk_yes h6]
                  go_wp2
                  go_ret
                  exact ⟨retb HV.out.symm, B⟩
                · have HV : Hid (RO n f p a l m = false) := decide_eq_false (by unfold RK; omega)
                  have hw1 : IntKind.i64.wrap (2 * f) = 2 * f := by rw [IntKind.wrap_i64]; omega
                  have hw2 : IntKind.i64.wrap (2 * f + 1) = 2 * f + 1 := by rw [IntKind.wrap_i64]; omega
                  have hw3 : IntKind.i64.wrap (a + m) = a + m := by rw [IntKind.wrap_i64]; omega
                  have d7 : decide (p > a + m) = false := decide_eq_false (by omega)
                  go_enter Tryz.func13, Tryz.ntmps13
                  have c0 := R.cell 0 rfl
                  have c1 := R.cell 1 rfl
                  have c2 := R.cell 2 rfl
                  have c3 := R.cell 3 rfl
                  have c4 := R.cell 4 rfl
                  have c5 := R.cell 5 rfl
                  go_wp2_with fail
                  refine (Sp.s_l1In 1 16 n _).mono ?_
                  rintro e w1 ⟨rfl, rfl⟩
                  rw [lk_yes h0]
                  go_wp2_with fail
                  refine (Sp.s_l1In 0 16 f _).mono ?_
                  rintro e w1 ⟨rfl, rfl⟩
                  rw [lk_yes h1]
                  go_wp2_with fail
                  refine (Sp.s_l1In 1 1000 l _).mono ?_
                  rintro e w1 ⟨rfl, rfl⟩
                  rw [lk_yes h3]
                  go_wp2_with fail
                  refine (Sp.s_l1In l 1000 m _).mono ?_
                  rintro e w1 ⟨rfl, rfl⟩
                  rw [lk_yes h4]
                  go_wp2_with fail
                  refine (Sp.s_l1In 1 100000 p _).mono ?_
                  rintro e w1 ⟨rfl, rfl⟩
                  rw [lk_yes h5]
                  go_wp2_with fail
                  refine (Sp.s_l1In 0 p a _).mono ?_
                  rintro e w1 ⟨rfl, rfl⟩
                  rw [lk_yes h6]
                  go_wp2
                  go_ret
                  exact ⟨retb HV.out.symm, B⟩
              · have HV : Hid (RO n f p a l m = false) := decide_eq_false (by unfold RK; omega)
                have hw1 : IntKind.i64.wrap (2 * f) = 2 * f := by rw [IntKind.wrap_i64]; omega
                have hw2 : IntKind.i64.wrap (2 * f + 1) = 2 * f + 1 := by rw [IntKind.wrap_i64]; omega
                go_enter Tryz.func13, Tryz.ntmps13
                have c0 := R.cell 0 rfl
                have c1 := R.cell 1 rfl
                have c2 := R.cell 2 rfl
                have c3 := R.cell 3 rfl
                have c4 := R.cell 4 rfl
                have c5 := R.cell 5 rfl
                go_wp2_with fail
                refine (Sp.s_l1In 1 16 n _).mono ?_
                rintro e w1 ⟨rfl, rfl⟩
                rw [lk_yes h0]
                go_wp2_with fail
                refine (Sp.s_l1In 0 16 f _).mono ?_
                rintro e w1 ⟨rfl, rfl⟩
                rw [lk_yes h1]
                go_wp2_with fail
                refine (Sp.s_l1In 1 1000 l _).mono ?_
                rintro e w1 ⟨rfl, rfl⟩
                rw [lk_yes h3]
                go_wp2_with fail
                refine (Sp.s_l1In l 1000 m _).mono ?_
                rintro e w1 ⟨rfl, rfl⟩
                rw [lk_yes h4]
                go_wp2_with fail
                refine (Sp.s_l1In 1 100000 p _).mono ?_
                rintro e w1 ⟨rfl, rfl⟩
                rw [lk_yes h5]
                go_wp2_with fail
                refine (Sp.s_l1In 0 p a _).mono ?_
                rintro e w1 ⟨rfl, rfl⟩
                rw [lk_no h6]
                go_wp2
                go_ret
                exact ⟨retb HV.out.symm, B⟩
            · have HV : Hid (RO n f p a l m = false) := decide_eq_false (by unfold RK; omega)
              have hw1 : IntKind.i64.wrap (2 * f) = 2 * f := by rw [IntKind.wrap_i64]; omega
              have hw2 : IntKind.i64.wrap (2 * f + 1) = 2 * f + 1 := by rw [IntKind.wrap_i64]; omega
              go_enter Tryz.func13, Tryz.ntmps13
              have c0 := R.cell 0 rfl
              have c1 := R.cell 1 rfl
              have c2 := R.cell 2 rfl
              have c3 := R.cell 3 rfl
              have c4 := R.cell 4 rfl
              have c5 := R.cell 5 rfl
              go_wp2_with fail
              refine (Sp.s_l1In 1 16 n _).mono ?_
              rintro e w1 ⟨rfl, rfl⟩
              rw [lk_yes h0]
              go_wp2_with fail
              refine (Sp.s_l1In 0 16 f _).mono ?_
              rintro e w1 ⟨rfl, rfl⟩
              rw [lk_yes h1]
              go_wp2_with fail
              refine (Sp.s_l1In 1 1000 l _).mono ?_
              rintro e w1 ⟨rfl, rfl⟩
              rw [lk_yes h3]
              go_wp2_with fail
              refine (Sp.s_l1In l 1000 m _).mono ?_
              rintro e w1 ⟨rfl, rfl⟩
              rw [lk_yes h4]
              go_wp2_with fail
              refine (Sp.s_l1In 1 100000 p _).mono ?_
              rintro e w1 ⟨rfl, rfl⟩
              rw [lk_no h5]
              go_wp2
              go_ret
              exact ⟨retb HV.out.symm, B⟩
          · have HV : Hid (RO n f p a l m = false) := decide_eq_false (by unfold RK; omega)
            have hw1 : IntKind.i64.wrap (2 * f) = 2 * f := by rw [IntKind.wrap_i64]; omega
            have hw2 : IntKind.i64.wrap (2 * f + 1) = 2 * f + 1 := by rw [IntKind.wrap_i64]; omega
            go_enter Tryz.func13, Tryz.ntmps13
            have c0 := R.cell 0 rfl
            have c1 := R.cell 1 rfl
            have c2 := R.cell 2 rfl
            have c3 := R.cell 3 rfl
            have c4 := R.cell 4 rfl
            have c5 := R.cell 5 rfl
            go_wp2_with fail
            refine (Sp.s_l1In 1 16 n _).mono ?_
            rintro e w1 ⟨rfl, rfl⟩
            rw [lk_yes h0]
            go_wp2_with fail
            refine (Sp.s_l1In 0 16 f _).mono ?_
            rintro e w1 ⟨rfl, rfl⟩
            rw [lk_yes h1]
            go_wp2_with fail
            refine (Sp.s_l1In 1 1000 l _).mono ?_
            rintro e w1 ⟨rfl, rfl⟩
            rw [lk_yes h3]
            go_wp2_with fail
            refine (Sp.s_l1In l 1000 m _).mono ?_
            rintro e w1 ⟨rfl, rfl⟩
            rw [lk_no h4]
            go_wp2
            go_ret
            exact ⟨retb HV.out.symm, B⟩
        · have HV : Hid (RO n f p a l m = false) := decide_eq_false (by unfold RK; omega)
          have hw1 : IntKind.i64.wrap (2 * f) = 2 * f := by rw [IntKind.wrap_i64]; omega
          have hw2 : IntKind.i64.wrap (2 * f + 1) = 2 * f + 1 := by rw [IntKind.wrap_i64]; omega
          go_enter Tryz.func13, Tryz.ntmps13
          have c0 := R.cell 0 rfl
          have c1 := R.cell 1 rfl
          have c2 := R.cell 2 rfl
          have c3 := R.cell 3 rfl
          have c4 := R.cell 4 rfl
          have c5 := R.cell 5 rfl
          go_wp2_with fail
          refine (Sp.s_l1In 1 16 n _).mono ?_
          rintro e w1 ⟨rfl, rfl⟩
          rw [lk_yes h0]
          go_wp2_with fail
          refine (Sp.s_l1In 0 16 f _).mono ?_
          rintro e w1 ⟨rfl, rfl⟩
          rw [lk_yes h1]
          go_wp2_with fail
          refine (Sp.s_l1In 1 1000 l _).mono ?_
          rintro e w1 ⟨rfl, rfl⟩
          rw [lk_no h3]
          go_wp2
          go_ret
          exact ⟨retb HV.out.symm, B⟩
      · have HV : Hid (RO n f p a l m = false) := decide_eq_false (by unfold RK; omega)
        have hw1 : IntKind.i64.wrap (2 * f) = 2 * f := by rw [IntKind.wrap_i64]; omega
        have hw2 : IntKind.i64.wrap (2 * f + 1) = 2 * f + 1 := by rw [IntKind.wrap_i64]; omega
        have d2 : decide (n ≥ 2 * f + 1) = false := decide_eq_false (by omega)
        go_enter Tryz.func13, Tryz.ntmps13
        have c0 := R.cell 0 rfl
        have c1 := R.cell 1 rfl
        have c2 := R.cell 2 rfl
        have c3 := R.cell 3 rfl
        have c4 := R.cell 4 rfl
        have c5 := R.cell 5 rfl
        go_wp2_with fail
        refine (Sp.s_l1In 1 16 n _).mono ?_
        rintro e w1 ⟨rfl, rfl⟩
        rw [lk_yes h0]
        go_wp2_with fail
        refine (Sp.s_l1In 0 16 f _).mono ?_
        rintro e w1 ⟨rfl, rfl⟩
        rw [lk_yes h1]
        go_wp2
        go_ret
        exact ⟨retb HV.out.symm, B⟩
    · have HV : Hid (RO n f p a l m = false) := decide_eq_false (by unfold RK; omega)
      go_enter Tryz.func13, Tryz.ntmps13
      have c0 := R.cell 0 rfl
      have c1 := R.cell 1 rfl
      have c2 := R.cell 2 rfl
      have c3 := R.cell 3 rfl
      have c4 := R.cell 4 rfl
      have c5 := R.cell 5 rfl
      go_wp2_with fail
      refine (Sp.s_l1In 1 16 n _).mono ?_
      rintro e w1 ⟨rfl, rfl⟩
      rw [lk_yes h0]
      go_wp2_with fail
      refine (Sp.s_l1In 0 16 f _).mono ?_
      rintro e w1 ⟨rfl, rfl⟩
      rw [lk_no h1]
      go_wp2
      go_ret
      exact ⟨retb HV.out.symm, B⟩
  · have HV : Hid (RO n f p a l m = false) := decide_eq_false (by unfold RK; omega)
    go_enter Tryz.func13, Tryz.ntmps13
    have c0 := R.cell 0 rfl
    have c1 := R.cell 1 rfl
    have c2 := R.cell 2 rfl
    have c3 := R.cell 3 rfl
    have c4 := R.cell 4 rfl
    have c5 := R.cell 5 rfl
    go_wp2_with fail
    refine (Sp.s_l1In 1 16 n _).mono ?_
    rintro e w1 ⟨rfl, rfl⟩
    rw [lk_no h0]
    go_wp2
    go_ret
    exact ⟨retb HV.out.symm, B⟩

theorem ho_no {bs : List Bool} {x : Int} (h : ¬ (0 ≤ x ∧ x < (bs.length : Int))) : HO bs x = false := by unfold HO; rw [decide_eq_false h]; rfl
theorem ho_at {bs : List Bool} {j : Nat} (h : j < bs.length) : HO bs (j : Int) = !(bs.getD j false) := by unfold HO; rw [decide_eq_true ⟨by omega, by omega⟩]; simp
set_option maxHeartbeats 2000000 in
theorem honestS (c : CD) (aL : Option Addr) (cL : Nat) (K P Q M F : Value) (x : Int) (w : World) (hL : Flags w w.heap.size aL c.bs.length c.bs) (hn : c.bs.length ≤ 1048576) :
    Calls Tryz.prog 66 #[.agg #[.int .i64 c.n, .int .i64 c.f, .int .i64 c.p, .int .i64 c.a, .int .i64 c.l, .int .i64 c.m, K, .slice aL c.bs.length cL, P, Q, .int .i64 c.now, M, F], .int .i64 x] w fun e w' => e = .returned (.bool (HO c.bs x)) ∧ Below w.heap.size w w' := by
  have R := Room.new w [.int .i64 c.n, .int .i64 c.f, .int .i64 c.p, .int .i64 c.a, .int .i64 c.l, .int .i64 c.m, K, .slice aL c.bs.length cL, P, Q, .int .i64 c.now, M, F] 35
  have B := (Below.refl w.heap.size w).alloc (Nat.le_refl _) (.cells #[.int .i64 c.n, .int .i64 c.f, .int .i64 c.p, .int .i64 c.a, .int .i64 c.l, .int .i64 c.m, K, .slice aL c.bs.length cL, P, Q, .int .i64 c.now, M, F] 35)
  have c7 := R.cell 7 rfl
  have hw : IntKind.i64.wrap ((c.bs.length : Int) - 1) = (c.bs.length : Int) - 1 := by rw [IntKind.wrap_i64]; omega
  by_cases h : 0 ≤ x ∧ x < (c.bs.length : Int)
  · obtain ⟨j, rfl⟩ : ∃ j : Nat, x = (j : Int) := ⟨x.toNat, by omega⟩
    have hj : j < c.bs.length := by omega
    obtain ⟨_, hz | ⟨b, off, rfl, hb, hc⟩⟩ := hL
    · omega
    have e0 := hc j hj
    rw [← B.cell (p := ⟨b, off + j, none⟩) hb] at e0
    have HV : Hid (HO c.bs (j : Int) = !(c.bs.getD j false)) := ho_at hj
    generalize c.bs.getD j false = bv at e0 HV
    have hij : (j : Int) < (c.bs.length : Int) := h.2
    clear hc h
    go_enter Tryz.func66, Tryz.ntmps66
    go_wp2_with fail
    refine (Sp.s_l1In 0 ((c.bs.length : Int) - 1) j _).mono ?_
    rintro e w1 ⟨rfl, rfl⟩
    rw [lk_yes (by omega)]
    cases bv with
    | true =>
      go_wp2
      go_ret
      exact ⟨retb HV.out.symm, B⟩
    | false =>
      go_wp2
      go_ret
      exact ⟨retb HV.out.symm, B⟩
  · have HV : Hid (HO c.bs x = false) := ho_no h
    go_enter Tryz.func66, Tryz.ntmps66
    go_wp2_with fail
    refine (Sp.s_l1In 0 ((c.bs.length : Int) - 1) x _).mono ?_
    rintro e w1 ⟨rfl, rfl⟩
    rw [lk_no (by omega)]
    clear h
    go_wp2
    go_ret
    exact ⟨retb HV.out.symm, B⟩

end Go.Proofs.YtimakfokgcnklaaGreat.Cd
