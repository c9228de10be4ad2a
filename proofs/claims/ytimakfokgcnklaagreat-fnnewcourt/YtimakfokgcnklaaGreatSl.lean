/-
  Seals: whether keys are right, the steps of a tag, by both.
-/
import Derived.Test.YtimakfokgcnklaaGreatSpan
import Derived.Test.YtimakfokgcnklaaGreatRm
import Derived.Deep.Cut
import Derived.Deep.RegionHeld3
namespace Go.Proofs.YtimakfokgcnklaaGreat.Sl
open Go.ChangeShapes Go.WideShapes Go.ChangeAt Go.RowKit
open Sp (IN OK LK span retb reti)
open Ad (Tm)
open Ls (el Row)
open Rm (Room)
set_option linter.unusedVariables false
set_option linter.unusedSimpArgs false

theorem in_lk {lo hi n : Int} (h1 : Tm lo) (h2 : Tm hi) (h3 : lo ≤ hi) : IN lo hi n = !LK lo hi n := by
  unfold IN
  rw [Sp.ok_yes h1 h2 h3]
  rfl
theorem lk_yes {lo hi n : Int} (h3 : lo ≤ n ∧ n ≤ hi) : LK lo hi n = false := by
  unfold LK
  rw [decide_eq_true h3.1, decide_eq_true h3.2]; rfl
theorem lk_no {lo hi n : Int} (h3 : ¬ (lo ≤ n ∧ n ≤ hi)) : LK lo hi n = true := by
  unfold LK
  by_cases h1 : lo ≤ n
  · rw [decide_eq_true h1, decide_eq_false (show ¬ n ≤ hi by omega)]; rfl
  · rw [decide_eq_false h1]; rfl
theorem lk_of {lo hi n : Int} (h : LK lo hi n = false) : lo ≤ n ∧ n ≤ hi := by
  by_cases q : lo ≤ n ∧ n ≤ hi
  · exact q
  · rw [lk_no q] at h; cases h

/-- The first k keys are right. -/
def AK (zs : List Int) : Nat → Bool
  | 0 => true
  | k + 1 => AK zs k && !LK 1 1000000000 (el zs k)
theorem ak_no {zs : List Int} {k : Nat} (h : AK zs (k + 1) = false) : ∀ n, k < n → AK zs n = false := by
  intro n hn
  obtain ⟨d, rfl⟩ : ∃ d, n = k + 1 + d := ⟨n - (k + 1), by omega⟩
  clear hn
  induction d with
  | zero => exact h
  | succ d ih => show (AK zs (k + 1 + d) && _) = false; rw [ih]; rfl
theorem ak_iff {zs : List Int} {n : Nat} : AK zs n = true ↔ ∀ k, k < n → 1 ≤ el zs k ∧ el zs k ≤ 1000000000 := by
  induction n with
  | zero => simp [AK]
  | succ n ih =>
    rw [AK, Bool.and_eq_true, ih, Bool.not_eq_true']
    constructor
    · intro h k hk
      by_cases e : k = n
      · subst e; exact lk_of h.2
      · exact h.1 k (by omega)
    · intro h
      exact ⟨fun k hk => h k (by omega), lk_yes (h n (by omega))⟩
/-- Right keys. -/
def KO (zs : List Int) (n : Nat) : Bool := decide (1 ≤ n ∧ n ≤ 16) && AK zs n
theorem ko_of {zs : List Int} {n : Nat} (h : KO zs n = true) : (1 ≤ n ∧ n ≤ 16) ∧ ∀ k, k < n → 1 ≤ el zs k ∧ el zs k ≤ 1000000000 := by
  unfold KO at h
  rw [Bool.and_eq_true] at h
  exact ⟨of_decide_eq_true h.1, ak_iff.mp h.2⟩
theorem ko_yes {zs : List Int} {n : Nat} (h : 1 ≤ n ∧ n ≤ 16) (q : ∀ k, k < n → 1 ≤ el zs k ∧ el zs k ≤ 1000000000) : KO zs n = true := by
  unfold KO
  rw [decide_eq_true h, ak_iff.mpr q]
  rfl
theorem ko_no {zs : List Int} {n : Nat} (h : ¬ (1 ≤ n ∧ n ≤ 16)) : KO zs n = false := by
  unfold KO
  rw [decide_eq_false h]
  rfl
theorem ko_in {zs : List Int} {n : Nat} (h : 1 ≤ n ∧ n ≤ 16) : KO zs n = AK zs n := by
  unfold KO
  rw [decide_eq_true h]
  rfl

set_option maxHeartbeats 1000000 in
theorem i_KeysOk (a : Option Addr) (n cap : Nat) (zs : List Int) (w : World) (hr : Row w w.heap.size a n zs) (hn : n ≤ 1048576) :
    Calls Tryz.prog 92 #[.slice a n cap] w fun e w' => e = .returned (.bool (KO zs n)) ∧ Below w.heap.size w w' := by
  obtain ⟨hz, hrow⟩ := hr
  by_cases h1 : 1 ≤ n
  case neg =>
    rw [ko_no (by omega)]
    have d1 : decide ((n : Int) < 1) = true := decide_eq_true (by omega)
    go_enter Tryz.func92, Tryz.ntmps92
    go_wp2
    go_ret
    exact ⟨rfl, Below.refl _ _⟩
  case pos =>
    have d1 : decide ((n : Int) < 1) = false := decide_eq_false (by omega)
    by_cases h2 : n ≤ 16
    case neg =>
      rw [ko_no (by omega)]
      have d2 : decide ((16 : Int) < n) = true := decide_eq_true (by omega)
      go_enter Tryz.func92, Tryz.ntmps92
      go_wp2
      go_ret
      exact ⟨rfl, Below.refl _ _⟩
    case pos =>
      rw [ko_in ⟨h1, h2⟩]
      have d2 : decide ((16 : Int) < n) = false := decide_eq_false (by omega)
      go_enter Tryz.func92, Tryz.ntmps92
      go_wp2
      clear d1 d2
      go_loopw [4, 15] (fun x i w' => ∃ k : Nat, k ≤ n ∧ i = .int .i64 k ∧ Hid (AK zs k = true) ∧ Below w.heap.size w w') (fun x i _ => n - (intOf i).toNat)
      case atStart => exact ⟨0, Nat.zero_le _, rfl, rfl, Below.refl _ _⟩
      case round =>
        obtain ⟨k, hk, rfl, ht, hb⟩ := hrel
        have hsz := hb.size
        by_cases hlt : k < n
        · have hi' : (k : Int) < n := by omega
          rcases hrow with hrow | ⟨b, off, rfl, hB, hc⟩
          · omega
          · have hc1 := hc k hlt
            rw [← hb.cell (p := ⟨b, off + k, none⟩) hB] at hc1
            cases hl : LK 1 1000000000 (el zs k) with
            | true =>
              have HF : Hid (AK zs n = false) := ak_no (k := k) (by show (AK zs k && _) = false; rw [ht.out, hl]; rfl) n hlt
              go_wp2_with (go_at_call 47; refine (Sp.i_InSpan _ _ _ _).mono ?_; rintro e w2 ⟨rfl, hb2⟩; rw [in_lk (by decide) (by decide) (by decide), hl])
              go_ret
              exact ⟨retb HF.out.symm, hb.trans (hb2.mono hsz)⟩
            | false =>
              have HT' : Hid (AK zs (k + 1) = true) := by show (AK zs k && _) = true; rw [ht.out, hl]; rfl
              go_wp2_with (go_at_call 47; refine (Sp.i_InSpan _ _ _ _).mono ?_; rintro e w2 ⟨rfl, hb2⟩; rw [in_lk (by decide) (by decide) (by decide), hl])
              go_roundw
              case rel => exact ⟨k + 1, by omega, by go_num, HT', hb.trans (hb2.mono hsz)⟩
              case measure => simp [intOf]; omega
        · have hi' : ¬ (k : Int) < n := by omega
          have e : k = n := by omega
          subst e
          go_wp2
          go_ret
          exact ⟨retb ht.out.symm, hb⟩

set_option maxHeartbeats 1000000 in
theorem s_KeysOk (a : Option Addr) (n cap : Nat) (zs : List Int) (w : World) (hr : Row w w.heap.size a n zs) (hn : n ≤ 1048576) :
    Calls Tryz.prog 61 #[.slice a n cap] w fun e w' => e = .returned (.bool (KO zs n)) ∧ w' = w := by
  obtain ⟨hz, hrow⟩ := hr
  go_enter Tryz.func61, Tryz.ntmps61
  go_wp2
  go_loop [3] (fun i => ∃ k : Nat, k ≤ n ∧ i = .int .i64 k ∧ Hid (AK zs k = true)) (fun i => n - (intOf i).toNat)
  case atStart => exact ⟨0, Nat.zero_le _, rfl, rfl⟩
  case round =>
    obtain ⟨k, hk, rfl, ht⟩ := hrel
    by_cases hlt : k < n
    · have hi' : (k : Int) < n := by omega
      rcases hrow with hrow | ⟨b, off, rfl, hB, hc⟩
      · omega
      · have hc1 := hc k hlt
        cases hl : LK 1 1000000000 (el zs k) with
        | true =>
          have HF : Hid (KO zs n = false) := by
            have := ak_no (k := k) (by show (AK zs k && _) = false; rw [ht.out, hl]; rfl) n hlt
            show KO zs n = false
            unfold KO
            rw [this]; simp
          go_wp2_with (go_at_call 48; refine (Sp.s_l1In _ _ _ _).mono ?_; rintro e w2 ⟨rfl, rfl⟩; rw [hl])
          go_ret
          exact ⟨retb HF.out.symm, rfl⟩
        | false =>
          have HT' : Hid (AK zs (k + 1) = true) := by show (AK zs k && _) = true; rw [ht.out, hl]; rfl
          go_wp2_with (go_at_call 48; refine (Sp.s_l1In _ _ _ _).mono ?_; rintro e w2 ⟨rfl, rfl⟩; rw [hl])
          go_round
          case rel => exact ⟨k + 1, by omega, by go_num, HT'⟩
          case measure => simp [intOf]; omega
    · have hi' : ¬ (k : Int) < n := by omega
      have e : k = n := by omega
      subst e
      have HK : Hid ((!LK 1 16 (k : Int)) = KO zs k) := by
        show (!LK 1 16 (k : Int)) = KO zs k
        by_cases q : 1 ≤ k ∧ k ≤ 16
        · rw [ko_in q, ht.out, lk_yes (by omega)]; rfl
        · rw [ko_no q, lk_no (by omega)]; rfl
      go_wp2_with (go_at_call 48; refine (Sp.s_l1In _ _ _ _).mono ?_; rintro e w2 ⟨rfl, rfl⟩)
      go_ret
      exact ⟨retb HK.out, rfl⟩

/-! The steps. -/
def T1 (x r k : Int) : Int := (x + 8191 * r + 131 * k) % 2147483647
def T2 (x t : Int) : Int := (48271 * t + x) % 2147483647
def T3 (r t : Int) : Int := (69621 * t + r) % 2147483647
/-- The tag of a key for a round and a node. -/
def TG (x r k : Int) : Int := T3 r (T2 x (T1 x r k))
theorem mod_bd {a : Int} : 0 ≤ a % 2147483647 ∧ a % 2147483647 < 2147483647 := ⟨Int.emod_nonneg _ (by decide), Int.emod_lt_of_pos _ (by decide)⟩
theorem t1_bd (x r k : Int) : 0 ≤ T1 x r k ∧ T1 x r k < 2147483647 := mod_bd
theorem t2_bd (x t : Int) : 0 ≤ T2 x t ∧ T2 x t < 2147483647 := mod_bd
theorem t3_bd (r t : Int) : 0 ≤ T3 r t ∧ T3 r t < 2147483647 := mod_bd

theorem st1 (g1 g2 : Nat) (r k t : Int) (w : World) (R1 : Room w g1 [.int .i64 r]) (R2 : Room w g2 [.int .i64 k]) (ht : 0 ≤ t ∧ t ≤ 2147483647) (hr : 1 ≤ r ∧ r ≤ 1000) (hk : 0 ≤ k ∧ k ≤ 15) :
    Calls Tryz.prog 161 #[.int .i64 t, .pointer (some ⟨g1, 0, none⟩), .pointer (some ⟨g2, 0, none⟩)] w fun e w' => e = .returned (.int .i64 (t + 8191 * r + 131 * k)) ∧ w' = w := by
  have c1 := R1.cell 0 rfl
  have c2 := R2.cell 0 rfl
  go_enter Tryz.func161, Tryz.ntmps161
  go_wp2
  go_ret
  exact ⟨rfl, rfl⟩

theorem st2 (g1 : Nat) (x t : Int) (w : World) (R1 : Room w g1 [.int .i64 x]) (ht : 0 ≤ t ∧ t ≤ 2147483647) (hx : 1 ≤ x ∧ x ≤ 1000000000) :
    Calls Tryz.prog 162 #[.int .i64 t, .pointer (some ⟨g1, 0, none⟩)] w fun e w' => e = .returned (.int .i64 (48271 * t + x)) ∧ w' = w := by
  have c1 := R1.cell 0 rfl
  go_enter Tryz.func162, Tryz.ntmps162
  go_wp2
  go_ret
  exact ⟨rfl, rfl⟩

theorem st3 (g1 : Nat) (r t : Int) (w : World) (R1 : Room w g1 [.int .i64 r]) (ht : 0 ≤ t ∧ t ≤ 2147483647) (hx : 1 ≤ r ∧ r ≤ 1000) :
    Calls Tryz.prog 163 #[.int .i64 t, .pointer (some ⟨g1, 0, none⟩)] w fun e w' => e = .returned (.int .i64 (69621 * t + r)) ∧ w' = w := by
  have c1 := R1.cell 0 rfl
  go_enter Tryz.func163, Tryz.ntmps163
  go_wp2
  go_ret
  exact ⟨rfl, rfl⟩

/-- What a list of the three steps holds. -/
abbrev F1 (g1 g2 : Nat) : Value := .func (.func 161) #[] #[.pointer (some ⟨g1, 0, none⟩), .pointer (some ⟨g2, 0, none⟩)]
abbrev F2 (g1 : Nat) : Value := .func (.func 162) #[] #[.pointer (some ⟨g1, 0, none⟩)]
abbrev F3 (g1 : Nat) : Value := .func (.func 163) #[] #[.pointer (some ⟨g1, 0, none⟩)]
set_option maxHeartbeats 1000000 in
theorem steps (x r k : Int) (w : World) :
    Calls Tryz.prog 159 #[.int .i64 x, .int .i64 r, .int .i64 k] w fun e w' => (∃ g gx gr gk, e = .returned (.slice (some ⟨g, 0, none⟩) 3 3) ∧ Room w' gx [.int .i64 x] ∧ Room w' gr [.int .i64 r] ∧ Room w' gk [.int .i64 k] ∧ Room w' g [F1 gr gk, F2 gx, F3 gr]) ∧ Below w.heap.size w w' := by
  have hmf : ∀ (fn : Fn) (first cap : Array Value) (w : World), (Instr.makeFunc fn first cap).run Tryz.prog w = .ok (.func fn first cap) w := fun _ _ _ _ => rfl
  have R1 := ((Room.new w [.int .i64 x] 2).alloc (.cells #[.int .i64 r] 2)).alloc (.cells #[.int .i64 k] 2)
  have R2 := (Room.at (w.alloc (.cells #[.int .i64 x] 2)) [.int .i64 r] 2 (w.heap.size + 1) (by simp)).alloc (.cells #[.int .i64 k] 2)
  have R3 := Room.at ((w.alloc (.cells #[.int .i64 x] 2)).alloc (.cells #[.int .i64 r] 2)) [.int .i64 k] 2 (w.heap.size + 1 + 1) (by simp)
  have B3 := (((Below.refl w.heap.size w).alloc (Nat.le_refl _) (.cells #[.int .i64 x] 2)).alloc (by simp) (.cells #[.int .i64 r] 2)).alloc (by simp <;> omega) (.cells #[.int .i64 k] 2)
  go_enter Tryz.func159, Tryz.ntmps159
  go_wp2
  go_ret
  exact ⟨⟨_, _, _, _, rfl, R1.alloc _, R2.alloc _, R3.alloc _, Room.at _ [F1 (w.heap.size + 1) (w.heap.size + 1 + 1), F2 w.heap.size, F3 (w.heap.size + 1)] _ _ (by simp)⟩, B3.alloc (by simp <;> omega) _⟩

/-- What stands ahead of step j. -/
def VT (x r k : Int) : Nat → Int
  | 0 => x
  | 1 => T1 x r k
  | 2 => T2 x (T1 x r k)
  | _ => TG x r k
set_option maxHeartbeats 2000000 in
theorem tagOf (x r k : Int) (w : World) (hx : 1 ≤ x ∧ x ≤ 1000000000) (hr : 1 ≤ r ∧ r ≤ 1000) (hk : 0 ≤ k ∧ k ≤ 15) :
    Calls Tryz.prog 153 #[.int .i64 x, .int .i64 r, .int .i64 k] w fun e w' => e = .returned (.int .i64 (TG x r k)) ∧ Below w.heap.size w w' := by
  go_enter Tryz.func153, Tryz.ntmps153
  go_wp2_with fail
  refine (steps x r k _).mono ?_
  rintro e w2 ⟨⟨g, gx, gr, gk, rfl, Rx, Rr, Rk, Rg⟩, b2⟩
  go_wp2
  go_loopw [7, 9, 16] (fun t _ i w' => ∃ j : Nat, j ≤ 3 ∧ i = .int .i64 j ∧ t = .int .i64 (VT x r k j) ∧ w' = w2) (fun _ _ i _ => 3 - (intOf i).toNat)
  case atStart => exact ⟨0, Nat.zero_le _, rfl, rfl, rfl⟩
  case round =>
    obtain ⟨j, hj, rfl, rfl, rfl⟩ := hrel
    have e0 := Rg.cell 0 rfl
    have e1 := Rg.cell 1 rfl
    have e2 := Rg.cell 2 rfl
    have q1 := t1_bd x r k
    have q2 := t2_bd x (T1 x r k)
    rcases (by omega : j = 0 ∨ j = 1 ∨ j = 2 ∨ j = 3) with rfl | rfl | rfl | rfl
    · clear q1 q2 e1 e2
      go_wp2_with fail
      refine (st1 gr gk r k x _ Rr Rk (by omega) hr hk).mono ?_
      rintro e w3 ⟨rfl, rfl⟩
      go_wp2
      exact ⟨⟨1, by omega, rfl, rfl, trivial⟩, by simp [intOf]⟩
    · clear q2 e0 e2
      go_wp2_with fail
      refine (st2 gx x _ _ Rx (show 0 ≤ T1 x r k ∧ T1 x r k ≤ 2147483647 by omega) hx).mono ?_
      rintro e w3 ⟨rfl, rfl⟩
      go_wp2
      exact ⟨⟨2, by omega, rfl, rfl, trivial⟩, by simp [intOf]⟩
    · clear q1 e0 e1
      go_wp2_with fail
      refine (st3 gr r _ _ Rr (show 0 ≤ T2 x (T1 x r k) ∧ T2 x (T1 x r k) ≤ 2147483647 by omega) hr).mono ?_
      rintro e w3 ⟨rfl, rfl⟩
      go_wp2
      exact ⟨⟨3, by omega, rfl, rfl, trivial⟩, by simp [intOf]⟩
    · go_wp2
      go_ret
      exact ⟨rfl, b2⟩

end Go.Proofs.YtimakfokgcnklaaGreat.Sl
