/-
  spec.WorldOk: the answer of impl.WorldOk; it writes nothing that was there ahead of it.
-/
import Derived.Test.YtcgcmceobmpdiaaGreatWok
namespace Go.Proofs.YtcgcmceobmpdiaaGreat.Wl
open Go.ChangeShapes Go.WideShapes Go.ChangeAt Go.RowKit
open Ls (el Row)
open Rm (Room)
open Sp (span LK IN)
open Cf (cfg CP)
set_option linter.unusedVariables false
set_option linter.unusedSimpArgs false

theorem wo_no {n l d r p s : Int} {ks os : List Int} {k m : Nat} {t : Int} (h : ¬ ((CP n l d r p s == 0) = true ∧ ((k : Int) == n) = true ∧ ((m : Int) == n) = true ∧ IN 0 1000000 t = true ∧ allIn 0 2 ks k = true ∧ allIn (-1000000000000000) 1000000000000000 os m = true)) : false = WO n l d r p s ks k os m t := by
  symm
  rw [Bool.eq_false_iff]
  intro q
  unfold WO at q
  simp only [Bool.and_eq_true] at q
  exact h ⟨q.1, q.2.1.1, q.2.2.1.1, q.2.2.2.1, q.2.1.2, q.2.2.1.2⟩
theorem wo_yes {n l d r p s : Int} {ks os : List Int} {k m : Nat} {t : Int} (h1 : (CP n l d r p s == 0) = true) (h2 : ((k : Int) == n) = true) (h3 : ((m : Int) == n) = true) (h4 : IN 0 1000000 t = true) (h5 : allIn 0 2 ks k = true) (h6 : allIn (-1000000000000000) 1000000000000000 os m = true) : decide ((bad ks k : Int) ≤ l) = WO n l d r p s ks k os m t := by
  unfold WO
  rw [h1, h2, h3, h4, h5, h6]
  rfl

set_option maxHeartbeats 8000000 in
theorem s_WorldOk (n l d r p s t : Int) (a b : Option Addr) (k ka m mb : Nat) (ks os : List Int) (w : World) (hr : Row w w.heap.size a k ks) (hs : Row w w.heap.size b m os) (hk : k ≤ 1048576) (hm : m ≤ 1048576) :
    Calls Tryz.prog 17 #[wld n l d r p s (.slice a k ka) (.slice b m mb) t] w fun e w' => e = .returned (.bool (WO n l d r p s ks k os m t)) ∧ Below w.heap.size w w' := by
  have k1 : Hid (S9 w n l d r p s (.slice a k ka) (.slice b m mb) t _) := new9 w n l d r p s (.slice a k ka) (.slice b m mb) t 32
  cases h1 : (CP n l d r p s == 0) with
  | false =>
    have E : Hid (false = WO n l d r p s ks k os m t) := wo_no (fun h => by rw [h1] at h; cases h.1)
    go_enter Tryz.func17, Tryz.ntmps17
    go_wp2_with fail
    refine (Cf.s_ConfigOk _ _ _ _ _ _ _).mono ?_
    rintro e w2 ⟨rfl, b2⟩
    have ⟨c0, c1, c2, c3, c4, c5, c6, c7, c8, c9⟩ := S9.keep k1.out b2
    try rw [h1]
    go_wp2_with (go_at_call 36; refine (Cf.s_in _ _ _ (by decide) _).mono ?_; rintro e w2 ⟨rfl, rfl⟩)
    go_ret
    exact ⟨Sp.retb E.out, c9.out⟩
  | true =>
    by_cases h2 : (k : Int) = n
    case neg =>
      have h2b : ((k : Int) != n) = true := by simp [h2]
      have E : Hid (false = WO n l d r p s ks k os m t) := wo_no (fun h => h2 (by simpa using h.2.1))
      go_enter Tryz.func17, Tryz.ntmps17
      go_wp2_with fail
      refine (Cf.s_ConfigOk _ _ _ _ _ _ _).mono ?_
      rintro e w2 ⟨rfl, b2⟩
      have ⟨c0, c1, c2, c3, c4, c5, c6, c7, c8, c9⟩ := S9.keep k1.out b2
      try rw [h1]
      go_wp2_with (go_at_call 36; refine (Cf.s_in _ _ _ (by decide) _).mono ?_; rintro e w2 ⟨rfl, rfl⟩)
      go_ret
      exact ⟨Sp.retb E.out, c9.out⟩
    case pos =>
      have h2b : ((k : Int) != n) = false := by simp [h2]
      by_cases h3 : m = k
      case neg =>
        have h3b : ((m : Int) != (k : Int)) = true := by simp; omega
        have E : Hid (false = WO n l d r p s ks k os m t) := wo_no (fun h => h3 (by have := h.2.2.1; simp at this; omega))
        go_enter Tryz.func17, Tryz.ntmps17
        go_wp2_with fail
        refine (Cf.s_ConfigOk _ _ _ _ _ _ _).mono ?_
        rintro e w2 ⟨rfl, b2⟩
        have ⟨c0, c1, c2, c3, c4, c5, c6, c7, c8, c9⟩ := S9.keep k1.out b2
        try rw [h1]
        go_wp2_with (go_at_call 36; refine (Cf.s_in _ _ _ (by decide) _).mono ?_; rintro e w2 ⟨rfl, rfl⟩)
        go_ret
        exact ⟨Sp.retb E.out, c9.out⟩
      case pos =>
        subst h3
        cases h4 : IN 0 1000000 t with
        | false =>
          have E : Hid (false = WO n l d r p s ks m os m t) := wo_no (fun h => by rw [h4] at h; cases h.2.2.2.1)
          go_enter Tryz.func17, Tryz.ntmps17
          go_wp2_with fail
          refine (Cf.s_ConfigOk _ _ _ _ _ _ _).mono ?_
          rintro e w2 ⟨rfl, b2⟩
          have ⟨c0, c1, c2, c3, c4, c5, c6, c7, c8, c9⟩ := S9.keep k1.out b2
          try rw [h1]
          go_wp2_with (go_at_call 36; refine (Cf.s_in _ _ _ (by decide) _).mono ?_; rintro e w2 ⟨rfl, rfl⟩)
          go_ret
          exact ⟨Sp.retb E.out, c9.out⟩
        | true =>
          obtain ⟨_, hrow⟩ := hr
          obtain ⟨_, hrow2⟩ := hs
          go_enter Tryz.func17, Tryz.ntmps17
          go_wp2_with fail
          refine (Cf.s_ConfigOk _ _ _ _ _ _ _).mono ?_
          rintro e w2 ⟨rfl, b2⟩
          have ⟨c0, c1, c2, c3, c4, c5, c6, c7, c8, c9⟩ := S9.keep k1.out b2
          try rw [h1]
          have B2 := c9.out
          go_wp2_with (go_at_call 36; refine (Cf.s_in _ _ _ (by decide) _).mono ?_; rintro e w2 ⟨rfl, rfl⟩)
          go_loop [3] (fun i => ∃ j : Nat, j ≤ m ∧ i = .int .i64 j ∧ Hid (allIn 0 2 ks j = true ∧ allIn (-1000000000000000) 1000000000000000 os j = true)) (fun i => m - (intOf i).toNat)
          case atStart => exact ⟨0, Nat.zero_le _, rfl, rfl, rfl⟩
          case round =>
            obtain ⟨j, hj, rfl, HT⟩ := hrel
            by_cases hlt : j < m
            · have hi : (j : Int) < m := by omega
              rcases hrow with hrow | ⟨g, off, rfl, hB, hc⟩
              · omega
              rcases hrow2 with hrow2 | ⟨h, off2, rfl, hB2, hc2⟩
              · omega
              have hc1 := hc j hlt
              rw [← B2.cell (p := ⟨g, off + j, none⟩) hB] at hc1
              have hc3 := hc2 j hlt
              rw [← B2.cell (p := ⟨h, off2 + j, none⟩) hB2] at hc3
              cases h5 : LK 0 2 (el ks j) with
              | true =>
                have E : Hid (false = WO n l d r p s ks m os m t) := wo_no (fun h => by
                  have := all_no (lo := 0) (hi := 2) (zs := ks) (k := j) (by rw [allIn, h5]; simp) m hlt
                  rw [this] at h; cases h.2.2.2.2.1)
                go_wp2_with (go_at_call 36; refine (Sp.s_l1In _ _ _ _).mono ?_; rintro e w2 ⟨rfl, rfl⟩)
                go_ret
                exact ⟨Sp.retb E.out, B2⟩
              | false =>
                cases h6 : LK (-1000000000000000) 1000000000000000 (el os j) with
                | true =>
                  have E : Hid (false = WO n l d r p s ks m os m t) := wo_no (fun h => by
                    have := all_no (lo := -1000000000000000) (hi := 1000000000000000) (zs := os) (k := j) (by rw [allIn, h6]; simp) m hlt
                    rw [this] at h; cases h.2.2.2.2.2)
                  go_wp2_with (first | (go_at_call 36; refine (Sp.s_l1In _ _ _ _).mono ?_; rintro e w2 ⟨rfl, rfl⟩) | (go_at_call 37; refine (l5Off _ _).mono ?_; rintro e w2 ⟨rfl, rfl⟩))
                  go_ret
                  exact ⟨Sp.retb E.out, B2⟩
                | false =>
                  have HN : Hid (allIn 0 2 ks (j + 1) = true ∧ allIn (-1000000000000000) 1000000000000000 os (j + 1) = true) := ⟨by rw [allIn, h5, HT.out.1]; rfl, by rw [allIn, h6, HT.out.2]; rfl⟩
                  go_wp2_with (first | (go_at_call 36; refine (Sp.s_l1In _ _ _ _).mono ?_; rintro e w2 ⟨rfl, rfl⟩) | (go_at_call 37; refine (l5Off _ _).mono ?_; rintro e w2 ⟨rfl, rfl⟩))
                  go_round
                  case rel => exact ⟨j + 1, by omega, by go_num, HN⟩
                  case measure => simp [intOf]; omega
            · have hi : ¬ (j : Int) < m := by omega
              have e : j = m := by omega
              subst e
              have hr2 : Hid (Row w2 w2.heap.size a j ks) := by
                have : Row w w.heap.size a j ks := ⟨by assumption, hrow⟩
                exact (this.later B2 (Nat.le_refl _)).more B2.size
              have E : Hid (decide ((bad ks j : Int) ≤ l) = WO n l d r p s ks j os j t) := wo_yes h1 (by simpa using h2) (by simpa using h2) h4 HT.out.1 HT.out.2
              go_wp2_with fail
              go_quiet (first | (go_at_call 38; refine Calls.quiet_of_same (l5Bad _ _ _ ks _ hr2.out hk)))
              go_wp2
              go_ret
              exact ⟨Sp.retb E.out, below_drewN B2 _⟩

end Go.Proofs.YtcgcmceobmpdiaaGreat.Wl
