/-
  A config drawn for a law (spec.DrawCodeOf): it returns, and writes nothing that was there ahead of it.
-/
import Derived.Test.YteijagcpohiejaaDrawAny
namespace Go.Proofs.Yteijagcpohiejaa.Dr
open Go.ChangeShapes Go.WideShapes Go.ChangeAt Go.RowKit
open Cf (cfg CP CR AM N1 L1 R1 P1)
set_option linter.unusedVariables false
set_option linter.unusedSimpArgs false

set_option maxHeartbeats 2000000 in
theorem drawCodeOf (B : Nat) (a : Option Addr) (len cap : Nat) (w : World) (hB : B ≤ w.heap.size) (hc : Code w B a len) :
    Calls Try.prog 12 #[.slice a len cap] w fun e w' => (∃ n l d r q s : Int, e = .returned (cfg n l d r q s)) ∧ Below w.heap.size w w' := by
  have hR0 := Room.new w zeros 25
  have code1 := hc.later ((Below.refl B w).alloc hB (.cells zeros.toArray 25))
  go_enter Try.func12, Try.ntmps12
  go_wp2_with fail
  refine (l1New B a len cap _ (by simp; omega) code1).mono ?_
  rintro e w1 ⟨rfl, st1⟩
  have z1 := st1.step.size
  (try simp at z1)
  have hp1 := st1.lt
  (try simp at hp1)
  have hR1 := hR0.step st1.step (by simp)
  have e1 : (w.alloc (.cells zeros.toArray 25)).heap.size = w.heap.size + 1 := by simp
  rw [e1] at st1
  have stq := st1.here
  go_wp2_with fail
  refine (l4DrawAny w1 B (w.heap.size + 1) a len cap w1 stq).mono ?_
  rintro e w2 ⟨⟨n, l, d, r, q, s, rfl⟩, st2⟩
  have z2 := st2.step.size
  have hR2 := hR1.step st2.step (by simp)
  have hb2 : Below w.heap.size w w2 := by
    have k := (st1.step.trans st2.step).fresh (by simp)
    exact ((Below.refl _ _).alloc (Nat.le_refl _) _).trans (k.mono (by simp))
  have r0d := hR2.cell 0 rfl
  have r1d := hR2.cell 1 rfl
  have r2d := hR2.cell 2 rfl
  have r3d := hR2.cell 3 rfl
  have r4d := hR2.cell 4 rfl
  have r5d := hR2.cell 5 rfl
  have f0d := hR2.froz 0 rfl
  have f1d := hR2.froz 1 rfl
  have f2d := hR2.froz 2 rfl
  have f3d := hR2.froz 3 rfl
  have f4d := hR2.froz 4 rfl
  have f5d := hR2.froz 5 rfl
  go_wp2_with fail
  have F6 := hR2.six (.int .i64 n) (.int .i64 l) (.int .i64 d) (.int .i64 r) (.int .i64 q) (.int .i64 s)
  refine bodyPost_ret (v := cfg n l d r q s) (by simp [results, Try.results12, go_sem, F6.cell 0 rfl, F6.cell 1 rfl, F6.cell 2 rfl, F6.cell 3 rfl, F6.cell 4 rfl, F6.cell 5 rfl]) rfl ⟨⟨_, _, _, _, _, _, rfl⟩, ?_⟩
  exact (((((hb2.setCell (Nat.le_refl _) _).setCell (Nat.le_refl _) _).setCell (Nat.le_refl _) _).setCell (Nat.le_refl _) _).setCell (Nat.le_refl _) _).setCell (Nat.le_refl _) _

end Go.Proofs.Yteijagcpohiejaa.Dr
