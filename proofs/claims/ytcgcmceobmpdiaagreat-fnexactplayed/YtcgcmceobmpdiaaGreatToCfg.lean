/-
  laws.toConfig: the six numbers of a config, handed on as they are.
-/
import Derived.Test.YtcgcmceobmpdiaaGreatCfg2
namespace Go.Proofs.YtcgcmceobmpdiaaGreat.Cf
open Go.ChangeShapes Go.WideShapes Go.ChangeAt Go.RowKit
set_option linter.unusedVariables false

set_option maxHeartbeats 2000000 in
theorem toConfig (n l d r p s : Int) (w : World) :
    Calls Tryz.prog 20 #[cfg n l d r p s] w fun e w' => e = .returned (cfg n l d r p s) ∧ Below w.heap.size w w' := by
  go_enter Tryz.func20, Tryz.ntmps20
  go_wp2
  refine bodyPost_ret (v := cfg n l d r p s) (by simp [results, Tryz.results20, go_sem]) rfl ⟨rfl, ?_⟩
  (repeat (first | exact Below.refl _ _ | assumption | refine Below.setCell ?_ (by first | omega | (simp <;> omega)) _ | refine Below.alloc ?_ (by first | omega | (simp <;> omega)) _ | refine Below.drew ?_ | refine below_drewN ?_ _ | refine Below.trans ?_ (Below.mono (by assumption) (by first | omega | (simp <;> omega)))))

end Go.Proofs.YtcgcmceobmpdiaaGreat.Cf
