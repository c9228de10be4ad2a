/-
  impl's chapter 11: MergedSeals, CountFor, ProofOk, BestRound.
-/
import Derived.Test.YtdjeffjjijkhbaaIm1
import Derived.Test.YtdjeffjjijkhbaaIm3
