/-
  Two lists of the same seals are alike (laws.likeSeals).
-/
import Derived.Test.YtdjeffjjijkhbaaMg1
import Derived.Test.YtdjeffjjijkhbaaTk
namespace Go.Proofs.Ytdjeffjjijkhbaa.Mg
open Go.ChangeShapes Go.WideShapes Go.ChangeAt Go.RowKit
open Rm (Room)
open Sb (S3 es fl sl Row3 SHas)
set_option linter.unusedVariables false
set_option linter.unusedSimpArgs false

set_option maxHeartbeats 4000000 in
theorem likeSeals (a b : Option Addr) (n ca cb : Nat) (ss : List S3) (w : World) (ha : Row3 w w.heap.size a n ss) (hb : Row3 w w.heap.size b n ss) (hn : n ≤ 3000000) :
    Calls Try.prog 12 #[.slice a n ca, .slice b n cb] w fun e w' => e = .returned (.bool true) ∧ Below w.heap.size w w' := by
  go_enter Try.func12, Try.ntmps12
  go_wp2
  go_loopw [5] (fun q wr => ∃ k : Nat, k ≤ n ∧ q = .int .i64 (k : Int) ∧ Below w.heap.size w wr) (fun q _ => n - (intOf q).toNat)
  case atStart => exact ⟨0, Nat.zero_le _, rfl, Below.refl _ _⟩
  case round =>
    obtain ⟨k, hk, rfl, BB⟩ := hrel
    by_cases hlt : k < n
    · have hi : (k : Int) < n := by omega
      obtain ⟨_, hz | ⟨b1, o1, rfl, hB1, hc1⟩⟩ := ha
      · omega
      obtain ⟨_, hz | ⟨b2, o2, rfl, hB2, hc2⟩⟩ := hb
      · omega
      obtain ⟨q0, q1, q2⟩ := hc1 k hlt
      obtain ⟨p0, p1, p2⟩ := hc2 k hlt
      clear hc1 hc2
      have e0 := (BB.cell (p := ⟨b1, o1 + k * 3, none⟩) hB1).trans q0
      have f0 := (BB.cell (p := ⟨b2, o2 + k * 3, none⟩) hB2).trans p0
      have e1 := (BB.cell (p := ⟨b1, o1 + k * 3 + 1, none⟩) hB1).trans q1
      have f1 := (BB.cell (p := ⟨b2, o2 + k * 3 + 1, none⟩) hB2).trans p1
      have e2 := (BB.cell (p := ⟨b1, o1 + k * 3 + 2, none⟩) hB1).trans q2
      have f2 := (BB.cell (p := ⟨b2, o2 + k * 3 + 2, none⟩) hB2).trans p2
      clear q0 q1 q2 p0 p1 p2
      have hv : ∀ W, (binOp .neq 32 (sl (es ss k)) (sl (es ss k))).run Try.prog W = .ok (.bool false) W := fun W => by rw [neqS, decide_eq_true rfl]; rfl
      go_wp2_with fail
      refine wp_region_noPanic ?_
      refine wp_region_held_drew (S := (fun w' => (w'.cell? ⟨b1, o1 + k * 3, none⟩ = some (.int .i64 (es ss k).1) ∧ w'.cell? ⟨b1, o1 + k * 3 + 1, none⟩ = some (.int .i64 (es ss k).2.1) ∧ w'.cell? ⟨b1, o1 + k * 3 + 2, none⟩ = some (.int .i64 (es ss k).2.2)) ∧ (w'.cell? ⟨b2, o2 + k * 3, none⟩ = some (.int .i64 (es ss k).1) ∧ w'.cell? ⟨b2, o2 + k * 3 + 1, none⟩ = some (.int .i64 (es ss k).2.1) ∧ w'.cell? ⟨b2, o2 + k * 3 + 2, none⟩ = some (.int .i64 (es ss k).2.2)) ∧ Hid (Below w.heap.size w w'))) (by kernel_rfl) ⟨⟨e0, e1, e2⟩, ⟨f0, f1, f2⟩, BB.drew⟩ (fun hHeld => ?_)
      refine Tk.W 0 (some 17) (.move (.tmp 0)) 25 none ?_
      refine Tk.W 1 (some 18) (.move (.tmp 5)) 3 none ?_
      refine Tk.W 2 (some 19) (.indexAddr 25 (.tmp 17) (.tmp 18)) 0 none ?_
      refine Tk.W 3 (some 20) (.load 32 (.tmp 19)) 32 none ?_
      refine Tk.W 4 (some 21) (.move (.tmp 1)) 25 none ?_
      refine Tk.W 5 (some 22) (.move (.tmp 5)) 3 none ?_
      refine Tk.W 6 (some 23) (.indexAddr 25 (.tmp 21) (.tmp 22)) 0 none ?_
      refine Tk.W 7 (some 24) (.load 32 (.tmp 23)) 32 none ?_
      refine Tk.W 8 (some 25) (.binOp .neq 32 (.tmp 20) (.tmp 24) 32) 4 none ?_
      refine wpAnyH_done (by kernel_rfl) ?_ _
      refine NoPanic.normal ?_
      have BB2 := hHeld.2.2.out
      clear hHeld BB
      go_wp2
      go_roundw
      case rel => exact ⟨k + 1, by omega, by go_num, BB2⟩
      case measure => simp [intOf]; omega
    · have hi : ¬ (k : Int) < n := by omega
      obtain rfl : k = n := by omega
      go_wp2
      go_ret
      exact ⟨rfl, BB⟩

end Go.Proofs.Ytdjeffjjijkhbaa.Mg
