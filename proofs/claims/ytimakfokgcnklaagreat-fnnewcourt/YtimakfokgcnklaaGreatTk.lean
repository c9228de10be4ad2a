/-
  The steps of a walk over a region that draws its order, with what is asked beside each paid at once.
-/
import Derived.Test.YtimakfokgcnklaaGreatRows
import Derived.WalkKit
import Derived.Deep.RegionHeld3
namespace Go.Proofs.YtimakfokgcnklaaGreat.Tk
set_option linter.unusedVariables false

section
variable {P : Program} {ops : Array Oper} {Q : Exit → Act → World → Prop} {md : Region.Mode} {S : World → Prop}

/-- What yields its value in every world that meets S is taken. -/
theorem W (i : Nat) (d : Option Tmp) (o : Op) (y : TypeId) (g : Option (Nat × Bool)) {p : String} {f : Array Edge} {v : Value} {fuel : Nat} {listed l' : Array Bool} {a a' : Act} {w : World}
    (h : wpAnyH P md ops Q S fuel l' a' w)
    (hi : ops[i]? = some ⟨d, o, y, p, f, g⟩ := by exact rfl)
    (hs : Region.noSelect ops = true := by kernel_rfl) (hf : Region.free md ops listed i = true := by kernel_rfl) (hr : (Region.ready md ops listed).contains i = true := by kernel_rfl)
    (hQ : ∀ c a w, Q (.panic c) (a.put d v) w → Q (.panic c) a w := by exact fun _ _ _ h => h)
    (hw : Region.wanted ⟨d, o, y, p, f, g⟩ (yielded ops a.tmps) = true := by rfl)
    (hy : ∀ w, S w → (execOp a.eval ⟨d, o, y, p, f, g⟩).run P w = .ok (.value v) w := by (intro w hSw; (try dsimp only at hSw); go_simp; first | done | with_reducible rfl))
    (hS : S w := by assumption)
    (hl : listed.setIfInBounds i true = l' := by ((try simp only [List.setIfInBounds_toArray, List.set_cons_zero, List.set_cons_succ]); first | done | exact rfl))
    (ha : a.put d v = a' := by ((try simp only [Act.put, List.setIfInBounds_toArray, List.set_cons_zero, List.set_cons_succ]); first | done | exact rfl)) :
    wpAnyH P md ops Q S (fuel + 1) listed a w := by
  subst hl; subst ha
  exact wpAnyH_take (oi := ⟨d, o, y, p, f, g⟩) hi hs hf hr hQ (Or.inl ⟨hw, hy⟩) hS h

/-- What is not wanted is passed by. -/
theorem N (i : Nat) (d : Option Tmp) (o : Op) (y : TypeId) (g : Option (Nat × Bool)) {p : String} {f : Array Edge} {fuel : Nat} {listed l' : Array Bool} {a a' : Act} {w : World}
    (h : wpAnyH P md ops Q S fuel l' a' w)
    (hi : ops[i]? = some ⟨d, o, y, p, f, g⟩ := by exact rfl)
    (hs : Region.noSelect ops = true := by kernel_rfl) (hf : Region.free md ops listed i = true := by kernel_rfl) (hr : (Region.ready md ops listed).contains i = true := by kernel_rfl)
    (hQ : ∀ c a w, Q (.panic c) (a.put d undef) w → Q (.panic c) a w := by exact fun _ _ _ h => h)
    (hw : Region.wanted ⟨d, o, y, p, f, g⟩ (yielded ops a.tmps) = false := by rfl)
    (hS : S w := by assumption)
    (hl : listed.setIfInBounds i true = l' := by ((try simp only [List.setIfInBounds_toArray, List.set_cons_zero, List.set_cons_succ]); first | done | exact rfl))
    (ha : a.put d undef = a' := by ((try simp only [Act.put, List.setIfInBounds_toArray, List.set_cons_zero, List.set_cons_succ]); first | done | exact rfl)) :
    wpAnyH P md ops Q S (fuel + 1) listed a w := by
  subst hl; subst ha
  exact wpAnyH_take (oi := ⟨d, o, y, p, f, g⟩) hi hs hf hr hQ (Or.inr ⟨hw, rfl⟩) hS h

/-- One alone may come up: it is carried out. -/
theorem R (i : Nat) (d : Option Tmp) (o : Op) (y : TypeId) (g : Option (Nat × Bool)) {p : String} {f : Array Edge} {fuel : Nat} {listed l' : Array Bool} {a : Act} {w : World}
    (h : ∀ K' : Act → World → Prop, Shut (∀ a w, S w → (S w → wpAnyH P md ops Q S fuel l' a w) → K' a w) → if Region.wanted ⟨d, o, y, p, f, g⟩ (yielded ops a.tmps) = true then Oper.wp P ⟨d, o, y, p, f, g⟩ a w K' Q else K' (a.put d undef) w)
    (hi : ops[i]? = some ⟨d, o, y, p, f, g⟩ := by exact rfl)
    (hr : Region.ready md ops listed = [i] := by kernel_rfl)
    (hl : listed.setIfInBounds i true = l' := by ((try simp only [List.setIfInBounds_toArray, List.set_cons_zero, List.set_cons_succ]); first | done | exact rfl)) :
    wpAnyH P md ops Q S (fuel + 1) listed a w := by
  subst hl
  exact wpAnyH_ready hr (by simp) (AllReadyH.cons hi h AllReadyH.nil)

/-- S of the world behind what was carried out. -/
theorem kv {W : Act → World → Prop} {K : Act → World → Prop} (hK : Shut (∀ a w, S w → (S w → W a w) → K a w)) {w : World} (h : S w) : S w := h
end

end Go.Proofs.YtimakfokgcnklaaGreat.Tk
