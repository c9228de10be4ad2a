/-
  append to a slice of the call's own, and where the new block lies.
-/
import Derived.Test.YtimakfokgcnklaaGreatMark
import Derived.Maps.AppendAt
import Derived.Deep.RegionLaw
namespace Go.Proofs.YtimakfokgcnklaaGreat.Ow
open Go.ChangeShapes Go.WideShapes Go.ChangeAt Go.RowKit
open Ls (el Row)
set_option linter.unusedVariables false

/-- append to a slice of the call's own, as one step of a region that draws its order; where its block is. -/
theorem step_own_at {P : Program} {ops : Array Oper} {o : Oper} {a : Act} {w : World} {K : Act → World → Prop} {Q : Exit → Act → World → Prop} {E : Prop} (hgd : o.guard = none) (s x : Operand) (t : TypeId)
    (ho : o.op = .call { callee := .builtin .append, args := #[s, x], argTypes := #[t, t] })
    (base : Nat) (e : TypeId) (i : TypeInfo) (z : Value) (size bytes : Nat) (ht : P.underlying t = some (.slice e)) (hi : P.info? e = some i) (hz : i.zero = some z)
    (hsize : i.size = size) (hby : i.bytes = bytes) (hzs : z.cells.size = size) (hsz : 0 < size)
    (v : Value) (n : Nat) (xs : List Value) (hs : a.eval s = v) (hown : w.ownsRow base e size v n xs)
    (ad : Addr) (m c : Nat) (news : List Value) (hx : a.eval x = .slice (some ad) m c) (hl : news.length = m * size) (hnews : ∀ j u, news[j]? = some u → w.cell? (ad.add j) = some u) (h1 : ∀ u ∈ news, u.oneCell' = true)
    (h63 : n + m ≤ maxLen) (hbytes : (n + m) * bytes ≤ 140737488355328) (hbase : base ≤ w.heap.size)
    (h : ∀ v' w', w'.ownsRow base e size v' (n + m) (xs ++ news) → w.grownBy w' v.ownBlock → (v' = .slice none 0 0 ↔ v = .slice none 0 0 ∧ m = 0) → (v'.ownBlock = v.ownBlock ∨ v'.ownBlock = some w.heap.size) → K (a.put o.dst v') w') :
    if Region.wanted o (yielded ops a.tmps) = true then Oper.wp P o a w K Q else E := by
  have hw : Region.wanted o (yielded ops a.tmps) = true := by simp [Region.wanted, hgd]
  rw [if_pos hw]
  obtain ⟨v', w', hr, h2, h3, h4, h5⟩ := run_append_own_at (P := P) w base t o.type e i z size bytes ht hi hz hsize hby hzs hsz v n xs hown ad m c news hl hnews h1 h63 hbytes hbase
  unfold Oper.wp execOp
  simp only [ho, resolve, invoke, builtin, Sem.run_bind, Sem.run_pure, Result.andThen_ok, List.map_toArray, List.map_cons, List.map_nil, hs, hx, hr]
  exact h v' w' h2 h3 h4 h5

/-- One more behind a row, and where it is. -/
theorem more_at {W w2 : World} {B t k : Nat} {xs : List Int} {x : Int} {v2 : Value} {o : Obj} (h : w2.ownsRow B 2 1 v2 (k + 1) (ints xs ++ ints [x])) (hn : v2 ≠ .slice none 0 0)
    (hat : v2.ownBlock = some t ∨ v2.ownBlock = some (W.alloc o).heap.size) : ∃ t' c', v2 = .slice (some ⟨t', 0, none⟩) (k + 1) c' ∧ Own w2 B t' (k + 1) c' (xs ++ [x]) ∧ (t' = t ∨ t' = W.heap.size + 1) := by
  obtain ⟨t', c', e, ho⟩ := own_of (zs := xs ++ [x]) h (by simp [ints]) hn
  refine ⟨t', c', e, ho, ?_⟩
  rw [e] at hat
  rcases hat with hat | hat
  · exact .inl (Option.some.inj hat)
  · exact .inr (by have := Option.some.inj hat; simpa using this)
theorem Own.kept {W w2 : World} {B t a k c : Nat} {zs : List Int} {o : Obj} (h : Own W B a k c zs) (hg : (W.alloc o).grownBy w2 (some t)) (hne : a ≠ t) : Own w2 B a k c zs :=
  World.ownsRow.kept (World.ownsRow.alloc h _) hg (.inr (fun e => hne (Option.some.inj e)))
theorem take_el (zs : List Int) (j : Nat) (h : j < zs.length) : zs.take (j + 1) = zs.take j ++ [el zs j] := by
  rw [List.take_add_one, List.getElem?_eq_getElem h]
  simp [el, List.getD, h]

end Go.Proofs.YtimakfokgcnklaaGreat.Ow
