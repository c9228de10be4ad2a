/-
  append of a list that may be empty or nil to a slice of one's own; slices.Clone, l1Copy at whatever lists.
-/
import Derived.Test.YtimakfokgcnklaaGreatCt4
import Derived.Test.YtimakfokgcnklaaGreatIm12
import Derived.Lib.SliceRun
namespace Go.Proofs.YtimakfokgcnklaaGreat.Nw
open Go.ChangeShapes Go.WideShapes Go.ChangeAt Go.RowKit
open Ls (el Row)
open Rm (Room)
open Rd (Flags)
open Ow (ints Own)
open Ct (bools OwnB)
open Mi (hid)
set_option linter.unusedVariables false
set_option linter.unusedSimpArgs false

/-- Such a list's values, where there are any. -/
def Src (w : World) (ad : Option Addr) (m : Nat) (news : List Value) : Prop := m = 0 ∨ ∃ p, ad = some p ∧ ∀ j u, news[j]? = some u → w.cell? (p.add j) = some u
theorem run_append_any {P : Program} {w : World} (base : Nat) (t ty e : TypeId) (i : TypeInfo) (z : Value) (size bytes : Nat) (ht : P.underlying t = some (.slice e)) (hi : P.info? e = some i) (hz : i.zero = some z)
    (hsize : i.size = size) (hby : i.bytes = bytes) (hzs : z.cells.size = size) (hsz : 0 < size)
    (v : Value) (n : Nat) (xs : List Value) (hown : w.ownsRow base e size v n xs)
    (ad : Option Addr) (m c : Nat) (news : List Value) (hl : news.length = m * size) (hnews : Src w ad m news) (h1 : ∀ u ∈ news, u.oneCell' = true)
    (h63 : n + m ≤ maxLen) (hbytes : (n + m) * bytes ≤ 140737488355328) (hbase : base ≤ w.heap.size) :
    ∃ v' w', (Builtin.append_ #[t, t] ty #[v, .slice ad m c]).run P w = .ok v' w' ∧ w'.ownsRow base e size v' (n + m) (xs ++ news) ∧ w.grownBy w' v.ownBlock ∧
      (v' = .slice none 0 0 ↔ v = .slice none 0 0 ∧ m = 0) ∧ (v'.ownBlock = v.ownBlock ∨ v'.ownBlock = some w.heap.size) := by
  rcases hnews with rfl | ⟨p, rfl, hp⟩
  · have e0 : news = [] := List.eq_nil_of_length_eq_zero (by omega)
    subst e0
    refine ⟨v, w, ?_, by rw [List.append_nil]; exact hown, World.grownBy.refl _ _, ⟨fun h => ⟨h, rfl⟩, fun h => h.1⟩, .inl rfl⟩
    rcases hown.2 with ⟨rfl, rfl⟩ | ⟨g, cap, cur, rfl, _, _, hnc, _⟩
    · cases ad <;> simp [Builtin.append_, run_underlying ht, sizeOf, typeInfo, hi, Builtin.lenOf, Builtin.firstCells, loadCells, loadCellsFrom]
    · cases ad <;> simp [Builtin.append_, run_underlying ht, sizeOf, typeInfo, hi, Builtin.lenOf, Builtin.firstCells, hnc, storeCells, loadCells, loadCellsFrom]
  · exact run_append_own_at (P := P) w base t ty e i z size bytes ht hi hz hsize hby hzs hsz v n xs hown p m c news hl hp h1 h63 hbytes hbase

theorem wpList_append_any {P : Program} {w : World} {ops : Array Oper} {rest : List Oper} {o : Oper} {a : Act} {Q : Exit → Act → World → Prop} (hgd : o.guard = none) (s x : Operand) (t : TypeId)
    (ho : o.op = .call { callee := .builtin .append, args := #[s, x], argTypes := #[t, t] })
    (base : Nat) (e : TypeId) (i : TypeInfo) (z : Value) (size bytes : Nat) (ht : P.underlying t = some (.slice e)) (hi : P.info? e = some i) (hz : i.zero = some z)
    (hsize : i.size = size) (hby : i.bytes = bytes) (hzs : z.cells.size = size) (hsz : 0 < size)
    (v : Value) (n : Nat) (xs : List Value) (hs : a.eval s = v) (hown : w.ownsRow base e size v n xs)
    (ad : Option Addr) (m c : Nat) (news : List Value) (hx : a.eval x = .slice ad m c) (hl : news.length = m * size) (hnews : Src w ad m news) (h1 : ∀ u ∈ news, u.oneCell' = true)
    (h63 : n + m ≤ maxLen) (hbytes : (n + m) * bytes ≤ 140737488355328) (hbase : base ≤ w.heap.size)
    (h : ∀ v' w', w'.ownsRow base e size v' (n + m) (xs ++ news) → w.grownBy w' v.ownBlock → (v' = .slice none 0 0 ↔ v = .slice none 0 0 ∧ m = 0) → (v'.ownBlock = v.ownBlock ∨ v'.ownBlock = some w.heap.size) → wpList P ops Q rest (a.put o.dst v') w') :
    wpList P ops Q (o :: rest) a w := by
  refine wpList_plain hgd fun K hK => ?_
  obtain ⟨v', w', hr, h2, h3, h4, h5⟩ := run_append_any (P := P) (w := w) base t o.type e i z size bytes ht hi hz hsize hby hzs hsz v n xs hown ad m c news hl hnews h1 h63 hbytes hbase
  unfold Oper.wp execOp
  simp only [ho, resolve, invoke, builtin, Sem.run_bind, Sem.run_pure, Result.andThen_ok, List.map_toArray, List.map_cons, List.map_nil, hs, hx, hr]
  exact hK _ _ (h v' w' h2 h3 h4 h5)

theorem step_own_any {P : Program} {ops : Array Oper} {o : Oper} {a : Act} {w : World} {K : Act → World → Prop} {Q : Exit → Act → World → Prop} {E : Prop} (hgd : o.guard = none) (s x : Operand) (t : TypeId)
    (ho : o.op = .call { callee := .builtin .append, args := #[s, x], argTypes := #[t, t] })
    (base : Nat) (e : TypeId) (i : TypeInfo) (z : Value) (size bytes : Nat) (ht : P.underlying t = some (.slice e)) (hi : P.info? e = some i) (hz : i.zero = some z)
    (hsize : i.size = size) (hby : i.bytes = bytes) (hzs : z.cells.size = size) (hsz : 0 < size)
    (v : Value) (n : Nat) (xs : List Value) (hs : a.eval s = v) (hown : w.ownsRow base e size v n xs)
    (ad : Option Addr) (m c : Nat) (news : List Value) (hx : a.eval x = .slice ad m c) (hl : news.length = m * size) (hnews : Src w ad m news) (h1 : ∀ u ∈ news, u.oneCell' = true)
    (h63 : n + m ≤ maxLen) (hbytes : (n + m) * bytes ≤ 140737488355328) (hbase : base ≤ w.heap.size)
    (h : ∀ v' w', w'.ownsRow base e size v' (n + m) (xs ++ news) → w.grownBy w' v.ownBlock → (v' = .slice none 0 0 ↔ v = .slice none 0 0 ∧ m = 0) → (v'.ownBlock = v.ownBlock ∨ v'.ownBlock = some w.heap.size) → K (a.put o.dst v') w') :
    if Region.wanted o (yielded ops a.tmps) = true then Oper.wp P o a w K Q else E := by
  have hw : Region.wanted o (yielded ops a.tmps) = true := by simp [Region.wanted, hgd]
  rw [if_pos hw]
  obtain ⟨v', w', hr, h2, h3, h4, h5⟩ := run_append_any (P := P) (w := w) base t o.type e i z size bytes ht hi hz hsize hby hzs hsz v n xs hown ad m c news hl hnews h1 h63 hbytes hbase
  unfold Oper.wp execOp
  simp only [ho, resolve, invoke, builtin, Sem.run_bind, Sem.run_pure, Result.andThen_ok, List.map_toArray, List.map_cons, List.map_nil, hs, hx, hr]
  exact h v' w' h2 h3 h4 h5

theorem src_ints {w : World} {a : Option Addr} {n : Nat} {zs : List Int} (h : Row w w.heap.size a n zs) : Src w a n (ints zs) := by
  obtain ⟨hz, h0 | ⟨b, off, rfl, hb, hc⟩⟩ := h
  · exact .inl h0
  · exact .inr ⟨_, rfl, Ow.news hz hc⟩
theorem src_bools {w : World} {a : Option Addr} {n : Nat} {bs : List Bool} (h : Flags w w.heap.size a n bs) : Src w a n (bools bs) := by
  obtain ⟨hz, h0 | ⟨b, off, rfl, hb, hc⟩⟩ := h
  · exact .inl h0
  · exact .inr ⟨_, rfl, Ct.newsb hz hc⟩

set_option maxHeartbeats 1000000 in
theorem l1Copy (a : Option Addr) (n cap : Nat) (zs : List Int) (w : World) (hr : Row w w.heap.size a n zs) (hn : n ≤ 1048576) :
    Calls Tryz.prog 46 #[.slice a n cap] w fun e w' => (∃ g c, e = .returned (.slice (some ⟨g, 0, none⟩) n c) ∧ Own w' w.heap.size g n c zs) ∧ Below w.heap.size w w' := by
  obtain ⟨i0, hi, hz0, hz1, hz2⟩ := info_parts Ls.info
  have HN : ∀ o, Src (w.alloc o) a n (ints zs) := fun o => src_ints ((hr.later ((Below.refl _ _).alloc (Nat.le_refl _) o) (Nat.le_refl _)).more (by simp))
  have hz := hr.1
  go_enter Tryz.func46, Tryz.ntmps46
  go_wp2_with (at_builtin; refine wpList_append_any rfl _ _ 26 rfl w.heap.size 2 i0 (.int .i64 0) 1 8 Tryz.underlying26 hi hz0 hz1 hz2 rfl (by decide) _ _ _ rfl (World.ownsRow_made w #[] 0 (Nat.le_refl _) (by unfold maxLen; omega) rfl) a n cap (ints zs) rfl (by rw [Ow.ints_len]; omega) (HN _) (Ow.one _) (by unfold maxLen; omega) (by omega) (by simp) ?_; intro v1 w1 ho hg hnil _)
  have hv : v1 ≠ .slice none 0 0 := fun e => by have := (hnil.1 e).1; cases this
  rw [Nat.zero_add, List.nil_append] at ho
  obtain ⟨g, c, rfl, ho2⟩ := Ow.own_of (zs := zs) ho rfl hv
  clear ho
  have hB : Below w.heap.size w w1 := ((Below.refl _ _).alloc (Nat.le_refl _) _).grown hg (by simp) (by intro k hk; have e : w.heap.size = k := Option.some.inj hk; omega)
  clear hg hnil hv HN
  go_wp2_with fail
  go_ret
  exact ⟨⟨g, c, rfl, ho2⟩, hB⟩

set_option maxHeartbeats 1000000 in
theorem cloneI (a : Option Addr) (n cap : Nat) (zs : List Int) (w : World) (hr : Row w w.heap.size a n zs) (hn : n ≤ 1048576) :
    Calls Tryz.prog 43 #[.slice a n cap] w fun e w' => (∃ v, e = .returned v ∧ w'.ownsRow w.heap.size 2 1 v n (ints zs)) ∧ Below w.heap.size w w' := by
  obtain ⟨i0, hi, hz0, hz1, hz2⟩ := info_parts Ls.info
  have hz := hr.1
  have qT : ∀ (w : World) (a : Option Addr) (n c n' c' : Nat), (binOp .eql 26 (.slice a n c) (.slice none n' c')).run Tryz.prog w = .ok (.bool a.isNone) w := fun w a n c n' c' => Lib.run_eql_slice_nil w _ _ a n c n' c' Tryz.underlying26
  cases a with
  | none =>
    have h0 : n = 0 := by
      rcases hr.2 with h | ⟨b, off, e, _⟩
      · exact h
      · cases e
    subst h0
    have e0 := List.eq_nil_of_length_eq_zero hz
    subst e0
    have hv : (none : Option Addr).isNone = true := rfl
    go_enter Tryz.func43, Tryz.ntmps43
    go_wp2
    go_ret
    exact ⟨⟨_, rfl, World.ownsRow_nil _ _ _ _⟩, Below.refl _ _⟩
  | some ad =>
    have hv : (some ad).isNone = false := rfl
    have HN : ∀ o, Src (w.alloc o) (some ad) n (ints zs) := fun o => src_ints ((hr.later ((Below.refl _ _).alloc (Nat.le_refl _) o) (Nat.le_refl _)).more (by simp))
    go_enter Tryz.func43, Tryz.ntmps43
    go_wp2_with (at_builtin; refine wpList_append_any rfl _ _ 26 rfl w.heap.size 2 i0 (.int .i64 0) 1 8 Tryz.underlying26 hi hz0 hz1 hz2 rfl (by decide) _ _ _ rfl (World.ownsRow_made w #[] 0 (Nat.le_refl _) (by unfold maxLen; omega) rfl) (some ad) n cap (ints zs) rfl (by rw [Ow.ints_len]; omega) (HN _) (Ow.one _) (by unfold maxLen; omega) (by omega) (by simp) ?_; intro v1 w1 ho hg hnil _)
    rw [Nat.zero_add, List.nil_append] at ho
    have hB : Below w.heap.size w w1 := ((Below.refl _ _).alloc (Nat.le_refl _) _).grown hg (by simp) (by intro k hk; have e : w.heap.size = k := Option.some.inj hk; omega)
    clear hg hnil HN
    go_wp2_with fail
    go_ret
    exact ⟨⟨_, rfl, ho⟩, hB⟩

set_option maxHeartbeats 1000000 in
theorem cloneB (a : Option Addr) (n cap : Nat) (bs : List Bool) (w : World) (hr : Flags w w.heap.size a n bs) (hn : n ≤ 1048576) :
    Calls Tryz.prog 44 #[.slice a n cap] w fun e w' => (∃ v, e = .returned v ∧ w'.ownsRow w.heap.size 4 1 v n (bools bs)) ∧ Below w.heap.size w w' := by
  obtain ⟨i0, hi, hz0, hz1, hz2⟩ := info_parts Ct.info_bool
  have hz := hr.1
  have qT : ∀ (w : World) (a : Option Addr) (n c n' c' : Nat), (binOp .eql 27 (.slice a n c) (.slice none n' c')).run Tryz.prog w = .ok (.bool a.isNone) w := fun w a n c n' c' => Lib.run_eql_slice_nil w _ _ a n c n' c' Tryz.underlying27
  cases a with
  | none =>
    have h0 : n = 0 := by
      rcases hr.2 with h | ⟨b, off, e, _⟩
      · exact h
      · cases e
    subst h0
    have e0 := List.eq_nil_of_length_eq_zero hz
    subst e0
    have hv : (none : Option Addr).isNone = true := rfl
    go_enter Tryz.func44, Tryz.ntmps44
    go_wp2
    go_ret
    exact ⟨⟨_, rfl, World.ownsRow_nil _ _ _ _⟩, Below.refl _ _⟩
  | some ad =>
    have hv : (some ad).isNone = false := rfl
    have HN : ∀ o, Src (w.alloc o) (some ad) n (bools bs) := fun o => src_bools ((hr.later ((Below.refl _ _).alloc (Nat.le_refl _) o) (Nat.le_refl _)).more (by simp))
    go_enter Tryz.func44, Tryz.ntmps44
    go_wp2_with (at_builtin; refine wpList_append_any rfl _ _ 27 rfl w.heap.size 4 i0 (.bool false) 1 1 Tryz.underlying27 hi hz0 hz1 hz2 rfl (by decide) _ _ _ rfl (World.ownsRow_made w #[] 0 (Nat.le_refl _) (by unfold maxLen; omega) rfl) (some ad) n cap (bools bs) rfl (by rw [Ct.bools_len]; omega) (HN _) (Ct.oneb _) (by unfold maxLen; omega) (by omega) (by simp) ?_; intro v1 w1 ho hg hnil _)
    rw [Nat.zero_add, List.nil_append] at ho
    have hB : Below w.heap.size w w1 := ((Below.refl _ _).alloc (Nat.le_refl _) _).grown hg (by simp) (by intro k hk; have e : w.heap.size = k := Option.some.inj hk; omega)
    clear hg hnil HN
    go_wp2_with fail
    go_ret
    exact ⟨⟨_, rfl, ho⟩, hB⟩

end Go.Proofs.YtimakfokgcnklaaGreat.Nw
