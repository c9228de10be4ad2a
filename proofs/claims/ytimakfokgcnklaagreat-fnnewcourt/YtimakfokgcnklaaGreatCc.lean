/-
  slices.Concat of two slices of seals.
-/
import Derived.Test.YtimakfokgcnklaaGreatSf2
import Derived.Test.YtimakfokgcnklaaGreatRi
import Derived.Test.YtimakfokgcnklaaGreatGrw
import Derived.Laws.AppendOwnNone
namespace Go.Proofs.YtimakfokgcnklaaGreat.Mi
open Go.ChangeShapes Go.WideShapes Go.ChangeAt Go.RowKit
open Ls (Row)
open Rm (Room)
open Sb (S3 es fl sl Row3 SHas fl_len fl_at)
open Og (OwnS fl_app)
set_option linter.unusedVariables false
set_option linter.unusedSimpArgs false

theorem own_any {w : World} {base n : Nat} {v : Value} {xs : List Value} (h : w.ownsRow base 125 3 v n xs) : ∃ a c, v = .slice a n c ∧ n ≤ c := by
  rcases h.2 with ⟨rfl, rfl⟩ | ⟨g, cap, cur, rfl, _, _, hnc, _⟩
  · exact ⟨none, 0, rfl, Nat.le_refl _⟩
  · exact ⟨_, _, rfl, hnc⟩
/-- Nothing is appended. -/
theorem run_append_zero {P : Program} {w : World} (base : Nat) (t ty e : TypeId) (i : TypeInfo) (size : Nat) (ht : P.underlying t = some (.slice e)) (hi : P.info? e = some i)
    (v : Value) (n : Nat) (xs : List Value) (hown : w.ownsRow base e size v n xs) (b : Option Addr) (c : Nat) :
    (Builtin.append_ #[t, t] ty #[v, .slice b 0 c]).run P w = .ok v w := by
  rcases hown.2 with ⟨rfl, rfl⟩ | ⟨g, cap, cur, rfl, _, _, hnc, _⟩
  · cases b <;> simp [Builtin.append_, run_underlying ht, sizeOf, typeInfo, hi, Builtin.lenOf, Builtin.firstCells, loadCells, loadCellsFrom]
  · cases b <;> simp [Builtin.append_, run_underlying ht, sizeOf, typeInfo, hi, Builtin.lenOf, Builtin.firstCells, hnc, storeCells, loadCells, loadCellsFrom]
theorem wpList_append_zero {P : Program} {w : World} {ops : Array Oper} {rest : List Oper} {o : Oper} {a : Act} {Q : Exit → Act → World → Prop} (hgd : o.guard = none) (s x : Operand) (t : TypeId)
    (ho : o.op = .call { callee := .builtin .append, args := #[s, x], argTypes := #[t, t] })
    (base : Nat) (e : TypeId) (i : TypeInfo) (size : Nat) (ht : P.underlying t = some (.slice e)) (hi : P.info? e = some i)
    (v : Value) (n : Nat) (xs : List Value) (hs : a.eval s = v) (hown : w.ownsRow base e size v n xs) (b : Option Addr) (c : Nat) (hx : a.eval x = .slice b 0 c)
    (h : wpList P ops Q rest (a.put o.dst v) w) : wpList P ops Q (o :: rest) a w := by
  refine wpList_plain hgd fun K hK => ?_
  have hrun := run_append_zero (P := P) (w := w) base t o.type e i size ht hi v n xs hown b c
  unfold Oper.wp
  simp [execOp, ho, resolve, invoke, builtin, hs, hx, hrun, Result.andThen]
  exact hK _ _ h

/-- Room for so many, in new memory. -/
theorem growNil (s : Nat) (hs : s ≤ 4194304) (w : World) :
    Calls Tryz.prog 133 #[.slice none 0 0, .int .i64 s] w fun e w' => (∃ v, e = .returned v ∧ w'.ownsRow w.heap.size 125 3 v 0 []) ∧ Below w.heap.size w w' := by
  by_cases h0 : s = 0
  · subst h0
    have hcon := Any8.slices_Grow_room Sf.mGrow none 0 0 0 w (Nat.le_refl _) (by omega) (by omega) (by omega)
    change Calls Tryz.prog 133 _ _ _ at hcon
    refine hcon.mono ?_
    rintro e w' ⟨rfl, rfl⟩
    exact ⟨⟨_, rfl, World.ownsRow_nil _ _ _ _⟩, Below.refl _ _⟩
  · obtain ⟨i0, hi, hz0, hz1, hz2⟩ := info_parts Og.infoS
    have hcon := Any8.slices_Grow_grow Sf.mGrow i0 (.agg #[.int .i64 0, .int .i64 0, .int .i64 0]) hi hz0 (by omega) none 0 0 s [] w (Nat.le_refl _) (by omega) (by rw [hz2]; omega) (by omega) (by simp) (fun _ => rfl) (fun a ha => by cases ha)
    change Calls Tryz.prog 133 _ _ _ at hcon
    refine hcon.mono ?_
    rintro e w' ⟨rfl, rfl⟩
    have hge := grownCap_ge w (0 + s) 0 125
    have hcm : grownCap w (0 + s) 0 125 ≤ maxLen := grownCap_le_maxLen w (0 + s) 0 125 (by unfold maxLen; omega)
    refine ⟨⟨_, rfl, ?_⟩, ((Below.refl _ w).drew).alloc (Nat.le_refl _) _⟩
    exact World.ownsRow_made w.drew _ (grownCap w (0 + s) 0 125) (Nat.le_refl _) hcm (by
      simp only [Array.size_append, List.size_toArray, size_zeroCells, List.length_nil]
      show 0 + (0 + s - 0) * 3 + (grownCap w (0 + s) 0 125 - (0 + s)) * 3 = _
      omega)

theorem news3 {w : World} {b off n : Nat} {A : List S3} (hl : A.length = n) (hc : ∀ k, k < n → w.cell? ⟨b, off + k * 3, none⟩ = some (.int .i64 (es A k).1) ∧ w.cell? ⟨b, off + k * 3 + 1, none⟩ = some (.int .i64 (es A k).2.1) ∧ w.cell? ⟨b, off + k * 3 + 2, none⟩ = some (.int .i64 (es A k).2.2)) :
    ∀ j u, (fl A)[j]? = some u → w.cell? ((⟨b, off, none⟩ : Addr).add j) = some u := by
  intro j u hu
  have hj : j < A.length * 3 := by
    have := (List.getElem?_eq_some_iff.1 hu).1
    rw [fl_len] at this; exact this
  rw [fl_three A j hj] at hu
  cases hu
  rw [Ow.addr_add]
  obtain ⟨q0, q1, q2⟩ := hc (j / 3) (by omega)
  rcases (show j % 3 = 0 ∨ j % 3 = 1 ∨ j % 3 = 2 by omega) with h | h | h
  · rw [h, show off + j = off + j / 3 * 3 by omega]; exact q0
  · rw [h, show off + j = off + j / 3 * 3 + 1 by omega]; exact q1
  · rw [h, show off + j = off + j / 3 * 3 + 2 by omega]; exact q2

theorem own_row3 {w : World} {base n c : Nat} {a : Option Addr} {l : List S3} (h : w.ownsRow base 125 3 (.slice a n c) n (fl l)) : Row3 w w.heap.size a n l := by
  rcases h.2 with ⟨e, rfl⟩ | ⟨g, cap, cur, e, _⟩
  · refine ⟨?_, .inl rfl⟩
    have := h.1
    rw [fl_len] at this
    omega
  · cases e
    exact Og.OwnS.row (B := base) h
def sm (n m : Nat) : Nat → Nat
  | 0 => 0
  | 1 => n
  | _ => n + m
def sl2 (A B : List S3) : Nat → List S3
  | 0 => []
  | 1 => A
  | _ => A ++ B

set_option maxHeartbeats 8000000 in
set_option maxRecDepth 100000 in
theorem concat (p : Nat) (a : Option Addr) (n ca : Nat) (A : List S3) (b : Option Addr) (m cb : Nat) (B : List S3) (w : World) (e0 : w.cell? ⟨p, 0, none⟩ = some (.slice a n ca)) (e1 : w.cell? ⟨p, 1, none⟩ = some (.slice b m cb)) (hp : p < w.heap.size)
    (ha : Row3 w w.heap.size a n A) (hn : n ≤ 1048576) (hb : Row3 w w.heap.size b m B) (hm : m ≤ 1048576) :
    Calls Tryz.prog 121 #[.slice (some ⟨p, 0, none⟩) 2 2] w fun e w' => (∃ v c, e = .returned (.slice v (n + m) c) ∧ Row3 w' w'.heap.size v (n + m) (A ++ B)) ∧ Below w.heap.size w w' := by
  obtain ⟨i0, hi, hz0, hz1, hz2⟩ := info_parts Og.infoS
  have lA : A.length = n := ha.1
  have lB : B.length = m := hb.1
  go_enter Tryz.func121, Tryz.ntmps121
  go_wp2_with fail
  go_loopw [3, 11] (fun s q wr => ∃ k : Nat, k ≤ 2 ∧ s = .int .i64 ((sm n m k : Nat) : Int) ∧ q = .int .i64 (k : Int) ∧ w = wr) (fun _ q _ => 2 - (intOf q).toNat)
  case atStart => exact ⟨0, by omega, rfl, rfl, rfl⟩
  case round =>
    obtain ⟨k, hk, rfl, rfl, rfl⟩ := hrel
    match k, hk with
    | 0, _ =>
      have hs : sm n m 0 = 0 := rfl
      rw [hs]
      go_wp2
      go_roundw
      case rel => exact ⟨1, by omega, by show _ = Value.int .i64 (n : Int); go_num, by go_num, by first | trivial | rfl⟩
      case measure => simp [intOf]
    | 1, _ =>
      have hs : sm n m 1 = n := rfl
      rw [hs]
      have h0 : ¬ (IntKind.i64.wrap ((n : Int) + (m : Int)) < 0) := by rw [IntKind.wrap_i64]; omega
      go_wp2
      go_roundw
      case rel => exact ⟨2, by omega, by show _ = Value.int .i64 ((n + m : Nat) : Int); go_num, by go_num, by first | trivial | rfl⟩
      case measure => simp [intOf]
    | 2, _ =>
      have hs : sm n m 2 = n + m := rfl
      rw [hs]
      go_wp2_with fail
      refine (growNil (n + m) (by omega) _).mono ?_
      rintro e w1 ⟨⟨v1, rfl, O1⟩, B1⟩
      obtain ⟨va1, vc1, rfl, _⟩ := own_any O1
      go_wp2_with fail
      go_loopw [6, 27] (fun v q wr => ∃ (k : Nat) (va : Option Addr) (vn vc : Nat), k ≤ 2 ∧ v = .slice va vn vc ∧ q = .int .i64 (k : Int) ∧ Hid (wr.ownsRow w.heap.size 125 3 (.slice va vn vc) (sm n m k) (fl (sl2 A B k)) ∧ Below w.heap.size w wr)) (fun _ q _ => 2 - (intOf q).toNat)
      case atStart => exact ⟨0, va1, 0, vc1, by omega, rfl, rfl, ⟨O1, B1⟩⟩
      case round =>
        clear O1 B1
        obtain ⟨k, va, vn, vc, hk, rfl, rfl, HO⟩ := hrel
        have OS := HO.out.1
        have BB := HO.out.2
        clear HO
        match k, hk with
        | 0, _ =>
          have c0 := (BB.cell (p := ⟨p, 0, none⟩) hp).trans e0
          by_cases h0 : n = 0
          · have hA : A = [] := List.length_eq_zero_iff.1 (by omega)
            have OS1 : wr.ownsRow w.heap.size 125 3 (.slice va vn vc) (sm n m 1) (fl (sl2 A B 1)) := by show wr.ownsRow w.heap.size 125 3 (.slice va vn vc) n (fl A); rw [h0, hA]; exact OS
            rw [h0] at c0
            clear h0 hA
            go_wp2_with (at_builtin; refine wpList_append_zero rfl (.tmp 31) (.tmp 32) 32 rfl w.heap.size 125 i0 3 Tryz.underlying32 hi _ _ _ rfl OS a ca rfl ?_)
            go_roundw
            case rel => exact ⟨1, va, vn, vc, by omega, rfl, by go_num, ⟨OS1, BB⟩⟩
            case measure => simp [intOf]
          · obtain ⟨_, hz | ⟨bb, off, rfl, hB, hc⟩⟩ := ha
            · omega
            have HN := news3 lA (fun k hk => by
              have q : ∀ o, wr.cell? ⟨bb, o, none⟩ = w.cell? ⟨bb, o, none⟩ := fun o => BB.cell (p := ⟨bb, o, none⟩) hB
              rw [q, q, q]; exact hc k hk)
            go_wp2_with (at_builtin; refine wpList_append_own_at _ rfl (.tmp 31) (.tmp 32) 32 rfl w.heap.size 125 i0 (.agg #[.int .i64 0, .int .i64 0, .int .i64 0]) 3 24 Tryz.underlying32 hi hz0 hz1 hz2 rfl (by decide) _ 0 [] rfl OS ⟨bb, off, none⟩ n ca (fl A) rfl (by rw [fl_len, lA]) HN (Og.fl_one _) (by unfold maxLen; omega) (by omega) BB.size ?_; intro v2 wa hx2 hg2 hn2 ha2)
            rw [Nat.zero_add, List.nil_append] at hx2
            have hsz := BB.size
            replace BB := BB.grown hg2 hsz (fun g hg => (Og.own_lt OS hg).1)
            clear OS hg2 hn2 ha2 HN hc
            obtain ⟨ua, uc, rfl, _⟩ := own_any hx2
            go_roundw
            case rel => exact ⟨1, ua, n, uc, by omega, rfl, by go_num, ⟨hx2, BB⟩⟩
            case measure => simp [intOf]
        | 1, _ =>
          have c1 := (BB.cell (p := ⟨p, 1, none⟩) hp).trans e1
          by_cases h0 : m = 0
          · have hBB : B = [] := List.length_eq_zero_iff.1 (by omega)
            have OS2 : wr.ownsRow w.heap.size 125 3 (.slice va vn vc) (sm n m 2) (fl (sl2 A B 2)) := by show wr.ownsRow w.heap.size 125 3 (.slice va vn vc) (n + m) (fl (A ++ B)); rw [h0, hBB, List.append_nil]; exact OS
            rw [h0] at c1
            clear h0 hBB
            go_wp2_with (at_builtin; refine wpList_append_zero rfl (.tmp 31) (.tmp 32) 32 rfl w.heap.size 125 i0 3 Tryz.underlying32 hi _ _ _ rfl OS b cb rfl ?_)
            go_roundw
            case rel => exact ⟨2, va, vn, vc, by omega, rfl, by go_num, ⟨OS2, BB⟩⟩
            case measure => simp [intOf]
          · obtain ⟨_, hz | ⟨bb, off, rfl, hB, hc⟩⟩ := hb
            · omega
            have HN := news3 lB (fun k hk => by
              have q : ∀ o, wr.cell? ⟨bb, o, none⟩ = w.cell? ⟨bb, o, none⟩ := fun o => BB.cell (p := ⟨bb, o, none⟩) hB
              rw [q, q, q]; exact hc k hk)
            have OS1 : wr.ownsRow w.heap.size 125 3 (.slice va vn vc) n (fl A) := OS
            clear OS
            go_wp2_with (at_builtin; refine wpList_append_own_at _ rfl (.tmp 31) (.tmp 32) 32 rfl w.heap.size 125 i0 (.agg #[.int .i64 0, .int .i64 0, .int .i64 0]) 3 24 Tryz.underlying32 hi hz0 hz1 hz2 rfl (by decide) _ n (fl A) rfl OS1 ⟨bb, off, none⟩ m cb (fl B) rfl (by rw [fl_len, lB]) HN (Og.fl_one _) (by unfold maxLen; omega) (by omega) BB.size ?_; intro v2 wa hx2 hg2 hn2 ha2)
            have OS2 : wa.ownsRow w.heap.size 125 3 v2 (sm n m 2) (fl (sl2 A B 2)) := by show wa.ownsRow w.heap.size 125 3 v2 (n + m) (fl (A ++ B)); rw [fl_app]; exact hx2
            have hsz := BB.size
            replace BB := BB.grown hg2 hsz (fun g hg => (Og.own_lt OS1 hg).1)
            clear OS1 hx2 hg2 hn2 ha2 HN hc
            obtain ⟨ua, uc, rfl, _⟩ := own_any OS2
            go_roundw
            case rel => exact ⟨2, ua, _, uc, by omega, rfl, by go_num, ⟨OS2, BB⟩⟩
            case measure => simp [intOf]
        | 2, _ =>
          obtain ⟨vb, vd, ev, hvc⟩ := own_any OS
          cases ev
          have hR := own_row3 OS
          go_wp2
          go_ret
          exact ⟨⟨va, vc, rfl, hR⟩, BB⟩

end Go.Proofs.YtimakfokgcnklaaGreat.Mi
