/-
  The parcels, the facts of a court, right or not (impl.parcelsOk, factsOk).
-/
import Derived.Test.YtimakfokgcnklaaGreatPe
import Derived.Test.YtimakfokgcnklaaGreatPi
import Derived.Test.YtimakfokgcnklaaGreatRu
import Derived.Deep.Cut
namespace Go.Proofs.YtimakfokgcnklaaGreat.Mi
open Go.ChangeShapes Go.WideShapes Go.ChangeAt Go.RowKit
open Ls (el Row)
open Rm (Room)
open Rd (Flags)
open Ow (ints Own)
open Sb (S3 es es_ext fl sl Row3 SHas)
open Ns
open Sl (KO SR lk_yes lk_no)
open Sp (LK retb reti span)
open Cd
set_option linter.unusedVariables false
set_option linter.unusedSimpArgs false

/-- A block of one's own behind the court's: what it holds. -/
structure Bk (w wr : World) (p : Nat) (vs : List Value) : Prop where
  lo : w.heap.size < p
  lt : p < wr.heap.size
  R : Room wr p vs
theorem Bk.below {w wr w2 : World} {p : Nat} {vs : List Value} (h : Bk w wr p vs) (b : Below wr.heap.size wr w2) : Bk w w2 p vs := ⟨h.lo, Nat.lt_of_lt_of_le h.lt b.size, h.R.below b⟩
theorem Bk.new {w wr : World} {p : Nat} (hp : p = wr.heap.size) (hl : w.heap.size < wr.heap.size) (vs : List Value) (t : TypeId) : Bk w (wr.alloc (.cells vs.toArray t)) p vs := ⟨by omega, by subst hp; simp, Room.at wr vs t p hp⟩
theorem Bk.set {w wr : World} {p : Nat} {vs : List Value} (h : Bk w wr p vs) (i : Nat) (u : Value) : Bk w (wr.setCell ⟨p, i, none⟩ u) p (vs.set i u) := ⟨h.lo, by simpa using h.lt, h.R.set i u⟩
theorem Bk.other {w wr : World} {p q : Nat} {vs : List Value} (h : Bk w wr p vs) (ne : q ≠ p) (i : Nat) (u : Value) : Bk w (wr.setCell ⟨q, i, none⟩ u) p vs := ⟨h.lo, by simpa using h.lt, h.R.setOther ne i u⟩
theorem Bk.own {w y y2 : World} {g n cap : Nat} {zs : List Int} (h : Own y2 y.heap.size g n cap zs) (hl : w.heap.size < y.heap.size) : Bk w y2 g (ints zs) :=
  ⟨Nat.lt_of_lt_of_le hl h.data.2.1, h.lt, fun i v hv => Og.own_cell h i v hv⟩
theorem Bk.row {w wr : World} {g : Nat} {zs : List Int} (h : Bk w wr g (ints zs)) : Row wr wr.heap.size (some ⟨g, 0, none⟩) zs.length zs :=
  ⟨rfl, .inr ⟨g, 0, rfl, h.lt, fun k hk => by
    rw [Nat.zero_add]
    refine h.R.cell k ?_
    simp [ints, el, List.getElem?_eq_getElem hk]⟩⟩

/-- Such a number is among them. -/
def IH (zs : List Int) (x : Int) : Bool := AN (fun k => decide (x = el zs k)) zs.length
theorem ih_mem (zs : List Int) (x : Int) : IH zs x = decide (x ∈ zs) := by
  unfold IH
  by_cases h : x ∈ zs
  · obtain ⟨k, hk, e⟩ := List.getElem_of_mem h
    rw [decide_eq_true h]
    refine an_yes hk (decide_eq_true ?_)
    rw [← e]; simp [el, List.getD, hk]
  · rw [decide_eq_false h]
    refine an_no fun k hk => decide_eq_false fun e => h ?_
    rw [e]; simp [el, List.getD, hk]
theorem hn_mem {bs : List Bool} {k : Nat} {x : Int} : x ∈ HN bs k ↔ ∃ j : Nat, j < k ∧ bs.getD j false = false ∧ x = (j : Int) := by
  induction k with
  | zero => simp [HN]
  | succ k ih =>
    cases h : bs.getD k false with
    | true =>
      rw [hn_lie h, ih]
      constructor
      · rintro ⟨j, hj, q⟩; exact ⟨j, by omega, q⟩
      · rintro ⟨j, hj, q1, q2⟩
        refine ⟨j, ?_, q1, q2⟩
        by_cases e : j = k
        · subst e; rw [h] at q1; cases q1
        · omega
    | false =>
      rw [hn_not h, List.mem_append, ih, List.mem_singleton]
      constructor
      · rintro (⟨j, hj, q⟩ | q)
        · exact ⟨j, by omega, q⟩
        · exact ⟨k, by omega, h, q⟩
      · rintro ⟨j, hj, q1, q2⟩
        by_cases e : j = k
        · subst e; exact .inr q2
        · exact .inl ⟨j, by omega, q1, q2⟩
theorem ih_ho (bs : List Bool) (x : Int) : IH (HN bs bs.length) x = HO bs x := by
  rw [ih_mem]
  by_cases h : x ∈ HN bs bs.length
  · obtain ⟨j, hj, q1, rfl⟩ := hn_mem.1 h
    rw [decide_eq_true h, ho_at hj, q1]; rfl
  · rw [decide_eq_false h]
    by_cases hx : 0 ≤ x ∧ x < (bs.length : Int)
    · obtain ⟨j, rfl⟩ : ∃ j : Nat, x = (j : Int) := ⟨x.toNat, by omega⟩
      have hj : j < bs.length := by omega
      rw [ho_at hj]
      cases q : bs.getD j false with
      | true => rfl
      | false => exact absurd (hn_mem.2 ⟨j, hj, q, rfl⟩) h
    · rw [ho_no hx]

set_option maxHeartbeats 1000000 in
theorem indexI (a : Option Addr) (n cap : Nat) (zs : List Int) (x : Int) (w : World) (hr : Row w w.heap.size a n zs) (hn : n ≤ 1048576) :
    Calls Tryz.prog 125 #[.slice a n cap, .int .i64 x] w fun e w' => (∃ i : Int, e = .returned (.int .i64 i) ∧ decide (0 ≤ i) = IH zs x) ∧ w' = w := by
  have HL : Hid (zs.length = n) := hr.1
  go_enter Tryz.func125, Tryz.ntmps125
  go_wp2
  go_loop [8] (fun i => ∃ k : Nat, k ≤ n ∧ i = .int .i64 k ∧ Hid (AN (fun k => decide (x = el zs k)) k = false)) (fun i => n - (intOf i).toNat)
  case atStart => exact ⟨0, Nat.zero_le _, rfl, rfl⟩
  case round =>
    obtain ⟨k, hk, rfl, HH⟩ := hrel
    by_cases hlt : k < n
    · have hi : (k : Int) < n := by omega
      obtain ⟨_, hz | ⟨b, off, rfl, hB, hc⟩⟩ := hr
      · omega
      have e0 := hc k hlt
      clear hc
      by_cases hx : x = el zs k
      · have HF : Hid (IH zs x = true) := an_yes (by rw [HL.out]; exact hlt) (decide_eq_true hx)
        have hv : (x == el zs k) = true := by simpa using hx
        clear hx
        go_wp2
        go_ret
        exact ⟨⟨_, rfl, by rw [HF.out]; exact decide_eq_true (by omega)⟩, rfl⟩
      · have HN : Hid (AN (fun k => decide (x = el zs k)) (k + 1) = false) := an_next HH.out (decide_eq_false hx)
        have hv : (x == el zs k) = false := by simpa using hx
        clear hx
        go_wp2
        go_round
        case rel => exact ⟨k + 1, by omega, by go_num, HN.out⟩
        case measure => simp [intOf]; omega
    · have hi : ¬ (k : Int) < n := by omega
      obtain rfl : k = n := by omega
      have HF : Hid (IH zs x = false) := by show AN _ zs.length = false; rw [HL.out]; exact HH.out
      go_wp2
      go_ret
      exact ⟨⟨_, rfl, by rw [HF.out]; rfl⟩, rfl⟩

theorem i_contains (a : Option Addr) (n cap : Nat) (zs : List Int) (x : Int) (w : World) (hr : Row w w.heap.size a n zs) (hn : n ≤ 1048576) :
    Calls Tryz.prog 98 #[.slice a n cap, .int .i64 x] w fun e w' => e = .returned (.bool (IH zs x)) ∧ w' = w := by
  go_enter Tryz.func98, Tryz.ntmps98
  go_wp2_with fail
  refine (indexI a n cap zs x _ hr hn).mono ?_
  rintro e w2 ⟨⟨i, rfl, hi⟩, rfl⟩
  go_wp2
  go_ret
  exact ⟨retb rfl, rfl⟩

set_option maxHeartbeats 1000000 in
theorem parcelF (pd ph pc : Nat) (lo hi : Int) (aH : Option Addr) (nH cH : Nat) (hs : List Int) (aK : Option Addr) (cK : Nat) (zs : List Int) (x y : Int) (aS : Option Addr) (cS : Nat) (S : List S3) (w : World)
    (d0 : w.cell? ⟨pd, 0, none⟩ = some (.int .i64 lo)) (d1 : w.cell? ⟨pd, 1, none⟩ = some (.int .i64 hi)) (h0 : w.cell? ⟨ph, 0, none⟩ = some (.slice aH nH cH)) (k6 : w.cell? ⟨pc, 6, none⟩ = some (.slice aK zs.length cK))
    (hH : Row w w.heap.size aH nH hs) (hnH : nH ≤ 1048576) (hk : Row w w.heap.size aK zs.length zs) (hnk : zs.length ≤ 1048576) (hS : Row3 w w.heap.size aS S.length S) (hnS : S.length ≤ 1048576) :
    Calls Tryz.prog 97 #[.agg #[.int .i64 x, .int .i64 y, .slice aS S.length cS], .pointer (some ⟨pd, 0, none⟩), .pointer (some ⟨ph, 0, none⟩), .pointer (some ⟨pc, 0, none⟩)] w fun e w' => e = .returned (.bool (LK lo hi x || (!IH hs y || (decide (48 < S.length) || !AL zs zs.length S)))) ∧ Below w.heap.size w w' := by
  have B := (Below.refl w.heap.size w).alloc (Nat.le_refl _) (.cells #[.int .i64 x, .int .i64 y, .slice aS S.length cS] 96)
  have R := Room.new w [.int .i64 x, .int .i64 y, .slice aS S.length cS] 96
  have f0 : (w.alloc (.cells #[.int .i64 x, .int .i64 y, .slice aS S.length cS] 96)).cell? ⟨pd, 0, none⟩ = some (.int .i64 lo) := (B.cell (p := ⟨pd, 0, none⟩) (World.block_lt_of_cell? _ _ d0)).trans d0
  have f1 : (w.alloc (.cells #[.int .i64 x, .int .i64 y, .slice aS S.length cS] 96)).cell? ⟨pd, 1, none⟩ = some (.int .i64 hi) := (B.cell (p := ⟨pd, 1, none⟩) (World.block_lt_of_cell? _ _ d1)).trans d1
  have f2 : (w.alloc (.cells #[.int .i64 x, .int .i64 y, .slice aS S.length cS] 96)).cell? ⟨ph, 0, none⟩ = some (.slice aH nH cH) := (B.cell (p := ⟨ph, 0, none⟩) (World.block_lt_of_cell? _ _ h0)).trans h0
  have f3 : (w.alloc (.cells #[.int .i64 x, .int .i64 y, .slice aS S.length cS] 96)).cell? ⟨pc, 6, none⟩ = some (.slice aK zs.length cK) := (B.cell (p := ⟨pc, 6, none⟩) (World.block_lt_of_cell? _ _ k6)).trans k6
  replace hH := (hH.later B (Nat.le_refl _)).more B.size
  replace hk := (hk.later B (Nat.le_refl _)).more B.size
  replace hS := hS.below B
  have c0 := R.cell 0 rfl
  clear d0 d1 h0 k6
  go_enter Tryz.func97, Tryz.ntmps97
  go_wp2_with fail
  generalize w.alloc (.cells #[.int .i64 x, .int .i64 y, .slice aS S.length cS] 96) = w1 at B R f2 f3 hH hk hS ⊢
  clear c0 f0 f1
  refine (Sp.i_lacks lo hi x _).mono ?_
  rintro e w2 ⟨rfl, b2⟩
  replace R := R.below b2
  replace f2 := (b2.cell (p := ⟨ph, 0, none⟩) (World.block_lt_of_cell? _ _ f2)).trans f2
  replace f3 := (b2.cell (p := ⟨pc, 6, none⟩) (World.block_lt_of_cell? _ _ f3)).trans f3
  replace hH := (hH.later b2 (Nat.le_refl _)).more b2.size
  replace hk := (hk.later b2 (Nat.le_refl _)).more b2.size
  replace hS := hS.below b2
  replace B := B.trans (b2.mono B.size)
  clear b2
  cases hl : LK lo hi x with
  | true =>
    have HV : Hid ((LK lo hi x || (!IH hs y || (decide (48 < S.length) || !AL zs zs.length S))) = true) := by show _ = _; rw [hl]; rfl
    clear hl
    go_wp2
    go_ret
    exact ⟨retb HV.out.symm, B⟩
  | false =>
    have c1 := R.cell 1 rfl
    go_wp2_with fail
    refine (i_contains aH nH cH hs y _ hH hnH).mono ?_
    rintro e w3 ⟨rfl, rfl⟩
    clear c1
    cases hh : IH hs y with
    | false =>
      have HV : Hid ((LK lo hi x || (!IH hs y || (decide (48 < S.length) || !AL zs zs.length S))) = true) := by show _ = _; rw [hl, hh]; rfl
      clear hl hh
      go_wp2
      go_ret
      exact ⟨retb HV.out.symm, B⟩
    | true =>
      have c2 := R.cell 2 rfl
      by_cases h48 : 48 < S.length
      · have d48 : decide ((S.length : Int) > 48) = true := decide_eq_true (by omega)
        have HV : Hid ((LK lo hi x || (!IH hs y || (decide (48 < S.length) || !AL zs zs.length S))) = true) := by show _ = _; rw [hl, hh, decide_eq_true h48]; rfl
        clear h48 hl hh
        go_wp2
        go_ret
        exact ⟨retb HV.out.symm, B⟩
      · have d48 : decide ((S.length : Int) > 48) = false := decide_eq_false (by omega)
        have HV : Hid ((LK lo hi x || (!IH hs y || (decide (48 < S.length) || !AL zs zs.length S))) = !AL zs zs.length S) := by show _ = _; rw [hl, hh, decide_eq_false h48]; rfl
        clear h48 hl hh
        go_wp2_with fail
        refine (i_allRight aK zs.length cK zs aS S.length cS S _ hk hnk hS hnS).mono ?_
        rintro e w4 ⟨rfl, b4⟩
        go_wp2
        go_ret
        exact ⟨retb HV.out.symm, B.trans (b4.mono B.size)⟩

/-- One of a row is so, as a closure tells. -/
abbrev HEParcels (pd ph pc : Nat) (a : Option Addr) (n : Nat) (G : Nat → Bool) (w : World) : Prop := ∀ k, k < n → ∃ (b off : Nat) (x0 x1 : Int) (aS : Option Addr) (nS cS : Nat), a = some ⟨b, off, none⟩ ∧ (∀ w', Below w.heap.size w w' → w'.cell? ⟨b, off + k * 3, none⟩ = some (.int .i64 x0) ∧ w'.cell? ⟨b, off + k * 3 + 1, none⟩ = some (.int .i64 x1) ∧ w'.cell? ⟨b, off + k * 3 + 2, none⟩ = some (.slice aS nS cS)) ∧ (∀ w', Below w.heap.size w w' → Calls Tryz.prog 97 #[.agg #[.int .i64 x0, .int .i64 x1, .slice aS nS cS], .pointer (some ⟨pd, 0, none⟩), .pointer (some ⟨ph, 0, none⟩), .pointer (some ⟨pc, 0, none⟩)] w' fun e w'' => e = .returned (.bool (G k)) ∧ Below w'.heap.size w' w'')
set_option maxHeartbeats 1000000 in
theorem indexParcels (pd ph pc : Nat) (a : Option Addr) (n cap : Nat) (G : Nat → Bool) (w : World) (hn : n ≤ 1048576) (HE : Hid (HEParcels pd ph pc a n G w)) :
    Calls Tryz.prog 129 #[.slice a n cap, .func (Fn.func 97) #[] #[.pointer (some ⟨pd, 0, none⟩), .pointer (some ⟨ph, 0, none⟩), .pointer (some ⟨pc, 0, none⟩)]] w fun e w' => (∃ i : Int, e = .returned (.int .i64 i) ∧ decide (0 ≤ i) = AN G n) ∧ Below w.heap.size w w' := by
  go_enter Tryz.func129, Tryz.ntmps129
  go_wp2
  go_loopw [8] (fun i w' => ∃ k : Nat, k ≤ n ∧ i = .int .i64 k ∧ Hid (AN G k = false ∧ Below w.heap.size w w')) (fun i _ => n - (intOf i).toNat)
  case atStart => exact ⟨0, Nat.zero_le _, rfl, ⟨rfl, Below.refl _ _⟩⟩
  case round =>
    obtain ⟨k, hk, rfl, HH⟩ := hrel
    by_cases hlt : k < n
    · have hi : (k : Int) < n := by omega
      obtain ⟨b, off, x0, x1, aS, nS, cS, rfl, hc, hcall⟩ := HE.out k hlt
      obtain ⟨e0, e1, e2⟩ := hc _ HH.out.2
      have HC := hid (hcall _ HH.out.2)
      clear hc hcall
      cases hg : G k with
      | true =>
        have HF : Hid (AN G n = true) := an_yes hlt hg
        rw [hg] at HC
        clear hg
        go_wp2_with (go_at_call 97; refine (HC.out).mono ?_; rintro e w2 ⟨rfl, hb2⟩)
        go_ret
        exact ⟨⟨_, rfl, by rw [HF.out]; exact decide_eq_true (by omega)⟩, HH.out.2.trans (hb2.mono HH.out.2.size)⟩
      | false =>
        have HN : Hid (AN G (k + 1) = false) := an_next HH.out.1 hg
        rw [hg] at HC
        clear hg
        go_wp2_with (go_at_call 97; refine (HC.out).mono ?_; rintro e w2 ⟨rfl, hb2⟩)
        go_roundw
        case rel => exact ⟨k + 1, by omega, by go_num, ⟨HN.out, HH.out.2.trans (hb2.mono HH.out.2.size)⟩⟩
        case measure => simp [intOf]; omega
    · have hi : ¬ (k : Int) < n := by omega
      obtain rfl : k = n := by omega
      go_wp2
      go_ret
      exact ⟨⟨_, rfl, by rw [HH.out.1]; rfl⟩, HH.out.2⟩

theorem containsParcels (pd ph pc : Nat) (a : Option Addr) (n cap : Nat) (G : Nat → Bool) (w : World) (hn : n ≤ 1048576) (HE : Hid (HEParcels pd ph pc a n G w)) :
    Calls Tryz.prog 100 #[.slice a n cap, .func (Fn.func 97) #[] #[.pointer (some ⟨pd, 0, none⟩), .pointer (some ⟨ph, 0, none⟩), .pointer (some ⟨pc, 0, none⟩)]] w fun e w' => e = .returned (.bool (AN G n)) ∧ Below w.heap.size w w' := by
  go_enter Tryz.func100, Tryz.ntmps100
  go_wp2_with fail
  refine (indexParcels pd ph pc a n cap G _ hn HE).mono ?_
  rintro e w2 ⟨⟨i, rfl, hi⟩, hb⟩
  go_wp2
  go_ret
  exact ⟨retb rfl, hb⟩

set_option maxHeartbeats 1000000 in
theorem factF (ph pr pt : Nat) (l1 h1 l2 h2 : Int) (aH : Option Addr) (nH cH : Nat) (hs : List Int) (x0 x1 x2 : Int) (w : World)
    (d0 : w.cell? ⟨pr, 0, none⟩ = some (.int .i64 l1)) (d1 : w.cell? ⟨pr, 1, none⟩ = some (.int .i64 h1)) (e0 : w.cell? ⟨pt, 0, none⟩ = some (.int .i64 l2)) (e1 : w.cell? ⟨pt, 1, none⟩ = some (.int .i64 h2)) (h0 : w.cell? ⟨ph, 0, none⟩ = some (.slice aH nH cH))
    (hH : Row w w.heap.size aH nH hs) (hnH : nH ≤ 1048576) :
    Calls Tryz.prog 101 #[.agg #[.int .i64 x0, .int .i64 x1, .int .i64 x2], .pointer (some ⟨ph, 0, none⟩), .pointer (some ⟨pr, 0, none⟩), .pointer (some ⟨pt, 0, none⟩)] w fun e w' => e = .returned (.bool (!IH hs x0 || (LK l1 h1 x1 || LK l2 h2 x2))) ∧ Below w.heap.size w w' := by
  have B := (Below.refl w.heap.size w).alloc (Nat.le_refl _) (.cells #[.int .i64 x0, .int .i64 x1, .int .i64 x2] 98)
  have R := Room.new w [.int .i64 x0, .int .i64 x1, .int .i64 x2] 98
  have f0 : (w.alloc (.cells #[.int .i64 x0, .int .i64 x1, .int .i64 x2] 98)).cell? ⟨pr, 0, none⟩ = some (.int .i64 l1) := (B.cell (p := ⟨pr, 0, none⟩) (World.block_lt_of_cell? _ _ d0)).trans d0
  have f1 : (w.alloc (.cells #[.int .i64 x0, .int .i64 x1, .int .i64 x2] 98)).cell? ⟨pr, 1, none⟩ = some (.int .i64 h1) := (B.cell (p := ⟨pr, 1, none⟩) (World.block_lt_of_cell? _ _ d1)).trans d1
  have g0 : (w.alloc (.cells #[.int .i64 x0, .int .i64 x1, .int .i64 x2] 98)).cell? ⟨pt, 0, none⟩ = some (.int .i64 l2) := (B.cell (p := ⟨pt, 0, none⟩) (World.block_lt_of_cell? _ _ e0)).trans e0
  have g1 : (w.alloc (.cells #[.int .i64 x0, .int .i64 x1, .int .i64 x2] 98)).cell? ⟨pt, 1, none⟩ = some (.int .i64 h2) := (B.cell (p := ⟨pt, 1, none⟩) (World.block_lt_of_cell? _ _ e1)).trans e1
  have f2 : (w.alloc (.cells #[.int .i64 x0, .int .i64 x1, .int .i64 x2] 98)).cell? ⟨ph, 0, none⟩ = some (.slice aH nH cH) := (B.cell (p := ⟨ph, 0, none⟩) (World.block_lt_of_cell? _ _ h0)).trans h0
  replace hH := (hH.later B (Nat.le_refl _)).more B.size
  have c0 := R.cell 0 rfl
  clear d0 d1 e0 e1 h0
  go_enter Tryz.func101, Tryz.ntmps101
  go_wp2_with fail
  generalize w.alloc (.cells #[.int .i64 x0, .int .i64 x1, .int .i64 x2] 98) = w1 at B R f0 f1 g0 g1 hH ⊢
  clear c0 f2
  refine (i_contains aH nH cH hs x0 _ hH hnH).mono ?_
  rintro e w3 ⟨rfl, rfl⟩
  cases hh : IH hs x0 with
  | false =>
    have HV : Hid ((!IH hs x0 || (LK l1 h1 x1 || LK l2 h2 x2)) = true) := by show _ = _; rw [hh]; rfl
    clear hh
    go_wp2
    go_ret
    exact ⟨retb HV.out.symm, B⟩
  | true =>
    have c1 := R.cell 1 rfl
    go_wp2_with fail
    clear c1 f0 f1
    refine (Sp.i_lacks l1 h1 x1 _).mono ?_
    rintro e w4 ⟨rfl, b4⟩
    replace R := R.below b4
    replace g0 := (b4.cell (p := ⟨pt, 0, none⟩) (World.block_lt_of_cell? _ _ g0)).trans g0
    replace g1 := (b4.cell (p := ⟨pt, 1, none⟩) (World.block_lt_of_cell? _ _ g1)).trans g1
    replace B := B.trans (b4.mono B.size)
    clear b4
    cases hl : LK l1 h1 x1 with
    | true =>
      have HV : Hid ((!IH hs x0 || (LK l1 h1 x1 || LK l2 h2 x2)) = true) := by show _ = _; rw [hh, hl]; rfl
      clear hh hl
      go_wp2
      go_ret
      exact ⟨retb HV.out.symm, B⟩
    | false =>
      have HV : Hid ((!IH hs x0 || (LK l1 h1 x1 || LK l2 h2 x2)) = LK l2 h2 x2) := by show _ = _; rw [hh, hl]; rfl
      clear hh hl
      have c2 := R.cell 2 rfl
      go_wp2_with fail
      refine (Sp.i_lacks l2 h2 x2 _).mono ?_
      rintro e w5 ⟨rfl, b5⟩
      go_wp2
      go_ret
      exact ⟨retb HV.out.symm, B.trans (b5.mono B.size)⟩

/-- One of a row is so, as a closure tells. -/
abbrev HEFacts (ph pr pt : Nat) (a : Option Addr) (n : Nat) (G : Nat → Bool) (w : World) : Prop := ∀ k, k < n → ∃ (b off : Nat) (x0 x1 x2 : Int), a = some ⟨b, off, none⟩ ∧ (∀ w', Below w.heap.size w w' → w'.cell? ⟨b, off + k * 3, none⟩ = some (.int .i64 x0) ∧ w'.cell? ⟨b, off + k * 3 + 1, none⟩ = some (.int .i64 x1) ∧ w'.cell? ⟨b, off + k * 3 + 2, none⟩ = some (.int .i64 x2)) ∧ (∀ w', Below w.heap.size w w' → Calls Tryz.prog 101 #[.agg #[.int .i64 x0, .int .i64 x1, .int .i64 x2], .pointer (some ⟨ph, 0, none⟩), .pointer (some ⟨pr, 0, none⟩), .pointer (some ⟨pt, 0, none⟩)] w' fun e w'' => e = .returned (.bool (G k)) ∧ Below w'.heap.size w' w'')
set_option maxHeartbeats 1000000 in
theorem indexFacts (ph pr pt : Nat) (a : Option Addr) (n cap : Nat) (G : Nat → Bool) (w : World) (hn : n ≤ 1048576) (HE : Hid (HEFacts ph pr pt a n G w)) :
    Calls Tryz.prog 130 #[.slice a n cap, .func (Fn.func 101) #[] #[.pointer (some ⟨ph, 0, none⟩), .pointer (some ⟨pr, 0, none⟩), .pointer (some ⟨pt, 0, none⟩)]] w fun e w' => (∃ i : Int, e = .returned (.int .i64 i) ∧ decide (0 ≤ i) = AN G n) ∧ Below w.heap.size w w' := by
  go_enter Tryz.func130, Tryz.ntmps130
  go_wp2
  go_loopw [8] (fun i w' => ∃ k : Nat, k ≤ n ∧ i = .int .i64 k ∧ Hid (AN G k = false ∧ Below w.heap.size w w')) (fun i _ => n - (intOf i).toNat)
  case atStart => exact ⟨0, Nat.zero_le _, rfl, ⟨rfl, Below.refl _ _⟩⟩
  case round =>
    obtain ⟨k, hk, rfl, HH⟩ := hrel
    by_cases hlt : k < n
    · have hi : (k : Int) < n := by omega
      obtain ⟨b, off, x0, x1, x2, rfl, hc, hcall⟩ := HE.out k hlt
      obtain ⟨e0, e1, e2⟩ := hc _ HH.out.2
      have HC := hid (hcall _ HH.out.2)
      clear hc hcall
      cases hg : G k with
      | true =>
        have HF : Hid (AN G n = true) := an_yes hlt hg
        rw [hg] at HC
        clear hg
        go_wp2_with (go_at_call 101; refine (HC.out).mono ?_; rintro e w2 ⟨rfl, hb2⟩)
        go_ret
        exact ⟨⟨_, rfl, by rw [HF.out]; exact decide_eq_true (by omega)⟩, HH.out.2.trans (hb2.mono HH.out.2.size)⟩
      | false =>
        have HN : Hid (AN G (k + 1) = false) := an_next HH.out.1 hg
        rw [hg] at HC
        clear hg
        go_wp2_with (go_at_call 101; refine (HC.out).mono ?_; rintro e w2 ⟨rfl, hb2⟩)
        go_roundw
        case rel => exact ⟨k + 1, by omega, by go_num, ⟨HN.out, HH.out.2.trans (hb2.mono HH.out.2.size)⟩⟩
        case measure => simp [intOf]; omega
    · have hi : ¬ (k : Int) < n := by omega
      obtain rfl : k = n := by omega
      go_wp2
      go_ret
      exact ⟨⟨_, rfl, by rw [HH.out.1]; rfl⟩, HH.out.2⟩

theorem containsFacts (ph pr pt : Nat) (a : Option Addr) (n cap : Nat) (G : Nat → Bool) (w : World) (hn : n ≤ 1048576) (HE : Hid (HEFacts ph pr pt a n G w)) :
    Calls Tryz.prog 102 #[.slice a n cap, .func (Fn.func 101) #[] #[.pointer (some ⟨ph, 0, none⟩), .pointer (some ⟨pr, 0, none⟩), .pointer (some ⟨pt, 0, none⟩)]] w fun e w' => e = .returned (.bool (AN G n)) ∧ Below w.heap.size w w' := by
  go_enter Tryz.func102, Tryz.ntmps102
  go_wp2_with fail
  refine (indexFacts ph pr pt a n cap G _ hn HE).mono ?_
  rintro e w2 ⟨⟨i, rfl, hi⟩, hb⟩
  go_wp2
  go_ret
  exact ⟨retb rfl, hb⟩

end Go.Proofs.YtimakfokgcnklaaGreat.Mi
