/-
  Slices of seals: a copy of one; whether two are alike; one that is marked, one whose marks are held.
-/
import Derived.Test.YtimakfokgcnklaaGreatRm
import Derived.Deep.RegionHeld3
import Derived.Test.YtimakfokgcnklaaGreatTk
namespace Go.Proofs.YtimakfokgcnklaaGreat.Sb
open Go.ChangeShapes Go.WideShapes Go.ChangeAt Go.RowKit
open Rm (Room)
set_option linter.unusedVariables false
set_option linter.unusedSimpArgs false

abbrev S3 := Int × Int × Int
def es (ss : List S3) (k : Nat) : S3 := ss.getD k (0, 0, 0)
abbrev sl (s : S3) : Value := .agg #[.int .i64 s.1, .int .i64 s.2.1, .int .i64 s.2.2]
/-- Their cells. -/
def fl : List S3 → List Value
  | [] => []
  | s :: ss => .int .i64 s.1 :: .int .i64 s.2.1 :: .int .i64 s.2.2 :: fl ss
theorem fl_len (ss : List S3) : (fl ss).length = ss.length * 3 := by
  induction ss with
  | nil => rfl
  | cons s ss ih => simp [fl, ih]; omega
theorem fl_at (ss : List S3) (k : Nat) (hk : k < ss.length) : (fl ss)[k * 3]? = some (.int .i64 (es ss k).1) ∧ (fl ss)[k * 3 + 1]? = some (.int .i64 (es ss k).2.1) ∧ (fl ss)[k * 3 + 2]? = some (.int .i64 (es ss k).2.2) := by
  induction ss generalizing k with
  | nil => simp at hk
  | cons s ss ih =>
    cases k with
    | zero => exact ⟨rfl, rfl, rfl⟩
    | succ k =>
      have e : (k + 1) * 3 = k * 3 + 3 := by omega
      have q := ih k (by simpa using hk)
      rw [e]
      exact q
theorem fl_set (ss : List S3) (k : Nat) (s : S3) : fl (ss.set k s) = (((fl ss).set (k * 3) (.int .i64 s.1)).set (k * 3 + 1) (.int .i64 s.2.1)).set (k * 3 + 2) (.int .i64 s.2.2) := by
  induction ss generalizing k with
  | nil => simp [fl]
  | cons x ss ih =>
    cases k with
    | zero => rfl
    | succ k =>
      have e : (k + 1) * 3 = k * 3 + 3 := by omega
      rw [e, List.set_cons_succ, fl, ih k]
      rfl
theorem es_set (ss : List S3) (k i : Nat) (s : S3) (hk : k < ss.length) : es (ss.set k s) i = if i = k then s else es ss i := by
  unfold es
  by_cases e : i = k
  · subst e; simp [List.getD, hk]
  · rw [if_neg e]; simp [List.getD, List.getElem?_set, Ne.symm e]
theorem es_ext {a b : List S3} (h : a.length = b.length) (he : ∀ i, i < a.length → es a i = es b i) : a = b := by
  apply List.ext_getElem h
  intro i h1 h2
  have := he i h1
  simpa [es, List.getD, h1, h2] using this

/-- A slice of seals: its first n hold ss, below block B. -/
def Row3 (w : World) (B : Nat) (a : Option Addr) (n : Nat) (ss : List S3) : Prop :=
  ss.length = n ∧ (n = 0 ∨ ∃ b off, a = some ⟨b, off, none⟩ ∧ b < B ∧ ∀ k, k < n → w.cell? ⟨b, off + k * 3, none⟩ = some (.int .i64 (es ss k).1) ∧ w.cell? ⟨b, off + k * 3 + 1, none⟩ = some (.int .i64 (es ss k).2.1) ∧ w.cell? ⟨b, off + k * 3 + 2, none⟩ = some (.int .i64 (es ss k).2.2))
theorem Row3.later {w w' : World} {B B' : Nat} {a : Option Addr} {n : Nat} {ss : List S3} (h : Row3 w B a n ss) (hb : Below B' w w') (hB : B ≤ B') : Row3 w' B a n ss := by
  obtain ⟨h1, h2⟩ := h
  refine ⟨h1, ?_⟩
  rcases h2 with h2 | ⟨b, off, e, hB1, hc⟩
  · exact .inl h2
  · refine .inr ⟨b, off, e, hB1, fun k hk => ?_⟩
    have q : ∀ o, w'.cell? ⟨b, o, none⟩ = w.cell? ⟨b, o, none⟩ := fun o => hb.cell (p := ⟨b, o, none⟩) (by simp; omega)
    rw [q, q, q]
    exact hc k hk
theorem Row3.more {w : World} {B B' : Nat} {a : Option Addr} {n : Nat} {ss : List S3} (h : Row3 w B a n ss) (hB : B ≤ B') : Row3 w B' a n ss := by
  obtain ⟨h1, h2⟩ := h
  refine ⟨h1, ?_⟩
  rcases h2 with h2 | ⟨b, off, e, hB1, hc⟩
  · exact .inl h2
  · exact .inr ⟨b, off, e, by omega, hc⟩
theorem Row3.below {w w' : World} {a : Option Addr} {n : Nat} {ss : List S3} (h : Row3 w w.heap.size a n ss) (b : Below w.heap.size w w') : Row3 w' w'.heap.size a n ss := (h.later b (Nat.le_refl _)).more b.size
/-- Another row that has grown. -/
theorem Row3.kept {w w' : World} {B b n : Nat} {a : Option Addr} {ss : List S3} (h : Row3 w B a n ss) (hg : w.grownBy w' (some b)) (hb : B ≤ b) (hB : B ≤ w.heap.size) : Row3 w' B a n ss := by
  obtain ⟨h1, h2⟩ := h
  refine ⟨h1, ?_⟩
  rcases h2 with h2 | ⟨g, off, e, hB1, hc⟩
  · exact .inl h2
  · refine .inr ⟨g, off, e, hB1, fun k hk => ?_⟩
    have e : w'.heap[g]? = w.heap[g]? := hg.block g (by omega) (by simp; omega)
    have q : ∀ o, w'.cell? ⟨g, o, none⟩ = w.cell? ⟨g, o, none⟩ := fun o => World.cell?_of_block (w := w) (a := ⟨g, o, none⟩) e
    rw [q, q, q]
    exact hc k hk

/-- Cells at block g, from off on, that can be written. -/
def At (w : World) (g off : Nat) (vs : List Value) : Prop := ∀ i v, vs[i]? = some v → w.cell? ⟨g, off + i, none⟩ = some v ∧ w.frozen? ⟨g, off + i, none⟩ = false
theorem At.block {w w1 : World} {g off : Nat} {vs : List Value} (h : At w g off vs) (e : w1.heap[g]? = w.heap[g]?) : At w1 g off vs := fun i v hv => by
  obtain ⟨a, b⟩ := h i v hv
  exact ⟨by rw [World.cell?_of_block (a := ⟨g, off + i, none⟩) e]; exact a, by rw [World.frozen?_of_block (a := ⟨g, off + i, none⟩) e]; exact b⟩
theorem At.set {w : World} {g off : Nat} {vs : List Value} (h : At w g off vs) (i : Nat) (u : Value) : At (w.setCell ⟨g, off + i, none⟩ u) g off (vs.set i u) := fun j v hv => by
  by_cases e : i = j
  · subst e
    by_cases hi : i < vs.length
    · rw [List.getElem?_set_self hi] at hv
      cases hv
      have q := h i _ (List.getElem?_eq_getElem hi)
      exact ⟨World.cell?_setCell_same _ _ _ q.1, by rw [World.frozen?_setCell]; exact q.2⟩
    · rw [List.getElem?_eq_none (by simp; omega)] at hv; cases hv
  · rw [List.getElem?_set_ne e] at hv
    have q := h j v hv
    exact ⟨by rw [World.cell?_setCell_other _ _ _ _ (by simp <;> omega)]; exact q.1, by rw [World.frozen?_setCell]; exact q.2⟩
/-- From off on at block g, which is no older than B, lie these seals, and can be written. -/
def SHas (w : World) (B g off n : Nat) (ss : List S3) : Prop := ss.length = n ∧ B ≤ g ∧ g < w.heap.size ∧ At w g off (fl ss)
theorem SHas.row {w : World} {B g off n : Nat} {ss : List S3} (h : SHas w B g off n ss) : Row3 w w.heap.size (some ⟨g, off, none⟩) n ss :=
  ⟨h.1, .inr ⟨g, off, rfl, h.2.2.1, fun k hk => by
    obtain ⟨q0, q1, q2⟩ := fl_at ss k (by rw [h.1]; exact hk)
    exact ⟨(h.2.2.2 _ _ q0).1, (h.2.2.2 _ _ q1).1, (h.2.2.2 _ _ q2).1⟩⟩⟩
theorem SHas.later {w w' : World} {B B' g off n : Nat} {ss : List S3} (h : SHas w B g off n ss) (hb : Below B' w w') (hg : g < B') : SHas w' B g off n ss :=
  ⟨h.1, h.2.1, by have := hb.size; have := h.2.2.1; omega, h.2.2.2.block (hb.block g hg)⟩
theorem SHas.below {w w' : World} {B g off n : Nat} {ss : List S3} (h : SHas w B g off n ss) (hb : Below w.heap.size w w') : SHas w' B g off n ss := h.later hb h.2.2.1
theorem SHas.kept {w w' : World} {B b g off n : Nat} {ss : List S3} (h : SHas w B g off n ss) (hg : w.grownBy w' (some b)) (hne : g ≠ b) : SHas w' B g off n ss :=
  ⟨h.1, h.2.1, by have := hg.size; have := h.2.2.1; omega, h.2.2.2.block (hg.block g h.2.2.1 (by simpa using hne))⟩
theorem SHas.mono {w : World} {B B' g off n : Nat} {ss : List S3} (h : SHas w B g off n ss) (hB : B' ≤ B) : SHas w B' g off n ss := ⟨h.1, by have := h.2.1; omega, h.2.2⟩

theorem SHas.put {w : World} {B g off n : Nat} {ss : List S3} (h : SHas w B g off n ss) (k : Nat) (x : S3) : SHas (((w.setCell ⟨g, off + k * 3, none⟩ (.int .i64 x.1)).setCell ⟨g, off + k * 3 + 1, none⟩ (.int .i64 x.2.1)).setCell ⟨g, off + k * 3 + 2, none⟩ (.int .i64 x.2.2)) B g off n (ss.set k x) := by
  refine ⟨by simp [h.1], h.2.1, by simpa [World.setCell] using h.2.2.1, ?_⟩
  rw [fl_set]
  exact ((h.2.2.2.set (k * 3) _).set (k * 3 + 1) _).set (k * 3 + 2) _
theorem SHas.cells {w : World} {B g off n : Nat} {ss : List S3} (h : SHas w B g off n ss) (k : Nat) (hk : k < n) : (w.cell? ⟨g, off + k * 3, none⟩ = some (.int .i64 (es ss k).1) ∧ w.frozen? ⟨g, off + k * 3, none⟩ = false) ∧ (w.cell? ⟨g, off + k * 3 + 1, none⟩ = some (.int .i64 (es ss k).2.1) ∧ w.frozen? ⟨g, off + k * 3 + 1, none⟩ = false) ∧ (w.cell? ⟨g, off + k * 3 + 2, none⟩ = some (.int .i64 (es ss k).2.2) ∧ w.frozen? ⟨g, off + k * 3 + 2, none⟩ = false) := by
  obtain ⟨q0, q1, q2⟩ := fl_at ss k (by rw [h.1]; exact hk)
  exact ⟨h.2.2.2 _ _ q0, h.2.2.2 _ _ q1, h.2.2.2 _ _ q2⟩
theorem SHas.setOther {w : World} {B g off n : Nat} {ss : List S3} (h : SHas w B g off n ss) {q : Nat} (hne : q ≠ g) (i : Nat) (u : Value) : SHas (w.setCell ⟨q, i, none⟩ u) B g off n ss :=
  ⟨h.1, h.2.1, by simpa using h.2.2.1, h.2.2.2.block (Below.heap_setCell _ _ _ _ (by simp; omega))⟩

theorem info3 : (Tryz.prog.info? 125).map (fun i => (i.zero, i.size, i.bytes)) = some (some (.agg #[.int .i64 0, .int .i64 0, .int .i64 0]), 3, 24) := by kernel_rfl
theorem made3 (n : Nat) : madeCells #[.int .i64 0, .int .i64 0, .int .i64 0] (n * 3) = (List.replicate (n * 3) (.int .i64 0 : Value)).toArray := by
  apply Array.ext
  · simp [size_madeCells]
  · intro i h1 h2
    have h3 : i % 3 < 3 := Nat.mod_lt _ (by omega)
    simp only [madeCells, Array.getElem_map, Array.getElem_range, List.getElem_toArray, List.getElem_replicate]
    have : (#[.int .i64 0, .int .i64 0, .int .i64 0] : Array Value).size = 3 := rfl
    rw [this]
    rcases (show i % 3 = 0 ∨ i % 3 = 1 ∨ i % 3 = 2 by omega) with e | e | e
    all_goals rw [e]; rfl
theorem run_make3 (n : Nat) (hn : n ≤ 1048576) (w : World) : (Instr.makeSlice 32 (.int .i64 (n : Int)) (.int .i64 (n : Int))).run Tryz.prog w = .ok (.slice (some ⟨w.heap.size, 0, none⟩) n n) (w.alloc (.cells (List.replicate (n * 3) (.int .i64 0 : Value)).toArray 125)) := by
  obtain ⟨i, hi, hzz⟩ := Option.map_eq_some_iff.1 info3
  simp only [Prod.mk.injEq] at hzz
  obtain ⟨hz, hs, hb⟩ := hzz
  have h := run_make (P := Tryz.prog) w 32 125 i _ Tryz.underlying32 hi hz .i64 .i64 (n : Int) (n : Int) (by omega) (by omega) (by rw [hb]; omega) (by omega)
  simp only [Int.toNat_natCast, hs] at h
  rw [h, ← made3]
  rfl
theorem fl_zero (n : Nat) : fl (List.replicate n (0, 0, 0)) = List.replicate (n * 3) (.int .i64 0) := by
  induction n with
  | zero => rfl
  | succ n ih =>
    rw [List.replicate_succ, fl, ih, show (n + 1) * 3 = n * 3 + 1 + 1 + 1 by omega, List.replicate_succ, List.replicate_succ, List.replicate_succ]

theorem toSeal (s : S3) (w : World) :
    Calls Tryz.prog 111 #[sl s] w fun e w' => e = .returned (sl s) ∧ Below w.heap.size w w' := by
  go_enter Tryz.func111, Tryz.ntmps111
  go_wp2
  refine bodyPost_ret (v := sl s) (by simp [results, Tryz.results111, go_sem]) rfl ⟨rfl, ?_⟩
  (repeat (first | exact Below.refl _ _ | assumption | refine Below.setCell ?_ (by first | omega | (simp <;> omega)) _ | refine Below.alloc ?_ (by first | omega | (simp <;> omega)) _ | refine Below.drew ?_ | refine below_drewN ?_ _ | refine Below.trans ?_ (Below.mono (by assumption) (by first | omega | (simp <;> omega)))))
theorem eqSeal (s : S3) (w : World) :
    Calls Tryz.prog 115 #[sl s, sl s] w fun e w' => e = .returned (.bool true) ∧ Below w.heap.size w w' := by
  go_enter Tryz.func115, Tryz.ntmps115
  go_wp2
  go_ret
  refine ⟨rfl, ?_⟩
  (repeat (first | exact Below.refl _ _ | assumption | refine Below.setCell ?_ (by first | omega | (simp <;> omega)) _ | refine Below.alloc ?_ (by first | omega | (simp <;> omega)) _ | refine Below.drew ?_ | refine below_drewN ?_ _ | refine Below.trans ?_ (Below.mono (by assumption) (by first | omega | (simp <;> omega)))))

set_option maxHeartbeats 4000000 in
theorem toSealS (a : Option Addr) (n cap : Nat) (ss : List S3) (w : World) (hr : Row3 w w.heap.size a n ss) (hn : n ≤ 1048576) :
    Calls Tryz.prog 69 #[.slice a n cap] w fun e w' => (∃ g, e = .returned (.slice (some ⟨g, 0, none⟩) n n) ∧ SHas w' w.heap.size g 0 n ss) ∧ Below w.heap.size w w' := by
  have hmk := run_make3 n hn
  have ⟨hz, hrow⟩ := hr
  have B0 := (Below.refl w.heap.size w).alloc (Nat.le_refl _) (.cells (List.replicate (n * 3) (.int .i64 0 : Value)).toArray 125)
  have U0 : Hid (∃ ts : List S3, (∀ i, i < 0 → es ts i = es ss i) ∧ SHas (w.alloc (.cells (List.replicate (n * 3) (.int .i64 0 : Value)).toArray 125)) w.heap.size w.heap.size 0 n ts) :=
    ⟨List.replicate n (0, 0, 0), fun i hi => by omega, by simp, Nat.le_refl _, by simp, fun i v hv => by
      rw [fl_zero] at hv
      have := Room.new w (List.replicate (n * 3) (.int .i64 0)) 125 i v hv
      rw [Nat.zero_add]
      exact this⟩
  go_enter Tryz.func69, Tryz.ntmps69
  go_wp2_with fail
  go_loopw [4] (fun i wr => ∃ k : Nat, k ≤ n ∧ i = .int .i64 k ∧ Hid (∃ ts : List S3, (∀ i, i < k → es ts i = es ss i) ∧ SHas wr w.heap.size w.heap.size 0 n ts) ∧ Below w.heap.size w wr) (fun i _ => n - (intOf i).toNat)
  case atStart => exact ⟨0, Nat.zero_le _, rfl, U0, B0⟩
  case round =>
    obtain ⟨k, hk, rfl, H, BB⟩ := hrel
    clear B0 U0
    by_cases hlt : k < n
    · have hi : (k : Int) < n := by omega
      obtain ⟨ts, hts, hS⟩ := H.out
      clear H
      have HT : Hid (∀ i, i < k → es ts i = es ss i) := hts
      clear hts
      rcases hrow with hrow | ⟨b, off, rfl, hB, hc⟩
      · omega
      have hR := Row3.later hr BB (Nat.le_refl _)
      obtain ⟨_, hr2 | ⟨b2, off2, e2, _, hc2⟩⟩ := hR
      · omega
      cases e2
      obtain ⟨c0, c1, c2⟩ := hc2 k hlt
      clear hc hc2
      go_wp2_with fail
      refine (toSeal (es ss k) _).mono ?_
      rintro e w2 ⟨rfl, b2⟩
      clear c0 c1 c2
      replace BB := BB.trans (b2.mono BB.size)
      replace hS := hS.below b2
      obtain ⟨⟨d0, f0⟩, ⟨d1, f1⟩, d2, f2⟩ := hS.cells k hlt
      have hS3 := hS.put k (es ss k)
      have hT3 : Hid (∀ i, i < k + 1 → es (ts.set k (es ss k)) i = es ss i) := fun i hi => by
        rw [es_set _ _ _ _ (by rw [hS.1]; exact hlt)]
        by_cases e : i = k
        · rw [if_pos e, e]
        · rw [if_neg e]; exact HT.out i (by omega)
      clear hS
      rw [Nat.zero_add] at hS3 d0 d1 d2 f0 f1 f2
      have BB3 := ((BB.setCell (p := ⟨w.heap.size, k * 3, none⟩) (Nat.le_refl _) (.int .i64 (es ss k).1)).setCell (p := ⟨w.heap.size, k * 3 + 1, none⟩) (Nat.le_refl _) (.int .i64 (es ss k).2.1)).setCell (p := ⟨w.heap.size, k * 3 + 2, none⟩) (Nat.le_refl _) (.int .i64 (es ss k).2.2)
      go_wp2_with fail
      go_roundw
      case rel => exact ⟨k + 1, by omega, by go_num, ⟨_, hT3.out, hS3⟩, BB3⟩
      case measure => simp [intOf]; omega
    · have hi : ¬ (k : Int) < n := by omega
      have e : k = n := by omega
      subst e
      obtain ⟨ts, hts, hS⟩ := H.out
      have e2 : ts = ss := es_ext (by rw [hS.1, hz]) (fun i hi => hts i (by have := hS.1; omega))
      subst e2
      go_wp2
      go_ret
      exact ⟨⟨_, rfl, hS⟩, BB⟩

set_option maxHeartbeats 4000000 in
theorem eqSealS (a b : Option Addr) (n cap cap' : Nat) (ss : List S3) (w : World) (hr : Row3 w w.heap.size a n ss) (hs : Row3 w w.heap.size b n ss) (hn : n ≤ 1048576) :
    Calls Tryz.prog 74 #[.slice a n cap, .slice b n cap'] w fun e w' => e = .returned (.bool true) ∧ Below w.heap.size w w' := by
  go_enter Tryz.func74, Tryz.ntmps74
  go_wp2
  go_loopw [5] (fun i w' => ∃ k : Nat, k ≤ n ∧ i = .int .i64 k ∧ Below w.heap.size w w') (fun i _ => n - (intOf i).toNat)
  case atStart => exact ⟨0, Nat.zero_le _, rfl, Below.refl _ _⟩
  case round =>
    obtain ⟨k, hk, rfl, BB⟩ := hrel
    by_cases hlt : k < n
    · have hi : (k : Int) < n := by omega
      obtain ⟨_, hx | ⟨b1, o1, rfl, hb1, hc1⟩⟩ := hr
      · omega
      obtain ⟨_, hy | ⟨b2, o2, rfl, hb2, hc2⟩⟩ := hs
      · omega
      have HC : ∀ w2, Below w.heap.size w w2 → (w2.cell? ⟨b1, o1 + k * 3, none⟩ = some (.int .i64 (es ss k).1) ∧ w2.cell? ⟨b1, o1 + k * 3 + 1, none⟩ = some (.int .i64 (es ss k).2.1) ∧ w2.cell? ⟨b1, o1 + k * 3 + 2, none⟩ = some (.int .i64 (es ss k).2.2)) ∧ (w2.cell? ⟨b2, o2 + k * 3, none⟩ = some (.int .i64 (es ss k).1) ∧ w2.cell? ⟨b2, o2 + k * 3 + 1, none⟩ = some (.int .i64 (es ss k).2.1) ∧ w2.cell? ⟨b2, o2 + k * 3 + 2, none⟩ = some (.int .i64 (es ss k).2.2)) := fun w2 B => by
        have q : ∀ o, w2.cell? ⟨b1, o, none⟩ = w.cell? ⟨b1, o, none⟩ := fun o => B.cell (p := ⟨b1, o, none⟩) hb1
        have q2 : ∀ o, w2.cell? ⟨b2, o, none⟩ = w.cell? ⟨b2, o, none⟩ := fun o => B.cell (p := ⟨b2, o, none⟩) hb2
        rw [q, q, q, q2, q2, q2]
        exact ⟨hc1 k hlt, hc2 k hlt⟩
      have HH : Hid (∀ w2, Below w.heap.size w w2 → (w2.cell? ⟨b1, o1 + k * 3, none⟩ = some (.int .i64 (es ss k).1) ∧ w2.cell? ⟨b1, o1 + k * 3 + 1, none⟩ = some (.int .i64 (es ss k).2.1) ∧ w2.cell? ⟨b1, o1 + k * 3 + 2, none⟩ = some (.int .i64 (es ss k).2.2)) ∧ (w2.cell? ⟨b2, o2 + k * 3, none⟩ = some (.int .i64 (es ss k).1) ∧ w2.cell? ⟨b2, o2 + k * 3 + 1, none⟩ = some (.int .i64 (es ss k).2.1) ∧ w2.cell? ⟨b2, o2 + k * 3 + 2, none⟩ = some (.int .i64 (es ss k).2.2))) := HC
      clear HC hc1 hc2
      replace BB := BB.drew
      go_wp2_with fail
      refine wp_region_noPanic ?_
      refine wp_region_held_drew (S := (fun w' => w'.cell? ⟨b1, o1 + k * 3, none⟩ = some (.int .i64 (es ss k).1) ∧ w'.cell? ⟨b1, o1 + k * 3 + 1, none⟩ = some (.int .i64 (es ss k).2.1) ∧ w'.cell? ⟨b1, o1 + k * 3 + 2, none⟩ = some (.int .i64 (es ss k).2.2) ∧ w'.cell? ⟨b2, o2 + k * 3, none⟩ = some (.int .i64 (es ss k).1) ∧ w'.cell? ⟨b2, o2 + k * 3 + 1, none⟩ = some (.int .i64 (es ss k).2.1) ∧ w'.cell? ⟨b2, o2 + k * 3 + 2, none⟩ = some (.int .i64 (es ss k).2.2) ∧ Hid (Below w.heap.size w w'))) (by kernel_rfl) (by obtain ⟨⟨x0, x1, x2⟩, x3, x4, x5⟩ := HH.out _ BB; exact ⟨x0, x1, x2, x3, x4, x5, BB⟩) (fun hHeld => ?_)
      refine Tk.W 0 (some 17) (.move (.tmp 0)) 32 none ?_
      refine Tk.W 1 (some 18) (.move (.tmp 5)) 3 none ?_
      refine Tk.W 2 (some 19) (.indexAddr 32 (.tmp 17) (.tmp 18)) 0 none ?_
      refine Tk.W 3 (some 20) (.load 125 (.tmp 19)) 125 none ?_
      refine Tk.W 4 (some 21) (.move (.tmp 1)) 32 none ?_
      refine Tk.W 5 (some 22) (.move (.tmp 5)) 3 none ?_
      refine Tk.W 6 (some 23) (.indexAddr 32 (.tmp 21) (.tmp 22)) 0 none ?_
      refine Tk.W 7 (some 24) (.load 125 (.tmp 23)) 125 none ?_
      refine Tk.R 8 (some 25) (.call ⟨.value (.func 115), #[.tmp 20, .tmp 24], #[125, 125]⟩) 4 none (fun K hK => ?_)
      go_simp
      refine (eqSeal (es ss k) _).mono ?_
      rintro e ve9 ⟨rfl, be9⟩
      have BB2 := hHeld.2.2.2.2.2.2.out.trans (be9.mono hHeld.2.2.2.2.2.2.out.size)
      clear be9
      try dsimp only
      refine hK.out _ _ (by obtain ⟨⟨x0, x1, x2⟩, x3, x4, x5⟩ := HH.out _ BB2; exact ⟨x0, x1, x2, x3, x4, x5, BB2⟩) ?_; clear hK K hHeld; intro hHeld; try simp only [Act.put, List.setIfInBounds_toArray, List.set_cons_zero, List.set_cons_succ]
      refine Tk.W 9 (some 26) (.unOp .not 4 (.tmp 25)) 4 none ?_
      refine wpAnyH_done (by kernel_rfl) ?_ _
      refine NoPanic.normal ?_
      clear hHeld
      go_wp2
      go_roundw
      case rel => exact ⟨k + 1, by omega, by go_num, BB2⟩
      case measure => simp [intOf]; omega
    · have hi : ¬ (k : Int) < n := by omega
      go_wp2
      go_ret
      exact ⟨rfl, BB⟩

end Go.Proofs.YtimakfokgcnklaaGreat.Sb
